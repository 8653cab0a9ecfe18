/- cubic: the curve; follow. -/
import Derived.Test.YtphkgijimbkgeaaWn
namespace Go.Proofs.Ytphkgijimbkgeaa
open Go.RowKit
set_option linter.unusedVariables false

abbrev wr (x : Int) : Int := IntKind.i64.wrap x
/-- When the curve is flat, in milliseconds behind its begin. -/
def Wv.flat (v : Wv) : Int := root (wr ((wr (wr (v.p - v.t) * 2500000000)).tdiv v.z))
def Wv.mil (v : Wv) (now rtt : Int) : Int := min (wr ((wr (wr (now - v.e) + rtt)).tdiv 1000)) 1000000
def Wv.dd (v : Wv) (now rtt : Int) : Int := cl (wr (v.mil now rtt - v.flat)) (-1000000) 1000000
def Wv.cube (v : Wv) (now rtt : Int) : Int := wr (wr (v.dd now rtt * v.dd now rtt) * v.dd now rtt)
/-- How far the curve is above its peak. -/
def bes (c z : Int) : Int := wr (wr ((wr (wr (wr (c.tdiv 1000000000) * z) * 2)).tdiv 5) + wr ((wr (c.tmod 1000000000 * z)).tdiv 2500000000))
def Wv.beside (v : Wv) (now rtt : Int) : Int := bes (v.cube now rtt) v.z

set_option maxRecDepth 100000 in
set_option maxHeartbeats 400000 in
theorem beside_c (b : Nat) (v : Wv) (now rtt : Int) (w : World) (h : Rt 45 w b v) (hz : v.z ≠ 0) : Calls Try.prog 29 #[.pointer (some ⟨b, 0, none⟩), .int .i64 now, .int .i64 rtt] w fun e w' => e = .returned (.int .i64 (v.beside now rtt)) ∧ Below w.heap.size w w' := by
  obtain ⟨c0, c1, c2, c3, c4, c5, c6, c7, c8⟩ := h.cells
  have HC : Aside (∀ X : World, Below w.heap.size w X → X.cell? ⟨b, 1, none⟩ = some (.int .i64 v.z) ∧ X.cell? ⟨b, 5, none⟩ = some (.int .i64 v.p) ∧ X.cell? ⟨b, 7, none⟩ = some (.int .i64 v.t)) := fun X hX => by
    obtain ⟨c0, c1, c2, c3, c4, c5, c6, c7, c8⟩ := (h.below hX).cells
    exact ⟨c1, c5, c7⟩
  have HC6 : Aside (∀ X : World, Below w.heap.size w X → X.cell? ⟨b, 1, none⟩ = some (.int .i64 v.z) ∧ X.cell? ⟨b, 6, none⟩ = some (.int .i64 v.e)) := fun X hX => by
    obtain ⟨c0, c1, c2, c3, c4, c5, c6, c7, c8⟩ := (h.below hX).cells
    exact ⟨c1, c6⟩
  have HBd : Aside (Below w.heap.size w w.drew) := (Below.refl _ w).drew
  obtain ⟨Z1, z1⟩ : ∃ x, IntKind.i64.wrap (v.p - v.t) = x := ⟨_, rfl⟩
  obtain ⟨Z2, z2⟩ : ∃ x, IntKind.i64.wrap (Z1 * 2500000000) = x := ⟨_, rfl⟩
  obtain ⟨Z3, z3⟩ : ∃ x, IntKind.i64.wrap (Z2.tdiv v.z) = x := ⟨_, rfl⟩
  obtain ⟨FL, hFL⟩ : ∃ x, root Z3 = x := ⟨_, rfl⟩
  obtain ⟨A1, a1⟩ : ∃ x, IntKind.i64.wrap (now - v.e) = x := ⟨_, rfl⟩
  obtain ⟨A2, a2⟩ : ∃ x, IntKind.i64.wrap (A1 + rtt) = x := ⟨_, rfl⟩
  obtain ⟨A3, a3⟩ : ∃ x, IntKind.i64.wrap (A2.tdiv 1000) = x := ⟨_, rfl⟩
  obtain ⟨M, hM⟩ : ∃ x, min A3 1000000 = x := ⟨_, rfl⟩
  obtain ⟨A4, a4⟩ : ∃ x, IntKind.i64.wrap (M - FL) = x := ⟨_, rfl⟩
  obtain ⟨D, hD⟩ : ∃ x, cl A4 (-1000000) 1000000 = x := ⟨_, rfl⟩
  obtain ⟨A5, a5⟩ : ∃ x, IntKind.i64.wrap (D * D) = x := ⟨_, rfl⟩
  obtain ⟨K, a6⟩ : ∃ x, IntKind.i64.wrap (A5 * D) = x := ⟨_, rfl⟩
  obtain ⟨B1, b1⟩ : ∃ x, IntKind.i64.wrap (K.tdiv 1000000000) = x := ⟨_, rfl⟩
  obtain ⟨B2, b2⟩ : ∃ x, IntKind.i64.wrap (B1 * v.z) = x := ⟨_, rfl⟩
  obtain ⟨B3, b3⟩ : ∃ x, IntKind.i64.wrap (B2 * 2) = x := ⟨_, rfl⟩
  obtain ⟨B4, b4⟩ : ∃ x, IntKind.i64.wrap (B3.tdiv 5) = x := ⟨_, rfl⟩
  obtain ⟨B6, b6⟩ : ∃ x, IntKind.i64.wrap (K.tmod 1000000000 * v.z) = x := ⟨_, rfl⟩
  obtain ⟨B7, b7⟩ : ∃ x, IntKind.i64.wrap (B6.tdiv 2500000000) = x := ⟨_, rfl⟩
  obtain ⟨R, b8⟩ : ∃ x, IntKind.i64.wrap (B4 + B7) = x := ⟨_, rfl⟩
  have HR : Aside (v.beside now rtt = R) := by
    show v.beside now rtt = R
    simp only [Wv.beside, bes, Wv.cube, Wv.dd, Wv.mil, Wv.flat, wr, z1, z2, z3, hFL, a1, a2, a3, hM, a4, hD, a5, a6, b1, b2, b3, b4, b6, b7, b8]
  have hro := root_c Z3 w.drew
  rw [hFL] at hro
  have hm := min_if A3 1000000
  rw [hM] at hm
  have HBT : Aside (∀ X, Calls Try.prog 21 #[.int .i64 A4, .int .i64 (-1000000), .int .i64 1000000] X fun e w' => e = .returned (.int .i64 D) ∧ w' = X) := fun X => by
    have := between_c A4 (-1000000) 1000000 X
    rw [hD] at this
    exact this
  clear h c0 c2 c3 c4 c8 hFL hM hD
  go_enter Try.func29, Try.ntmps29
  go_wp2_with fail
  go_region_held3 (fun w' => w'.cell? ⟨b, 1, none⟩ = some (.int .i64 v.z) ∧ w'.cell? ⟨b, 5, none⟩ = some (.int .i64 v.p) ∧ w'.cell? ⟨b, 7, none⟩ = some (.int .i64 v.t)) (first | exact HC.out _ HB4.out | exact HC.out _ HBd.out) (first | (go_at_call 18; refine Calls.mono hro ?_; rintro e w4 ⟨rfl, hb4⟩; have HB4 : Aside (Below w.heap.size w w4) := bel_trans HBd.out hb4; clear hb4))
  obtain ⟨d1, d6⟩ := HC6.out _ HB4.out
  have h21 := HBT.out w4
  have HD1 : Aside (w4.drew.cell? ⟨b, 1, none⟩ = some (.int .i64 v.z)) := d1
  have HB5 : Aside (Below w.heap.size w w4.drew) := HB4.out.drew
  clear hro HC HC6 c1 c5 c6 c7 HBd HBT z1 z2 z3
  go_wp2_with fail
  refine h21.mono ?_
  rintro e w5 ⟨rfl, hw⟩
  subst w5
  clear h21 a1 a2 a3 a4 hm
  go_wp2_with fail
  go_region_held3 (fun w' => w'.cell? ⟨b, 1, none⟩ = some (.int .i64 v.z)) (exact HD1.out) (fail)
  go_wp2
  go_ret
  exact ⟨by rw [HR.out]; rfl, HB5.out⟩
end Go.Proofs.Ytphkgijimbkgeaa
