/- seen: has, and what Add leaves of the numbers. -/
import Derived.Test.YtlobnlkpbenngaaNu
import Derived.Deep.RegionHeld3
namespace Go.Proofs.YtlobnlkpbenngaaR
open Go.RowKit Go.Shelf Go.Lib
set_option linter.unusedVariables false

/-- The set's pointer of the part that stands at k. -/
theorem Nu.cell {n₀ : Nat} {w : World} {M G c : Nat} {A : List Pt} {a : Pt} {B : List Pt} (h : Nu n₀ w M G c (A ++ a :: B)) (k : Nat) (hk : A.length = k) : w.cell? ⟨G, k * 2 + 1, none⟩ = some (.pointer (some ⟨a.T, 0, none⟩)) := by
  obtain ⟨R, hA, hR⟩ := h.row
  have := (YtlobnlkpbenngaaP.cells_at hA k (by simp; omega)).2
  rw [List.getElem_map, List.getElem_append_right (by omega)] at this
  simpa [hk, Pt.p] using this

theorem bel_drew (w : World) : Below w.heap.size w w.drew := ⟨rfl, rfl, rfl, Nat.le_refl _, fun _ _ => rfl⟩
theorem Below.drew' {w w' : World} (h : Below w.drew.heap.size w.drew w') : Below w.heap.size w w' := ⟨h.os, h.tape, h.output, h.size, h.block⟩

set_option maxRecDepth 100000 in
/-- has: whether a number is in its part. -/
theorem has_nu (n₀ M G c : Nat) (n : Int) (A : List Pt) (a : Pt) (B : List Pt) (w : World) (h : Nu n₀ w M G c (A ++ a :: B)) (hr : Rise (A ++ a :: B)) (hsz : (A ++ a :: B).length ≤ 68719476736) (h1 : a.f ≤ n) (h2 : ∀ b ∈ B, n < b.f) :
    Calls Try.prog 23 #[.pointer (some ⟨M, 0, none⟩), .int .i64 n] w fun e w' => ∃ b : Bool, e = .returned (.bool b) ∧ (b = true ↔ In n a.L) ∧ Below w.heap.size w w' := by
  obtain ⟨k, hk⟩ : ∃ k, A.length = k := ⟨_, rfl⟩
  have hd : Nu n₀ w.drew M G c (A ++ a :: B) := h.below (bel_drew w)
  have HP : Aside _ := place_nu n₀ M G c k n A a B w.drew hd hr hsz h1 h2 hk
  have HH : Aside (∀ X, Below w.drew.heap.size w.drew X → Calls Try.prog 35 #[.pointer (some ⟨a.T, 0, none⟩), .int .i64 n] X fun e w' => ∃ b : Bool, e = .returned (.bool b) ∧ (b = true ↔ In n a.L) ∧ Below X.heap.size X w') := by
    intro X hX
    obtain ⟨⟨c', hS⟩, hO, hl, _⟩ := (hd.below hX).sets a (by simp)
    refine (has_c a.T c' a.o n a.L X hS hO hl).mono ?_
    intro e w' hh
    exact hh
  obtain ⟨N, hN⟩ : ∃ N, (A ++ a :: B).length = N := ⟨_, rfl⟩
  have hNk : k < N := by rw [← hN]; simp; omega
  have hHK : ∀ X, Below w.drew.heap.size w.drew X → X.cell? ⟨M, 0, none⟩ = some (.slice (some ⟨G, 0, none⟩) N c) ∧ X.cell? ⟨G, k * 2 + 1, none⟩ = some (.pointer (some ⟨a.T, 0, none⟩)) := fun X hX => ⟨by rw [← hN]; exact (hd.below hX).headC, (hd.below hX).cell k hk⟩
  have HSS : Aside _ := hHK w.drew (Below.refl _ _)
  have HK : Aside _ := hHK
  clear hHK hd h hr hN hk h2
  generalize a.T = T at *
  go_enter Try.func23, Try.ntmps23
  go_wp2_with fail
  go_region_held3 (fun w' => w'.cell? ⟨M, 0, none⟩ = some (.slice (some ⟨G, 0, none⟩) N c) ∧ w'.cell? ⟨G, k * 2 + 1, none⟩ = some (.pointer (some ⟨T, 0, none⟩))) (first | exact HSS.out | exact HK.out _ HZ2.out | exact HK.out _ HZ.out) (first
    | (go_at_call 34; refine Calls.mono HP.out ?_; rintro e W8 ⟨rfl, hz⟩; have HZ : Aside (Below w.drew.heap.size w.drew W8) := hz; clear hz)
    | (have HQ := HZ; go_at_call 35; refine Calls.mono (HH.out _ HZ.out) ?_; rintro e W9 ⟨bb, rfl, hbb, hz⟩; have HZ2 : Aside (Below w.drew.heap.size w.drew W9) := HZ.out.trans (hz.mono HZ.out.size); have HBB : Aside _ := hbb; clear hz hbb))
  all_goals
    go_wp2
    go_ret
    exact ⟨bb, rfl, HBB.out, Below.drew' HZ2.out⟩
end Go.Proofs.YtlobnlkpbenngaaR
