/- CubicBounds: what a call leaves; an act of one's own; the walk. -/
import Derived.Test.YtphkgijimbkgeaaAk
import Derived.Test.YtphkgijimbkgeaaOpen
namespace Go.Proofs.Ytphkgijimbkgeaa
open Go.RowKit
set_option linter.unusedVariables false

theorem and1 (n : Int) : bits .and .i64 n 1 = n % 2 := by
  have h127 : (BitVec.ofInt 64 1).toNat = 2 ^ 1 - 1 := by decide
  have key : (BitVec.ofInt 64 n &&& BitVec.ofInt 64 1).toNat = (n % ((2 ^ 64 : Nat) : Int)).toNat % 2 ^ 1 := by
    rw [BitVec.toNat_and, BitVec.toNat_ofInt, h127, Nat.and_two_pow_sub_one_eq_mod]
  show IntKind.i64.wrap ((BitVec.ofInt 64 n &&& BitVec.ofInt 64 1).toNat : Nat) = n % 2
  rw [key, IntKind.wrap_i64]
  omega
theorem and12 (n : Int) : bits .and .i64 n 4095 = n % 4096 := by
  have h127 : (BitVec.ofInt 64 4095).toNat = 2 ^ 12 - 1 := by decide
  have key : (BitVec.ofInt 64 n &&& BitVec.ofInt 64 4095).toNat = (n % ((2 ^ 64 : Nat) : Int)).toNat % 2 ^ 12 := by
    rw [BitVec.toNat_and, BitVec.toNat_ofInt, h127, Nat.and_two_pow_sub_one_eq_mod]
  show IntKind.i64.wrap ((BitVec.ofInt 64 n &&& BitVec.ofInt 64 4095).toNat : Nat) = n % 4096
  rw [key, IntKind.wrap_i64]
  omega
theorem and16 (n : Int) : bits .and .i64 n 65535 = n % 65536 := by
  have h127 : (BitVec.ofInt 64 65535).toNat = 2 ^ 16 - 1 := by decide
  have key : (BitVec.ofInt 64 n &&& BitVec.ofInt 64 65535).toNat = (n % ((2 ^ 64 : Nat) : Int)).toNat % 2 ^ 16 := by
    rw [BitVec.toNat_and, BitVec.toNat_ofInt, h127, Nat.and_two_pow_sub_one_eq_mod]
  show IntKind.i64.wrap ((BitVec.ofInt 64 n &&& BitVec.ofInt 64 65535).toNat : Nat) = n % 65536
  rw [key, IntKind.wrap_i64]
  omega

theorem cl_ge (x lo hi b : Int) (h : b ≤ x) (h1 : b ≤ hi) : b ≤ cl x lo hi := by unfold cl; omega
theorem cl_le (x lo hi b : Int) (h : x ≤ b) (h1 : lo ≤ b) : cl x lo hi ≤ b := by unfold cl; omega
theorem Wv.fol_ge (u : Wv) (n now rtt : Int) (h : u.ok) (n0 : 0 ≤ n) (n1 : n ≤ 1048576) : u.b ≤ (u.fol n now rtt).b := by
  obtain ⟨g1, g2, g3, g4⟩ := u.gain n now rtt h n0 n1
  have h1 : 0 ≤ (u.tgt now rtt - u.b) * n / u.b := Int.ediv_nonneg g3 (by have := h.z0; have := h.b0; omega)
  exact cl_ge _ _ _ _ (by omega) h.b1
theorem Wv.grow_ge (v : Wv) (n t r : Int) (h : v.ok) (h0 : 0 ≤ t) (n0 : 0 ≤ n) (n1 : n ≤ 1048576) : v.b ≤ (v.grow n t r).b ∧ (v.grow n t r).z = v.z := by
  unfold Wv.grow
  split
  · exact ⟨cl_ge _ _ _ _ (by omega) h.b1, rfl⟩
  · split
    · have h1 : 0 ≤ v.z * n / v.b := Int.ediv_nonneg (Int.mul_nonneg (by have := h.z0; omega) n0) (by have := h.z0; have := h.b0; omega)
      exact ⟨cl_ge _ _ _ _ (by omega) h.b1, rfl⟩
    · obtain ⟨h1, h2, h3⟩ := v.begin_ok t h h0
      have h4 := (v.begin t).fol_ge n t r h1 n0 n1
      rw [h3] at h4
      exact ⟨h4, h2⟩
theorem Wv.acked_b (v : Wv) (n s t r : Int) (f : Bool) (h : v.ok) : v.b ≤ (v.acked n s t r f).2.b ∧ (v.acked n s t r f).2.z = v.z ∧ (s ≤ v.r → (v.acked n s t r f).2.b = v.b) := by
  unfold Wv.acked
  by_cases hf : fitA n s t r
  · rw [if_neg (not_not_intro hf)]
    split
    · exact ⟨Int.le_refl _, rfl, fun _ => rfl⟩
    · rename_i hc
      obtain ⟨g1, g2⟩ := v.grow_ge n t r h hf.2.2.1.1 hf.1.1 hf.1.2
      exact ⟨g1, g2, fun hs => absurd (.inr hs) hc⟩
  · rw [if_pos hf]
    exact ⟨Int.le_refl _, rfl, fun _ => rfl⟩
theorem Wv.lost1_b (v : Wv) (h : v.ok) : v.lost1.b ≤ v.b := by
  have := h.b0
  have := h.z0
  unfold Wv.lost1
  split
  · exact cl_le _ _ _ _ (by omega) h.b0
  · exact cl_le _ _ _ _ (by omega) h.b0
theorem Wv.lost_b (v : Wv) (s t : Int) (h : v.ok) : (v.lost s t).2.b ≤ v.b ∧ (v.lost s t).2.z = v.z ∧ ((v.lost s t).1 = 0 → v.r < s → (v.lost s t).2.r = t) := by
  unfold Wv.lost
  split
  · exact ⟨Int.le_refl _, rfl, fun h => by cases h⟩
  · split
    · exact ⟨Int.le_refl _, rfl, fun _ hs => by omega⟩
    · exact ⟨v.lost1_b h, (v.lost1_ok h).2, fun _ _ => rfl⟩

/-- A window in block b and an act in block A, both of one's own. -/
structure Bo (w : World) (b A : Nat) (v : Wv) (a : Ac) (W : World) : Prop where
  p : Rt 45 W b v
  o : v.ok
  q : W.heap[A]? = some (.cells a.cs.toArray 36 (0, 0))
  ne : A ≠ b
  b0 : w.heap.size ≤ b
  A0 : w.heap.size ≤ A
  bel : Below w.heap.size w W
theorem Bo.bl {w : World} {b A : Nat} {v : Wv} {a : Ac} {W W' : World} (h : Bo w b A v a W) (hb : Below W.heap.size W W') : Bo w b A v a W' :=
  ⟨h.p.below hb, h.o, (hb.block A (Array.getElem?_eq_some_iff.1 h.q).1).trans h.q, h.ne, h.b0, h.A0, h.bel.trans (hb.mono h.bel.size)⟩
theorem Bo.tn {w : World} {b A : Nat} {v v' : Wv} {a : Ac} {W W' : World} (h : Bo w b A v a W) (hb : Tn b W W') (hr : Rt 45 W' b v') (ho : v'.ok) : Bo w b A v' a W' :=
  ⟨hr, ho, (hb.2.2.2.2 A (Array.getElem?_eq_some_iff.1 h.q).1 h.ne).trans h.q, h.ne, h.b0, h.A0, h.bel.trans (hb.toBelow h.bel.size h.b0)⟩
theorem Bo.cells {w : World} {b A : Nat} {v : Wv} {a : Ac} {W : World} (h : Bo w b A v a W) : W.cell? ⟨A, 0, none⟩ = some (.int .i64 a.k) ∧ W.cell? ⟨A, 1, none⟩ = some (.int .i64 a.n) ∧ W.cell? ⟨A, 2, none⟩ = some (.int .i64 a.s) ∧ W.cell? ⟨A, 3, none⟩ = some (.int .i64 a.t) ∧ W.cell? ⟨A, 4, none⟩ = some (.int .i64 a.r) ∧ W.cell? ⟨A, 5, none⟩ = some (.bool a.f) := by
  have h' := h.q
  refine ⟨?_, ?_, ?_, ?_, ?_, ?_⟩ <;> simp [World.cell?, h', Ac.cs]
theorem Bo.told {w : World} {b A : Nat} {v : Wv} {a : Ac} {W : World} (h : Bo w b A v a W) : Calls Try.prog 11 #[.pointer (some ⟨b, 0, none⟩)] W fun e w' => e = .returned (.tuple #[.int .i64 v.b, .int .i64 v.s, .int .i64 v.r]) ∧ Bo w b A v a w' :=
  (told_c b v W h.p h.o).mono (by rintro e w' ⟨rfl, hb⟩; exact ⟨rfl, h.bl hb⟩)
theorem Bo.acked {w : World} {b A : Nat} {v : Wv} {a : Ac} {W : World} (h : Bo w b A v a W) (n s t r : Int) (f : Bool) : Calls Try.prog 12 #[.pointer (some ⟨b, 0, none⟩), .int .i64 n, .int .i64 s, .int .i64 t, .int .i64 r, .bool f] W fun e w' => e = .returned (.int .i64 (v.acked n s t r f).1) ∧ Bo w b A (v.acked n s t r f).2 a w' :=
  (acked_c b v n s t r f W h.p h.o).mono (by rintro e w' ⟨rfl, hr, ht⟩; exact ⟨rfl, h.tn ht hr (v.acked_ok n s t r f h.o)⟩)
theorem Bo.lost {w : World} {b A : Nat} {v : Wv} {a : Ac} {W : World} (h : Bo w b A v a W) (s t : Int) : Calls Try.prog 14 #[.pointer (some ⟨b, 0, none⟩), .int .i64 s, .int .i64 t] W fun e w' => e = .returned (.int .i64 (v.lost s t).1) ∧ Bo w b A (v.lost s t).2 a w' :=
  (lost_c b v s t W h.p h.o).mono (by rintro e w' ⟨rfl, hr, ht⟩; exact ⟨rfl, h.tn ht hr (v.lost_ok s t h.o)⟩)
theorem Bo.coll {w : World} {b A : Nat} {v : Wv} {a : Ac} {W : World} (h : Bo w b A v a W) : Calls Try.prog 16 #[.pointer (some ⟨b, 0, none⟩)] W fun e w' => e = .returned (.tuple #[]) ∧ Bo w b A v.coll a w' :=
  (collapse_c b v W h.p h.o).mono (by rintro e w' ⟨rfl, hr, ht⟩; exact ⟨rfl, h.tn ht hr (v.coll_ok h.o)⟩)
end Go.Proofs.Ytphkgijimbkgeaa
