/- outbox: New. -/
import Derived.Test.YtfgfomkhlhiiiaaDue
namespace Go.Proofs.YtfgfomkhlhiiiaaR
open Go.RowKit Go.Shelf Go.Lib Go.Maps
set_option linter.unusedVariables false

theorem newOb_c (rm : Int) (w : World) (h0 : 0 ≤ rm) (h1 : rm ≤ 1048576) : Calls Try.prog 6 #[.int .i64 rm] w fun e w' => ∃ φ b A A2, e = .returned (.tuple #[.pointer (some ⟨b, 0, none⟩), .int .i64 0]) ∧ w.heap.size ≤ b ∧
    Ob φ w' b A A2 0 none 0 0 rm 0 0 0 (fun _ => False) (fun _ => False) ∧ Below w.heap.size w w' ∧ ∀ k, k < w.heap.size → φ k = (0, 0) := by
  have i1 : ¬ rm < 0 := by omega
  have i2 : ¬ (1048576 : Int) < rm := by omega
  go_enter Try.func6, Try.ntmps6
  go_wp2_with fail
  refine (newMarks_c (fun _ => (0, 0)) 1 w).mono ?_
  rintro e w1 ⟨rfl, hb1, hz1, φ1, hk1, hφ1⟩
  have HB1 : Aside (Below w.heap.size w w1) := hb1
  have HK1 : Aside (Mk φ1 1 w1 (w.heap.size + 1 + 1) w.heap.size (w.heap.size + 1) 0 (fun _ => none) (fun _ => False)) := hk1
  clear hb1 hk1 hz1
  go_wp2_with fail
  refine (newMarks_c φ1 2 w1).mono ?_
  rintro e w2 ⟨rfl, hb2, hz2, φ2, hk2, hφ2⟩
  have hk1' : Mk φ2 1 w2 (w.heap.size + 1 + 1) w.heap.size (w.heap.size + 1) 0 (fun _ => none) (fun _ => False) := ⟨(HK1.out.1.retag hφ2).keep (fun k hk _ _ => hb2.block k hk), HK1.out.2⟩
  have HB2 : Aside (Below w.heap.size w w2) := HB1.out.trans (hb2.mono HB1.out.size)
  obtain ⟨φ3, hφ3⟩ : ∃ φ3 : Nat → Nat × Nat, φ3 = fun k => if k < w2.heap.size then φ2 k else (0, 0) := ⟨_, rfl⟩
  have hr : ∀ k, k < w2.heap.size → φ3 k = φ2 k := fun k hk => by rw [hφ3]; exact if_pos hk
  have H1 : Aside (Mk φ3 1 w2 (w.heap.size + 1 + 1) w.heap.size (w.heap.size + 1) 0 (fun _ => none) (fun _ => False)) := ⟨hk1'.1.retag hr, hk1'.2⟩
  have H2 : Aside (Mk φ3 2 w2 (w1.heap.size + 1 + 1) w1.heap.size (w1.heap.size + 1) 0 (fun _ => none) (fun _ => False)) := ⟨hk2.1.retag hr, hk2.2⟩
  have HN : Aside (φ3 w2.heap.size = (0, 0)) := by
    show _ = _
    rw [hφ3]; exact if_neg (by omega)
  have HT0 : Aside (∀ k, k < w.heap.size → φ3 k = (0, 0)) := fun k hk => by
    have hk1 : k < w1.heap.size := Nat.lt_of_lt_of_le hk HB1.out.size
    have hk2' : k < w2.heap.size := Nat.lt_of_lt_of_le hk1 hb2.size
    rw [hr k hk2', hφ2 k hk1]
    exact hφ1 k hk
  clear hb2 hk2 hk1' hφ3 hr hφ2 HK1 hz2
  go_wp2
  go_ret2
  refine ⟨φ3, _, w.heap.size + 1 + 1, w1.heap.size + 1 + 1, rfl, HB2.out.size, ⟨World.alloc_heap_new w2 _, ?_, ?_, by rw [HN.out], fun g hg => nomatch hg⟩, HB2.out.trans (((Below.refl _ w2).alloc (Nat.le_refl _) _).mono HB2.out.size), HT0.out⟩
  · exact Mx.below ⟨_, _, _, _, H1.out, Nat.le_refl _⟩ ((Below.refl _ w2).alloc (Nat.le_refl _) _)
  · exact Mx.below ⟨_, _, _, _, H2.out, Nat.le_refl _⟩ ((Below.refl _ w2).alloc (Nat.le_refl _) _)

end Go.Proofs.YtfgfomkhlhiiiaaR
