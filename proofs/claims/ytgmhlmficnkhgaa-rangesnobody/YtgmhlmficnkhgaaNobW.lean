/- RangesNobody: the walk. -/
import Derived.Test.YtgmhlmficnkhgaaNob
namespace Go.Proofs.Ytgmhlmficnkhgaa
open Go.RowKit Go.Shelf
set_option linter.unusedVariables false

theorem eql_seq (g : Nat) (xs : Array Value) (w : World) : (binOp .eql 46 (.func (.func g) #[] xs) .nilFunc).run Try.prog w = .ok (.bool false) w := by
  kernel_rfl
attribute [local go_sem] eql_seq

set_option maxRecDepth 100000 in
set_option maxHeartbeats 1000000 in
theorem nobody_walk (k f l q : Int) (w : World) : Calls Try.prog 4 #[.agg #[.int .i64 k, .int .i64 f, .int .i64 l, .int .i64 q]] w fun e w' => e = .returned (.bool true) ∧ Below w.heap.size w w' := by
  refine callsIn_wide.1 (callsIn_of_wp_marks (F := Fence.wide) (n := 5) Try.func4 rfl trivial ?_ rfl)
  refine wpIn_wide.2 ?_
  simp only [Try.ntmps4, List.size_toArray, List.length_cons, List.length_nil, Nat.reduceAdd, Nat.reduceSub, Array.replicate_succ, Array.replicate_zero, List.push_toArray, List.append_toArray, List.nil_append, List.cons_append]
  go_wp2
  refine wp_loop_rounds 3 ?_
  rw [rounds_succ]
  obtain ⟨W0, hW0⟩ : ∃ W0, (((w.alloc (.cells #[.int .i64 k, .int .i64 f, .int .i64 l, .int .i64 q] 31)).alloc (.cells #[.bool false, .slice none 0 0] 38)).alloc (.cells #[.pointer none, .pointer (some ⟨w.heap.size + 1, 0, none⟩)] 23)) = W0 := ⟨_, rfl⟩
  rw [hW0]
  have hs0 : W0.heap.size = w.heap.size + 3 := by rw [← hW0]; simp
  have hB0 : Below w.heap.size w W0 := by rw [← hW0]; exact (((Below.refl _ w).alloc (Nat.le_refl _) _).alloc (by simp) _).alloc (by simp; omega) _
  have ca : ∀ j, j < 4 → W0.cell? ⟨w.heap.size, j, none⟩ = [Value.int .i64 k, .int .i64 f, .int .i64 l, .int .i64 q][j]? := by
    intro j hj
    rw [← hW0]
    rcases j with _ | _ | _ | _ | j <;> first | omega | simp [go_sem]
  have ca1 := ca 1 (by decide); have ca2 := ca 2 (by decide); have ca3 := ca 3 (by decide)
  have cb0 : W0.cell? ⟨w.heap.size + 1, 0, none⟩ = some (.bool false) := by rw [← hW0]; simp [go_sem]
  have cc0 : W0.cell? ⟨w.heap.size + 1 + 1, 0, none⟩ = some (.pointer none) := by rw [← hW0]; simp [go_sem]
  have cc1 : W0.cell? ⟨w.heap.size + 1 + 1, 1, none⟩ = some (.pointer (some ⟨w.heap.size + 1, 0, none⟩)) := by rw [← hW0]; simp [go_sem]
  simp at ca1 ca2 ca3
  have no1 : No W0 none := .inl rfl
  clear ca hW0
  go_wp2_with (first
    | (go_at_call 16; refine (no_ends none _ no1).mono ?_; rintro e w' ⟨rfl, h⟩; subst w')
    | (go_at_call 10; refine (no_add none _ _ _ no1).mono ?_; rintro e w' ⟨rfl, h⟩; subst w')
    | (go_at_call 12; refine (no_remove none _ _ _ no1).mono ?_; rintro e w' ⟨rfl, h⟩; subst w')
    | (go_at_call 17; refine (no_has none _ _ no1).mono ?_; rintro e w' ⟨rfl, h⟩; subst w')
    | (go_at_call 18; refine (no_spans none _ no1).mono ?_; rintro e w' ⟨rfl, h⟩; subst w')
    | (go_at_call 19; refine (no_gap none _ _ no1).mono ?_; rintro e w' ⟨rfl, h⟩; subst w')
    | (go_at_call 14; refine (no_clone none _ no1).mono ?_; rintro e w' ⟨rfl, h⟩; subst w')
    | (go_at_call 20; refine (all_any none _).mono ?_; rintro e w' ⟨rfl, h⟩; subst w'))
  obtain ⟨W1, hW1⟩ : ∃ W1, (((W0.alloc (.cells #[.int .i64 0] 3)).alloc (.cells #[.pointer none] 23)).alloc (.cells #[.pointer none] 23)) = W1 := ⟨_, rfl⟩
  have c3 : W1.cell? ⟨w.heap.size + 3, 0, none⟩ = some (.int .i64 0) := by rw [← hW1]; simp [go_sem, hs0]
  have c5 : W1.cell? ⟨w.heap.size + 5, 0, none⟩ = some (.pointer none) := by rw [← hW1]; simp [go_sem, hs0]
  have hB1 : Below W0.heap.size W0 W1 := by rw [← hW1]; exact (((Below.refl _ W0).alloc (Nat.le_refl _) _).alloc (by simp) _).alloc (by simp; omega) _
  have hs1 : W1.heap.size = w.heap.size + 6 := by rw [← hW1]; simp [hs0]
  rw [hW1]
  clear hW1
  refine wp_range_no (w.heap.size + 5) none rfl c5 (.inl rfl) ?_
  intro D1 W2 hD1 hB2 hK2
  have c3' := (hB2.cell (p := ⟨w.heap.size + 3, 0, none⟩) (by simp [hs1])).trans c3
  have dd1 := (hB1.cell (p := ⟨w.heap.size, 1, none⟩) (by simp [hs0])).trans ca1
  have dd2 := (hB1.cell (p := ⟨w.heap.size, 2, none⟩) (by simp [hs0])).trans ca2
  have dd3 := (hB1.cell (p := ⟨w.heap.size, 3, none⟩) (by simp [hs0])).trans ca3
  have db0 := (hB1.cell (p := ⟨w.heap.size + 1, 0, none⟩) (by simp [hs0])).trans cb0
  have dc1 := (hB1.cell (p := ⟨w.heap.size + 1 + 1, 1, none⟩) (by simp [hs0])).trans cc1
  have ea1 := (hB2.cell (p := ⟨w.heap.size, 1, none⟩) (by simp [hs1])).trans dd1
  have ea2 := (hB2.cell (p := ⟨w.heap.size, 2, none⟩) (by simp [hs1])).trans dd2
  have ea3 := (hB2.cell (p := ⟨w.heap.size, 3, none⟩) (by simp [hs1])).trans dd3
  have eb0 := (hB2.cell (p := ⟨w.heap.size + 1, 0, none⟩) (by simp [hs1])).trans db0
  have ec1 := (hB2.cell (p := ⟨w.heap.size + 1 + 1, 1, none⟩) (by simp [hs1])).trans dc1
  have hb2 : Below w.heap.size w W2 := (hB0.trans (hB1.mono (by omega))).trans (hB2.mono (by omega))
  have no2 : No W2 (some ⟨w.heap.size + 1, 0, none⟩) := .inr ⟨_, rfl, eb0⟩
  clear hB0 hB1 hB2 c3 c5 ca1 ca2 ca3 cb0 cc0 cc1 dd1 dd2 dd3 db0 dc1 no1
  go_wp2
  rw [rounds_succ]
  go_wp2_with (first
    | (go_at_call 16; refine (no_ends _ _ no2).mono ?_; rintro e w' ⟨rfl, h⟩; subst w')
    | (go_at_call 10; refine (no_add _ _ _ _ no2).mono ?_; rintro e w' ⟨rfl, h⟩; subst w')
    | (go_at_call 12; refine (no_remove _ _ _ _ no2).mono ?_; rintro e w' ⟨rfl, h⟩; subst w')
    | (go_at_call 17; refine (no_has _ _ _ no2).mono ?_; rintro e w' ⟨rfl, h⟩; subst w')
    | (go_at_call 18; refine (no_spans _ _ no2).mono ?_; rintro e w' ⟨rfl, h⟩; subst w')
    | (go_at_call 19; refine (no_gap _ _ _ no2).mono ?_; rintro e w' ⟨rfl, h⟩; subst w')
    | (go_at_call 14; refine (no_clone _ _ no2).mono ?_; rintro e w' ⟨rfl, h⟩; subst w')
    | (go_at_call 20; refine (all_any _ _).mono ?_; rintro e w' ⟨rfl, h⟩; subst w'))
  obtain ⟨W3, hW3⟩ : ∃ W3, (((W2.alloc (.cells #[.int .i64 0] 3)).alloc (.cells #[.pointer (some ⟨w.heap.size + 1, 0, none⟩)] 23)).alloc (.cells #[.pointer (some ⟨w.heap.size + 1, 0, none⟩)] 23)) = W3 := ⟨_, rfl⟩
  have c3 : W3.cell? ⟨W2.heap.size, 0, none⟩ = some (.int .i64 0) := by rw [← hW3]; simp [go_sem]
  have c5 : W3.cell? ⟨W2.heap.size + 1 + 1, 0, none⟩ = some (.pointer (some ⟨w.heap.size + 1, 0, none⟩)) := by rw [← hW3]; simp [go_sem]
  have hB3 : Below W2.heap.size W2 W3 := by rw [← hW3]; exact (((Below.refl _ W2).alloc (Nat.le_refl _) _).alloc (by simp) _).alloc (by simp; omega) _
  have hs3 : W3.heap.size = W2.heap.size + 3 := by rw [← hW3]; simp
  have hlt1 : D1 < W2.heap.size := (Array.getElem?_eq_some_iff.1 hK2).1
  rw [hW3]
  clear hW3
  refine wp_range_no (W2.heap.size + 1 + 1) (some ⟨w.heap.size + 1, 0, none⟩) rfl c5 (no2.below hB3) ?_
  intro D2 W4 hD2 hB4 hK4
  have c3'' := (hB4.cell (p := ⟨W2.heap.size, 0, none⟩) (by simp [hs3])).trans c3
  have hK1 : W4.heap[D1]? = some (.deferred (some [])) := (hB4.block D1 (by omega)).trans ((hB3.block D1 hlt1).trans hK2)
  have hb4 : Below w.heap.size w W4 := (hb2.trans (hB3.mono hb2.size)).trans (hB4.mono (by have := hb2.size; omega))
  go_wp2
  rw [rounds_succ]
  go_wp2
  have hK1' : (W4.putObj D2 (.deferred none)).heap[D1]? = some (.deferred (some [])) := (World.putObj_heap_other (by omega)).trans hK1
  refine ⟨by simp, .inl ⟨_, _, rfl, run_takeDeferred hK4, ?_⟩⟩
  refine ⟨by simp, .inl ⟨_, _, rfl, run_takeDeferred hK1', ?_⟩⟩
  exact ⟨_, results_tmp rfl _ _ _, rfl, (hb4.trans (belowK_b (w := w) (Nat.le_refl _) W4 D2 _ _ (by have := hb2.size; omega) hK4 rfl rfl)).trans (belowK_b (w := w) (Nat.le_refl _) _ D1 _ _ (by omega) hK1' rfl rfl)⟩

end Go.Proofs.Ytgmhlmficnkhgaa
