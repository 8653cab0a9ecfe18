/- FlowNobody: the walk. -/
import Derived.Test.YtdfpfecjlpgfaaaNob
namespace Go.Proofs.Ytdfpfecjlpgfaaa
open Go.RowKit
set_option linter.unusedVariables false

set_option maxRecDepth 100000 in
set_option maxHeartbeats 1000000 in
theorem nobody_walk (n : Int) (w : World) : Calls Try.prog 5 #[.int .i64 n] w fun e w' => e = .returned (.bool true) ∧ Below w.heap.size w w' := by
  go_enter Try.func5, Try.ntmps5
  go_wp2
  refine wp_loop_rounds 3 ?_
  rw [rounds_succ]
  obtain ⟨X0, hX⟩ : ∃ X, ((w.alloc (.cells #[.bool false, .int .i64 0, .int .i64 0, .bool false] 53)).alloc (.cells #[.pointer none, .pointer (some ⟨w.heap.size, 0, none⟩)] 23)) = X := ⟨_, rfl⟩
  rw [hX]
  have hb : Below w.heap.size w X0 := by rw [← hX]; exact ((Below.refl _ w).alloc (by simp) _).alloc (by simp) _
  have cc0 : X0.cell? ⟨w.heap.size + 1, 0, none⟩ = some (.pointer none) := by rw [← hX]; simp [go_sem]
  have cc1 : X0.cell? ⟨w.heap.size + 1, 1, none⟩ = some (.pointer (some ⟨w.heap.size, 0, none⟩)) := by rw [← hX]; simp [go_sem]
  have no2 : No z53 X0 (some ⟨w.heap.size, 0, none⟩) := by
    refine .inr ⟨_, rfl, ?_⟩
    intro j hj
    rw [← hX]
    match j, hj with
    | 0, _ => simp [go_sem, z53]
    | 1, _ => simp [go_sem, z53]
    | 2, _ => simp [go_sem, z53]
    | 3, _ => simp [go_sem, z53]
  clear hX
  have HBa0 : Aside (Below w.heap.size w X0) := hb
  clear hb
  generalize w.heap.size + 1 = C at *
  have hc := no_left none X0 (.inl rfl)
  go_wp2_with fail
  refine hc.mono ?_
  rintro e u ⟨rfl, h⟩
  subst u
  clear hc
  have hc := no_blocked none X0 (.inl rfl)
  go_wp2_with fail
  refine hc.mono ?_
  rintro e X1 ⟨rfl, hb⟩
  clear hc
  have no2 := no2.below hb
  have cc1 := (hb.cell (p := ⟨C, 1, none⟩) (World.block_lt_of_cell? _ _ cc1)).trans cc1
  have HBa1 : Aside (Below w.heap.size w X1) := HBa0.out.trans (hb.mono HBa0.out.size)
  clear hb HBa0
  have hc := no_raise none n X1 (.inl rfl)
  go_wp2_with fail
  refine hc.mono ?_
  rintro e u ⟨rfl, h⟩
  subst u
  clear hc
  have hc := no_spend none n X1 (.inl rfl)
  go_wp2_with fail
  refine hc.mono ?_
  rintro e u ⟨rfl, h⟩
  subst u
  clear hc
  go_wp2
  rw [rounds_succ]
  have hc := no_left (some ⟨w.heap.size, 0, none⟩) X1 no2
  go_wp2_with fail
  refine hc.mono ?_
  rintro e u ⟨rfl, h⟩
  subst u
  clear hc
  have hc := no_blocked (some ⟨w.heap.size, 0, none⟩) X1 no2
  go_wp2_with fail
  refine hc.mono ?_
  rintro e X2 ⟨rfl, hb⟩
  clear hc
  have no2 := no2.below hb
  have cc1 := (hb.cell (p := ⟨C, 1, none⟩) (World.block_lt_of_cell? _ _ cc1)).trans cc1
  have HBa2 : Aside (Below w.heap.size w X2) := HBa1.out.trans (hb.mono HBa1.out.size)
  clear hb HBa1
  have hc := no_raise (some ⟨w.heap.size, 0, none⟩) n X2 no2
  go_wp2_with fail
  refine hc.mono ?_
  rintro e u ⟨rfl, h⟩
  subst u
  clear hc
  have hc := no_spend (some ⟨w.heap.size, 0, none⟩) n X2 no2
  go_wp2_with fail
  refine hc.mono ?_
  rintro e u ⟨rfl, h⟩
  subst u
  clear hc
  go_wp2
  rw [rounds_succ]
  go_wp2
  have HBa : Aside (Below w.heap.size w X2) := HBa2.out
  clear HBa2 cc0 cc1 no2
  generalize X2 = U at *
  refine wp_loop_rounds 3 ?_
  rw [rounds_succ]
  obtain ⟨X0, hX⟩ : ∃ X, ((U.alloc (.cells #[.bool false, .int .i64 0, .int .i64 0, .int .i64 0, .int .i64 0] 56)).alloc (.cells #[.pointer none, .pointer (some ⟨U.heap.size, 0, none⟩)] 42)) = X := ⟨_, rfl⟩
  rw [hX]
  have hb : Below w.heap.size w X0 := by rw [← hX]; exact (HBa.out.alloc (by exact HBa.out.size) _).alloc (by simp; have := HBa.out.size; omega) _
  have cc0 : X0.cell? ⟨U.heap.size + 1, 0, none⟩ = some (.pointer none) := by rw [← hX]; simp [go_sem]
  have cc1 : X0.cell? ⟨U.heap.size + 1, 1, none⟩ = some (.pointer (some ⟨U.heap.size, 0, none⟩)) := by rw [← hX]; simp [go_sem]
  have no2 : No z56 X0 (some ⟨U.heap.size, 0, none⟩) := by
    refine .inr ⟨_, rfl, ?_⟩
    intro j hj
    rw [← hX]
    match j, hj with
    | 0, _ => simp [go_sem, z56]
    | 1, _ => simp [go_sem, z56]
    | 2, _ => simp [go_sem, z56]
    | 3, _ => simp [go_sem, z56]
    | 4, _ => simp [go_sem, z56]
  clear hX
  have HBb0 : Aside (Below w.heap.size w X0) := hb
  clear hb HBa
  generalize U.heap.size + 1 = C at *
  have hc := no_told none X0 (.inl rfl)
  go_wp2_with fail
  refine hc.mono ?_
  rintro e u ⟨rfl, h⟩
  subst u
  clear hc
  have hc := no_update none X0 (.inl rfl)
  go_wp2_with fail
  refine hc.mono ?_
  rintro e X1 ⟨rfl, hb⟩
  clear hc
  have no2 := no2.below hb
  have cc1 := (hb.cell (p := ⟨C, 1, none⟩) (World.block_lt_of_cell? _ _ cc1)).trans cc1
  have HBb1 : Aside (Below w.heap.size w X1) := HBb0.out.trans (hb.mono HBb0.out.size)
  clear hb HBb0
  have hc := no_take none n X1 (.inl rfl)
  go_wp2_with fail
  refine hc.mono ?_
  rintro e u ⟨rfl, h⟩
  subst u
  clear hc
  have hc := no_used none n X1 (.inl rfl)
  go_wp2_with fail
  refine hc.mono ?_
  rintro e u ⟨rfl, h⟩
  subst u
  clear hc
  go_wp2
  rw [rounds_succ]
  have hc := no_told (some ⟨U.heap.size, 0, none⟩) X1 no2
  go_wp2_with fail
  refine hc.mono ?_
  rintro e u ⟨rfl, h⟩
  subst u
  clear hc
  have hc := no_update (some ⟨U.heap.size, 0, none⟩) X1 no2
  go_wp2_with fail
  refine hc.mono ?_
  rintro e X2 ⟨rfl, hb⟩
  clear hc
  have no2 := no2.below hb
  have cc1 := (hb.cell (p := ⟨C, 1, none⟩) (World.block_lt_of_cell? _ _ cc1)).trans cc1
  have HBb2 : Aside (Below w.heap.size w X2) := HBb1.out.trans (hb.mono HBb1.out.size)
  clear hb HBb1
  have hc := no_take (some ⟨U.heap.size, 0, none⟩) n X2 no2
  go_wp2_with fail
  refine hc.mono ?_
  rintro e u ⟨rfl, h⟩
  subst u
  clear hc
  have hc := no_used (some ⟨U.heap.size, 0, none⟩) n X2 no2
  go_wp2_with fail
  refine hc.mono ?_
  rintro e u ⟨rfl, h⟩
  subst u
  clear hc
  go_wp2
  rw [rounds_succ]
  go_wp2
  have HBb : Aside (Below w.heap.size w X2) := HBb2.out
  clear HBb2 cc0 cc1 no2
  go_ret
  exact ⟨rfl, HBb.out⟩
end Go.Proofs.Ytdfpfecjlpgfaaa
