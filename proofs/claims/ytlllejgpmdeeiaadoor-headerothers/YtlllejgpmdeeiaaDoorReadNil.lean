/- What header.Read answers to no bytes: a contract. -/
import Derived.Test.YtlllejgpmdeeiaaDoorLook
namespace Go.Proofs.YtlllejgpmdeeiaaDoor
open Go.ChangeShapes Go.WideShapes Go.ChangeAt Go.RowKit
set_option linter.unusedVariables false

set_option maxRecDepth 10000 in
set_option maxHeartbeats 400000 in
theorem look_nil (w : World) :
    Calls Tryd.prog 31 #[.slice none 0 0, .int .i64 0] w fun e w' => e = .returned (.tuple #[.agg zr, .int .i64 0, .int .i64 10]) ∧ Below w.heap.size w w' := by
  obtain ⟨d26, hd26⟩ := hu26
  go_enter Tryd.func31, Tryd.ntmps31
  go_wp2_with (first
    | (refine wpList_load_row rfl 26 (.tmp 4) rfl w.heap.size rfl 26 zr (0, 0) (.struct d26) (heap_alloc_new w (.cells zr 26)) hd26 rfl sz26 ?_)
    | (refine wpList_store_row rfl 26 (.tmp 4) (.tmp 18) rfl w.heap.size zr rfl rfl 26 zr (heap_alloc_new w (.cells zr 26)) sz26 rfl zr_one ?_))
  refine bodyPost_ret (v := .tuple #[.agg zr, .int .i64 0, .int .i64 10]) (results_cell2 (fn := Tryd.f31) (p := 4) (u := 5) (v := 6) (ty := 26) rfl _ _ w.heap.size 26 zr (0, 0) d26 rfl (setRow_heap _ _ _ _ 26 _ (heap_alloc_new w (.cells zr 26))) hd26 sz26) rfl ?_
  exact ⟨rfl, below_setRow ((Below.refl _ _).alloc (Nat.le_refl _) _) (Nat.le_refl _) _⟩

set_option maxRecDepth 10000 in
set_option maxHeartbeats 400000 in
theorem read_nil (w : World) :
    Calls Tryd.prog 16 #[.slice none 0 0, .int .i64 0] w fun e w' => e = .returned (.tuple #[.agg zr, .int .i64 0, .int .i64 10]) ∧ Below w.heap.size w w' := by
  obtain ⟨d26, hd26⟩ := hu26
  go_enter Tryd.func16, Tryd.ntmps16
  go_wp2_with fail
  refine (look_nil _).mono ?_
  rintro e w2 ⟨rfl, hB⟩
  have HB : Hid (Below (w.alloc (.cells zr 26)).heap.size (w.alloc (.cells zr 26)) w2) := hB
  have HG : Hid (w2.heap[w.heap.size]? = some (.cells zr 26 (0, 0))) := (hB.block w.heap.size (by simp)).trans (heap_alloc_new w _)
  clear hB
  have hz : (10 : Int) ≠ 0 := by decide
  go_wp2_with (first
    | (refine wpList_store_row rfl 26 (.tmp 4) (.tmp 11) rfl w.heap.size zr rfl rfl 26 zr HG.out sz26 rfl zr_one ?_)
    | (refine wpList_store_row rfl 26 (.tmp 4) (.tmp 16) rfl w.heap.size zr rfl rfl 26 zr (setRow_heap _ _ _ _ 26 _ HG.out) sz26 rfl zr_one ?_))
  refine bodyPost_ret (v := .tuple #[.agg zr, .int .i64 0, .int .i64 10]) (results_cell2 (fn := Tryd.f16) (p := 4) (u := 5) (v := 6) (ty := 26) rfl _ _ w.heap.size 26 zr (0, 0) d26 rfl (setRow_heap _ _ _ _ 26 _ (setRow_heap _ _ _ _ 26 _ HG.out)) hd26 sz26) rfl ?_
  exact ⟨rfl, below_setRow (below_setRow (((Below.refl _ _).alloc (Nat.le_refl _) (.cells zr 26)).trans (HB.out.mono (by simp))) (Nat.le_refl _) _) (Nat.le_refl _) _⟩
end Go.Proofs.YtlllejgpmdeeiaaDoor
