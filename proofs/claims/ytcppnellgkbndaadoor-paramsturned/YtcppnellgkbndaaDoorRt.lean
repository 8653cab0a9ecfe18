/- params: the reference's Put. -/
import Derived.Test.YtcppnellgkbndaaDoorRs
import Derived.Test.YtcppnellgkbndaaDoorLt
import Derived.Test.YtcppnellgkbndaaDoorRo
import Derived.Deep.RegionHeld3
namespace Go.Proofs.YtcppnellgkbndaaDoor
open Go.ChangeShapes Go.WideShapes Go.ChangeAt Go.RowKit Go.Shelf
set_option linter.unusedVariables false
set_option maxRecDepth 100000

theorem rput_no (q : Rq) (s : Bool) (w : World) (h : (numsL.any q.nbad || q.tbad s) = true) : Calls Tryd.prog 9 #[.agg q.cells.toArray, .bool s] w fun e w' => e = .returned (.tuple #[.slice none 0 0, .int .i64 2]) ∧ Below w.heap.size w w' := by
  have hck : ∀ X, Calls Tryd.prog 12 #[.agg q.cells.toArray, .bool s] X fun e w' => e = .returned (.int .i64 2) ∧ Below X.heap.size X w' := by
    intro X
    cases hn : numsL.any q.nbad with
    | true => exact rcheck_num q s X hn
    | false =>
      rw [hn, Bool.false_or] at h
      exact (rcheck_fit q s X hn).mono (by rintro e w' ⟨rfl, h2⟩; exact ⟨by rw [h]; rfl, h2⟩)
  obtain ⟨W1, hW1, hr1, hb1⟩ : ∃ W1, w.alloc (.cells q.cells.toArray 34) = W1 ∧ Rr W1 w.heap.size q ∧ Below w.heap.size w W1 := ⟨_, rfl, heap_alloc_new w _, bel1 w _⟩
  have hc := hck W1
  have HROW : Aside (W1.heap[w.heap.size]? = some (.cells q.cells.toArray 34 (0, 0))) := hr1
  have HI : Aside ((Tryd.prog.info? 34).map (·.size) = some q.cells.toArray.size) := hi34q q
  have HB1 : Aside (Below w.heap.size w W1) := hb1
  clear hck hr1 hb1 h
  generalize q.cells.toArray = cs at *
  go_enter Tryd.func9, Tryd.ntmps9
  go_wp2_with (first | (refine wpList_load_row rfl 34 (.tmp 2) rfl w.heap.size rfl 34 _ (0, 0) _ HROW.out hu34 rfl HI.out ?_))
  refine hc.mono ?_
  rintro e W2 ⟨rfl, hb2⟩
  have HB2 : Aside (Below w.heap.size w W2) := bel_trans HB1.out hb2
  clear hc hb2 hW1
  go_wp2
  go_ret2
  exact ⟨rfl, HB2.out⟩
end Go.Proofs.YtcppnellgkbndaaDoor
