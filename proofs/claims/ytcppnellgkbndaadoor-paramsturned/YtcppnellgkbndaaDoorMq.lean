/- params: Put of parameters that may not be. -/
import Derived.Test.YtcppnellgkbndaaDoorMc
namespace Go.Proofs.YtcppnellgkbndaaDoor
open Go.ChangeShapes Go.WideShapes Go.ChangeAt Go.RowKit Go.Shelf
set_option linter.unusedVariables false
set_option maxRecDepth 100000

theorem put_no (p : Ps) (s : Bool) (w : World) (h : Pl w p) (hbad : p.bad s = true) : Calls Tryd.prog 8 #[.agg p.cells.toArray, .bool s] w fun e w' => e = .returned (.tuple #[.slice none 0 0, .int .i64 2]) ∧ Below w.heap.size w w' := by
  obtain ⟨W1, hW1, hpm, hb1⟩ : ∃ W1, w.alloc (.cells p.cells.toArray 25) = W1 ∧ Pm W1 w.heap.size p ∧ Below w.heap.size w W1 := ⟨_, rfl, h.pm, bel1 w _⟩
  have hck := check_c p s W1 (h.bel hb1)
  rw [hbad, if_pos rfl] at hck
  have HROW : Aside (W1.heap[w.heap.size]? = some (.cells p.cells.toArray 25 (0, 0))) := hpm.row
  have HI : Aside ((Tryd.prog.info? 25).map (·.size) = some p.cells.toArray.size) := by
    show _ = _
    rw [hi25]; simp [Ps.cells, h.r16]
  have HB1 : Aside (Below w.heap.size w W1) := hb1
  clear h hbad hpm hb1
  generalize p.cells.toArray = cs at *
  go_enter Tryd.func8, Tryd.ntmps8
  go_wp2_with (first | (refine wpList_load_row rfl 25 (.tmp 2) rfl w.heap.size rfl 25 _ (0, 0) _ HROW.out hu25 rfl HI.out ?_))
  refine hck.mono ?_
  rintro e W2 ⟨rfl, hb2⟩
  have HB2 : Aside (Below w.heap.size w W2) := bel_trans HB1.out hb2
  clear hck hb2 hW1
  go_wp2
  go_ret2
  exact ⟨rfl, HB2.out⟩
end Go.Proofs.YtcppnellgkbndaaDoor
