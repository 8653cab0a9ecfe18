/- The walk of caravellaw01.OctetOrder. -/
import Derived.Test.YtcppnellgkbndaaDoorWide
import Derived.Test.YtcppnellgkbndaaDoorArith
import Derived.Laws.IdiomStrings
namespace Go.Proofs.YtcppnellgkbndaaDoor
open Go.ChangeShapes Go.WideShapes Go.ChangeAt Go.RowKit
set_option linter.unusedVariables false

theorem Tb_pos {w : World} (h : Tb w) : 0 < w.heap.size := World.block_lt_of_cell? w _ h.1
theorem Tb_below {B : Nat} {w w' : World} (h : Tb w) (hb : Below B w w') (hB : 0 < B) : Tb w' := by
  obtain ⟨t0, t1, t2, t3⟩ := h
  exact ⟨(hb.cell (p := ⟨0, 0, none⟩) hB).trans t0, (hb.cell (p := ⟨0, 1, none⟩) hB).trans t1, (hb.cell (p := ⟨0, 2, none⟩) hB).trans t2, (hb.cell (p := ⟨0, 3, none⟩) hB).trans t3⟩
theorem lt_block {w : World} {g : Nat} {o : Obj} (h : w.heap[g]? = some o) : g < w.heap.size := by
  by_cases hg : g < w.heap.size
  · exact hg
  · rw [Array.getElem?_eq_none (by omega)] at h; cases h

theorem str_of_block {w : World} {g cap m : Nat} {l : List UInt8} (hb : w.heap[g]? = some (.cells (bc l).toArray 5 (0, 0))) (hm : l.length = m) :
    (convert 22 9 (.slice (some ⟨g, 0, none⟩) m cap)).run Tryd.prog w = .ok (.string ⟨l.toArray⟩) w := by
  subst hm
  refine run_convert_bytes_back w 22 9 5 ⟨g, 0, none⟩ cap l Tryd.underlying22 Tryd.underlying5 Tryd.underlying9 fun j hj => ?_
  rw [add_none]
  unfold World.cell?
  rw [hb]
  simp [bc, hj]

theorem putn_8 (v : Int) (w : World) (ht : Tb w) (h0 : 0 ≤ v) (h1 : v < 4611686018427387904) :
    Calls Tryd.prog 47 #[.slice none 0 0, .int .i64 v, .int .i64 8] w fun e w' => e = .returned (.tuple #[.slice (some ⟨w.heap.size, 0, none⟩) 8 8, .int .i64 0]) ∧
      Hid (w'.heap[w.heap.size]? = some (.cells (bc (be 8 (13835058055282163712 + v).toNat)).toArray 5 (0, 0))) ∧ Hid (Below w.heap.size w w') := by
  have hs : Sl w none [] := fun j hj => absurd hj (by simp)
  exact putw_8 none [] 0 v w ht hs (by decide) h0 h1

end Go.Proofs.YtcppnellgkbndaaDoor
