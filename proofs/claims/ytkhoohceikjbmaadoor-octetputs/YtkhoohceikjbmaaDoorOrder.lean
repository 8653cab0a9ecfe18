/- The walk of caravellaw01.OctetOrder. -/
import Derived.Test.YtkhoohceikjbmaaDoorWide
import Derived.Test.YtkhoohceikjbmaaDoorArith
import Derived.Laws.IdiomStrings
namespace Go.Proofs.YtkhoohceikjbmaaDoor
open Go.ChangeShapes Go.WideShapes Go.ChangeAt Go.RowKit
set_option linter.unusedVariables false

theorem Tb_pos {w : World} (h : Tb w) : 0 < w.heap.size := World.block_lt_of_cell? w _ h.1
theorem Tb_below {B : Nat} {w w' : World} (h : Tb w) (hb : Below B w w') (hB : 0 < B) : Tb w' := by
  obtain ⟨t0, t1, t2, t3⟩ := h
  exact ⟨(hb.cell (p := ⟨0, 0, none⟩) hB).trans t0, (hb.cell (p := ⟨0, 1, none⟩) hB).trans t1, (hb.cell (p := ⟨0, 2, none⟩) hB).trans t2, (hb.cell (p := ⟨0, 3, none⟩) hB).trans t3⟩
theorem lt_block {w : World} {g : Nat} {o : Obj} (h : w.heap[g]? = some o) : g < w.heap.size := by
  by_cases hg : g < w.heap.size
  · exact hg
  · rw [Array.getElem?_eq_none (by omega)] at h; cases h

theorem str_of_block {w : World} {g cap m : Nat} {l : List UInt8} (hb : w.heap[g]? = some (.cells (bc l).toArray 5 (0, 0))) (hm : l.length = m) :
    (convert 22 9 (.slice (some ⟨g, 0, none⟩) m cap)).run Tryd.prog w = .ok (.string ⟨l.toArray⟩) w := by
  subst hm
  refine run_convert_bytes_back w 22 9 5 ⟨g, 0, none⟩ cap l Tryd.underlying22 Tryd.underlying5 Tryd.underlying9 fun j hj => ?_
  rw [add_none]
  unfold World.cell?
  rw [hb]
  simp [bc, hj]

theorem putn_8 (v : Int) (w : World) (ht : Tb w) (h0 : 0 ≤ v) (h1 : v < 4611686018427387904) :
    Calls Tryd.prog 10 #[.slice none 0 0, .int .i64 v, .int .i64 8] w fun e w' => e = .returned (.tuple #[.slice (some ⟨w.heap.size, 0, none⟩) 8 8, .int .i64 0]) ∧
      Hid (w'.heap[w.heap.size]? = some (.cells (bc (be 8 (13835058055282163712 + v).toNat)).toArray 5 (0, 0))) ∧ Hid (Below w.heap.size w w') := by
  have hs : Sl w none [] := fun j hj => absurd hj (by simp)
  exact putw_8 none [] 0 v w ht hs (by decide) h0 h1

set_option maxRecDepth 10000 in
theorem order_walk (a0 a1 : Int) (w : World) (ht : Tb w) :
    Calls Tryd.prog 6 #[.int .i64 a0, .int .i64 a1] w fun e w' => e = .returned (.bool true) ∧ Below w.heap.size w w' := by
  obtain ⟨ha0, ha1⟩ := and_max a0
  obtain ⟨hb0, hb1⟩ := and_max a1
  obtain ⟨A, hA⟩ : ∃ A, bits .and .i64 a0 4611686018427387903 = A := ⟨_, rfl⟩
  obtain ⟨B, hB⟩ : ∃ B, bits .and .i64 a1 4611686018427387903 = B := ⟨_, rfl⟩
  rw [hA] at ha0 ha1
  rw [hB] at hb0 hb1
  have HT := mkHid ht
  clear ht
  go_enter Tryd.func6, Tryd.ntmps6
  go_wp2_with fail
  refine (putn_8 _ _ HT.out ha0 (by omega)).mono ?_
  rintro e w1 ⟨rfl, HB1, HL1⟩
  have HT1 := mkHid (Tb_below HT.out HL1.out (Tb_pos HT.out))
  go_wp2_with fail
  refine (putn_8 _ _ HT1.out hb0 (by omega)).mono ?_
  rintro e w2 ⟨rfl, HB2, HL2⟩
  have HT2 := mkHid (Tb_below HT1.out HL2.out (Tb_pos HT1.out))
  go_wp2_with fail
  refine (size_yes _ _ HT2.out ha0 ha1).mono ?_
  rintro e w' ⟨rfl, rfl⟩
  go_wp2_with fail
  refine (size_yes _ _ HT2.out hb0 hb1).mono ?_
  rintro e w' ⟨rfl, rfl⟩
  have HX := mkHid ((HL2.out.block _ (lt_block HB1.out)).trans HB1.out)
  have cx := str_of_block (cap := 8) HX.out (be_length 8 _)
  have cy := str_of_block (cap := 8) HB2.out (be_length 8 _)
  have hle := wide_less A B ha0 ha1 hb0 hb1
  go_wp2
  all_goals
    go_ret
    refine ⟨ret_bool ?_, HL1.out.trans (HL2.out.mono HL1.out.size)⟩
  · by_cases h : B < A
    · simp [h]
    · have := szN_mono A B (by omega)
      simp [this]
  · rfl
end Go.Proofs.YtkhoohceikjbmaaDoor
