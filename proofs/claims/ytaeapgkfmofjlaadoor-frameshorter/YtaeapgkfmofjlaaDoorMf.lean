/- Every kind's walk of the reader in one; beginning. -/
import Derived.Test.YtaeapgkfmofjlaaDoorMe
import Derived.Test.YtaeapgkfmofjlaaDoorLa
import Derived.Test.YtaeapgkfmofjlaaDoorLb
import Derived.Test.YtaeapgkfmofjlaaDoorLc
import Derived.Test.YtaeapgkfmofjlaaDoorLd
import Derived.Test.YtaeapgkfmofjlaaDoorLe
import Derived.Test.YtaeapgkfmofjlaaDoorLf
import Derived.Test.YtaeapgkfmofjlaaDoorMc
namespace Go.Proofs.YtaeapgkfmofjlaaDoor
open Go.ChangeShapes Go.WideShapes Go.ChangeAt Go.RowKit
set_option linter.unusedVariables false
set_option maxRecDepth 100000

def yW (k : Int) (l : List UInt8) (a : Fa × Sq) : Fa × Sq :=
  if k = 0 then yZ l (a) else
  if k = 1 then a else
  if k = 2 then yA l (a) else
  if k = 3 then yNs l (yA l (a)) [11, 12, 13] else
  if k = 4 then yNs l (a) [1, 7, 6] else
  if k = 5 then yNs l (a) [1, 7] else
  if k = 6 then yC l (yNs l (a) [2]) else
  if k = 7 then yC l (a) else
  if k = 8 then yE l (yNs l (a) [1]) else
  if k = 9 then yE l (yNs l (a) [1]) else
  if k = 10 then yC l (yNs l (a) [1]) else
  if k = 11 then yC l (yNs l (a) [1]) else
  if k = 12 then yE l (yNs l (yNs l (a) [1]) [2]) else
  if k = 13 then yE l (yNs l (yNs l (a) [1]) [2]) else
  if k = 14 then yC l (yNs l (yNs l (a) [1]) [2]) else
  if k = 15 then yC l (yNs l (yNs l (a) [1]) [2]) else
  if k = 16 then yNs l (a) [6] else
  if k = 17 then yNs l (yNs l (a) [1]) [6] else
  if k = 18 then yNs l (a) [6] else
  if k = 19 then yNs l (a) [6] else
  if k = 20 then yNs l (a) [6] else
  if k = 21 then yNs l (yNs l (a) [1]) [6] else
  if k = 22 then yNs l (a) [6] else
  if k = 23 then yNs l (a) [6] else
  if k = 24 then yR l (yI l (yNs l (a) [14, 15])) else
  if k = 25 then yNs l (a) [14] else
  if k = 26 then yP l (a) else
  if k = 27 then yP l (a) else
  if k = 28 then yC l (yNs l (a) [7, 8]) else
  if k = 29 then yC l (yNs l (a) [7]) else
  if k = 30 then a else
  if k = 48 then yE l (a) else
  if k = 49 then yC l (a) else a
theorem rwalk_any (k : Int) (hk : isKd k = true) {w0 w : World} {lo p F g off c : Nat} {wa : Option Addr} {l : List UInt8} {a : Fa × Sq} (h : Wk w0 lo p F g off c wa l a w) :
    Calls Tryd.prog 22 #[.iface 72 (.pointer (some ⟨p, 0, none⟩)), .int .i64 k, .pointer (some ⟨F, 0, none⟩)] w fun e w' => e = .returned (.tuple #[]) ∧ Aside (Wk w0 lo p F g off c wa l (yW k l a) w') := by
  rcases isKd_cases hk with rfl | rfl | rfl | rfl | rfl | rfl | rfl | rfl | rfl | rfl | rfl | rfl | rfl | rfl | rfl | rfl | rfl | rfl | rfl | rfl | rfl | rfl | rfl | rfl | rfl | rfl | rfl | rfl | rfl | rfl | rfl | rfl | rfl
  · exact rwalk_0 h
  · exact rwalk_1 h
  · exact rwalk_2 h
  · exact rwalk_3 h
  · exact rwalk_4 h
  · exact rwalk_5 h
  · exact rwalk_6 h
  · exact rwalk_7 h
  · exact rwalk_8 h
  · exact rwalk_9 h
  · exact rwalk_10 h
  · exact rwalk_11 h
  · exact rwalk_12 h
  · exact rwalk_13 h
  · exact rwalk_14 h
  · exact rwalk_15 h
  · exact rwalk_16 h
  · exact rwalk_17 h
  · exact rwalk_18 h
  · exact rwalk_19 h
  · exact rwalk_20 h
  · exact rwalk_21 h
  · exact rwalk_22 h
  · exact rwalk_23 h
  · exact rwalk_24 h
  · exact rwalk_25 h
  · exact rwalk_26 h
  · exact rwalk_27 h
  · exact rwalk_28 h
  · exact rwalk_29 h
  · exact rwalk_30 h
  · exact rwalk_48 h
  · exact rwalk_49 h
/-- A frame of a kind, and nothing else. -/
def fz (k : Int) : Fr := ⟨k, 0, 0, .slice none 0 0, false, false, 0, 0, 0, .slice none 0 0, 0, 0, 0, 0, 0, 0, .slice none 0 0, List.replicate 16 (.int .u8 0), List.replicate 8 (.int .u8 0), 0⟩
def dz : Da := ⟨none, [], 0, none, [], 0, none, [], 0, List.replicate 16 0, List.replicate 8 0⟩
def bgF (k : Int) : Fr := if 8 ≤ k ∧ k < 16 then { fz 8 with len := decide (k / 2 % 2 = 1), fin := decide (k % 2 = 1) } else fz k
theorem fz_on (k : Int) (a b : Bool) : On { fz k with len := a, fin := b } dz := ⟨rfl, rfl, rfl, rfl, rfl, rfl, rfl, by decide, by decide⟩
theorem bgF_on (k : Int) : On (bgF k) dz := by
  unfold bgF
  split
  · exact fz_on 8 _ _
  · exact fz_on k false false
set_option maxHeartbeats 1000000 in
theorem beginning_c (k : Int) (w : World) (hk : isKd k = true) : Calls Tryd.prog 29 #[.int .i64 k] w fun e w' => e = .returned (.agg (bgF k).cells.toArray) ∧ Below w.heap.size w w' := by
  have hst := isStr_kd k (w.alloc (.cells (fz 0).cells.toArray 28)) hk
  have hn0 : Aside ((w.alloc (.cells (fz 0).cells.toArray 28)).heap[w.heap.size]? = some (.cells (fz 0).cells.toArray 28 (0, 0))) := heap_alloc_new w _
  obtain ⟨W1, hW1⟩ : ∃ W1, w.alloc (.cells (fz 0).cells.toArray 28) = W1 := ⟨_, rfl⟩
  have hb1 : Aside (Below w.heap.size w W1) := by show Below _ _ _; rw [← hW1]; exact bel1 w _
  rw [hW1] at hst hn0
  have HS : Aside (∀ f : Fr, (W1.setRow w.heap.size f.cells.toArray).heap[w.heap.size]? = some (.cells f.cells.toArray 28 (0, 0))) := fun f => setRow_heap W1 _ _ _ 28 (0, 0) hn0.out
  have HB : Aside (∀ f : Fr, Below w.heap.size w (W1.setRow w.heap.size f.cells.toArray)) := fun f => hb1.out.trans ⟨rfl, rfl, rfl, by simp, fun j hj => setRow_other W1 _ j _ (by omega)⟩
  simp only [fz, Fr.cells, List.replicate, List.cons_append, List.nil_append] at hW1
  by_cases h8 : 8 ≤ k ∧ k < 16
  · rw [decide_eq_true h8] at hst
    have h15 : k = 8 ∨ k = 9 ∨ k = 10 ∨ k = 11 ∨ k = 12 ∨ k = 13 ∨ k = 14 ∨ k = 15 := by omega
    rcases h15 with rfl | rfl | rfl | rfl | rfl | rfl | rfl | rfl
    · have b2 : bits .and .i64 8 2 = 0 := by decide
      have b1 : bits .and .i64 8 1 = 0 := by decide
      have e : bgF 8 = { fz 8 with len := false, fin := false } := rfl
      rw [e]
      go_enter Tryd.func29, Tryd.ntmps29
      go_wp2_with fail
      refine hst.mono ?_
      rintro e w' ⟨rfl, hw⟩
      subst w'
      clear hst hW1
      go_wp2_with (refine wpList_store_row rfl 28 _ _ rfl w.heap.size ({ fz 8 with len := false, fin := false } : Fr).cells.toArray rfl rfl 28 _ hn0.out i28s rfl (fz_on 8 false false).one ?_)
      refine bodyPost_ret (results_cell_row (fn := Tryd.f29) (p := 2) (ty := 28) rfl _ _ w.heap.size 28 _ (0, 0) _ rfl (HS.out _) hu28 rfl i28s) rfl ?_
      exact ⟨rfl, HB.out _⟩
    · have b2 : bits .and .i64 9 2 = 0 := by decide
      have b1 : bits .and .i64 9 1 = 1 := by decide
      have e : bgF 9 = { fz 8 with len := false, fin := true } := rfl
      rw [e]
      go_enter Tryd.func29, Tryd.ntmps29
      go_wp2_with fail
      refine hst.mono ?_
      rintro e w' ⟨rfl, hw⟩
      subst w'
      clear hst hW1
      go_wp2_with (refine wpList_store_row rfl 28 _ _ rfl w.heap.size ({ fz 8 with len := false, fin := true } : Fr).cells.toArray rfl rfl 28 _ hn0.out i28s rfl (fz_on 8 false true).one ?_)
      refine bodyPost_ret (results_cell_row (fn := Tryd.f29) (p := 2) (ty := 28) rfl _ _ w.heap.size 28 _ (0, 0) _ rfl (HS.out _) hu28 rfl i28s) rfl ?_
      exact ⟨rfl, HB.out _⟩
    · have b2 : bits .and .i64 10 2 = 2 := by decide
      have b1 : bits .and .i64 10 1 = 0 := by decide
      have e : bgF 10 = { fz 8 with len := true, fin := false } := rfl
      rw [e]
      go_enter Tryd.func29, Tryd.ntmps29
      go_wp2_with fail
      refine hst.mono ?_
      rintro e w' ⟨rfl, hw⟩
      subst w'
      clear hst hW1
      go_wp2_with (refine wpList_store_row rfl 28 _ _ rfl w.heap.size ({ fz 8 with len := true, fin := false } : Fr).cells.toArray rfl rfl 28 _ hn0.out i28s rfl (fz_on 8 true false).one ?_)
      refine bodyPost_ret (results_cell_row (fn := Tryd.f29) (p := 2) (ty := 28) rfl _ _ w.heap.size 28 _ (0, 0) _ rfl (HS.out _) hu28 rfl i28s) rfl ?_
      exact ⟨rfl, HB.out _⟩
    · have b2 : bits .and .i64 11 2 = 2 := by decide
      have b1 : bits .and .i64 11 1 = 1 := by decide
      have e : bgF 11 = { fz 8 with len := true, fin := true } := rfl
      rw [e]
      go_enter Tryd.func29, Tryd.ntmps29
      go_wp2_with fail
      refine hst.mono ?_
      rintro e w' ⟨rfl, hw⟩
      subst w'
      clear hst hW1
      go_wp2_with (refine wpList_store_row rfl 28 _ _ rfl w.heap.size ({ fz 8 with len := true, fin := true } : Fr).cells.toArray rfl rfl 28 _ hn0.out i28s rfl (fz_on 8 true true).one ?_)
      refine bodyPost_ret (results_cell_row (fn := Tryd.f29) (p := 2) (ty := 28) rfl _ _ w.heap.size 28 _ (0, 0) _ rfl (HS.out _) hu28 rfl i28s) rfl ?_
      exact ⟨rfl, HB.out _⟩
    · have b2 : bits .and .i64 12 2 = 0 := by decide
      have b1 : bits .and .i64 12 1 = 0 := by decide
      have e : bgF 12 = { fz 8 with len := false, fin := false } := rfl
      rw [e]
      go_enter Tryd.func29, Tryd.ntmps29
      go_wp2_with fail
      refine hst.mono ?_
      rintro e w' ⟨rfl, hw⟩
      subst w'
      clear hst hW1
      go_wp2_with (refine wpList_store_row rfl 28 _ _ rfl w.heap.size ({ fz 8 with len := false, fin := false } : Fr).cells.toArray rfl rfl 28 _ hn0.out i28s rfl (fz_on 8 false false).one ?_)
      refine bodyPost_ret (results_cell_row (fn := Tryd.f29) (p := 2) (ty := 28) rfl _ _ w.heap.size 28 _ (0, 0) _ rfl (HS.out _) hu28 rfl i28s) rfl ?_
      exact ⟨rfl, HB.out _⟩
    · have b2 : bits .and .i64 13 2 = 0 := by decide
      have b1 : bits .and .i64 13 1 = 1 := by decide
      have e : bgF 13 = { fz 8 with len := false, fin := true } := rfl
      rw [e]
      go_enter Tryd.func29, Tryd.ntmps29
      go_wp2_with fail
      refine hst.mono ?_
      rintro e w' ⟨rfl, hw⟩
      subst w'
      clear hst hW1
      go_wp2_with (refine wpList_store_row rfl 28 _ _ rfl w.heap.size ({ fz 8 with len := false, fin := true } : Fr).cells.toArray rfl rfl 28 _ hn0.out i28s rfl (fz_on 8 false true).one ?_)
      refine bodyPost_ret (results_cell_row (fn := Tryd.f29) (p := 2) (ty := 28) rfl _ _ w.heap.size 28 _ (0, 0) _ rfl (HS.out _) hu28 rfl i28s) rfl ?_
      exact ⟨rfl, HB.out _⟩
    · have b2 : bits .and .i64 14 2 = 2 := by decide
      have b1 : bits .and .i64 14 1 = 0 := by decide
      have e : bgF 14 = { fz 8 with len := true, fin := false } := rfl
      rw [e]
      go_enter Tryd.func29, Tryd.ntmps29
      go_wp2_with fail
      refine hst.mono ?_
      rintro e w' ⟨rfl, hw⟩
      subst w'
      clear hst hW1
      go_wp2_with (refine wpList_store_row rfl 28 _ _ rfl w.heap.size ({ fz 8 with len := true, fin := false } : Fr).cells.toArray rfl rfl 28 _ hn0.out i28s rfl (fz_on 8 true false).one ?_)
      refine bodyPost_ret (results_cell_row (fn := Tryd.f29) (p := 2) (ty := 28) rfl _ _ w.heap.size 28 _ (0, 0) _ rfl (HS.out _) hu28 rfl i28s) rfl ?_
      exact ⟨rfl, HB.out _⟩
    · have b2 : bits .and .i64 15 2 = 2 := by decide
      have b1 : bits .and .i64 15 1 = 1 := by decide
      have e : bgF 15 = { fz 8 with len := true, fin := true } := rfl
      rw [e]
      go_enter Tryd.func29, Tryd.ntmps29
      go_wp2_with fail
      refine hst.mono ?_
      rintro e w' ⟨rfl, hw⟩
      subst w'
      clear hst hW1
      go_wp2_with (refine wpList_store_row rfl 28 _ _ rfl w.heap.size ({ fz 8 with len := true, fin := true } : Fr).cells.toArray rfl rfl 28 _ hn0.out i28s rfl (fz_on 8 true true).one ?_)
      refine bodyPost_ret (results_cell_row (fn := Tryd.f29) (p := 2) (ty := 28) rfl _ _ w.heap.size 28 _ (0, 0) _ rfl (HS.out _) hu28 rfl i28s) rfl ?_
      exact ⟨rfl, HB.out _⟩
  · rw [decide_eq_false h8] at hst
    have e : bgF k = fz k := if_neg h8
    rw [e]
    go_enter Tryd.func29, Tryd.ntmps29
    go_wp2_with fail
    refine hst.mono ?_
    rintro e w' ⟨rfl, hw⟩
    subst w'
    clear hst hW1
    go_wp2_with (refine wpList_store_row rfl 28 _ _ rfl w.heap.size (fz k).cells.toArray rfl rfl 28 _ hn0.out i28s rfl (fz_on k false false).one ?_)
    refine bodyPost_ret (results_cell_row (fn := Tryd.f29) (p := 2) (ty := 28) rfl _ _ w.heap.size 28 _ (0, 0) _ rfl (HS.out _) hu28 rfl i28s) rfl ?_
    exact ⟨rfl, HB.out _⟩
end Go.Proofs.YtaeapgkfmofjlaaDoor
