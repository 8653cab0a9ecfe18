/- params: the reference's parameters as a row; its Default, withReset. -/
import Derived.Test.YtcppnellgkbndaaDoorRq
namespace Go.Proofs.YtcppnellgkbndaaDoor
open Go.ChangeShapes Go.WideShapes Go.ChangeAt Go.RowKit
set_option linter.unusedVariables false
set_option maxRecDepth 100000

def Rq.setN (q : Rq) (k : Nat) (v : Int) : Rq := { q with N := fun j => if j = k then v else q.N j }
def Rq.setT (q : Rq) (k : Nat) (v : ByteArray) : Rq := { q with T := fun j => if j = k then v else q.T j }
theorem Rq.get (q : Rq) (j : Nat) : q.cells[j]? = if j < 33 then some (.int .i64 (q.N j)) else if j < 66 then some (.string (q.T (j - 33))) else if j = 66 then some (.bool q.ha) else if j = 67 then some (.bool q.hr) else none := by
  unfold Rq.cells
  by_cases h1 : j < 33
  · rw [List.getElem?_append_left (by simpa using h1), if_pos h1]
    simp [h1]
  · rw [List.getElem?_append_right (by simp; omega), if_neg h1]
    simp only [List.length_map, List.length_range]
    by_cases h2 : j < 66
    · rw [List.getElem?_append_left (by simp; omega), if_pos h2]
      rw [List.getElem?_map, List.getElem?_range (by omega)]
      rfl
    · rw [List.getElem?_append_right (by simp; omega), if_neg h2]
      simp only [List.length_map, List.length_range]
      by_cases h3 : j = 66
      · subst h3; rfl
      · rw [if_neg h3]
        by_cases h4 : j = 67
        · subst h4; rfl
        · rw [if_neg h4]
          apply List.getElem?_eq_none
          simp
          omega
theorem Rq.len (q : Rq) : q.cells.length = 68 := by simp [Rq.cells]
theorem Rq.setN_cells (q : Rq) (k : Nat) (v : Int) (hk : k < 33) : q.cells.toArray.setIfInBounds k (.int .i64 v) = (q.setN k v).cells.toArray := by
  apply Array.ext'
  rw [Array.toList_setIfInBounds]
  apply List.ext_getElem?
  intro j
  rw [List.getElem?_set, Rq.get, Rq.get, Rq.len]
  by_cases h : k = j
  · subst h
    rw [if_pos rfl, if_pos (by omega), if_pos hk]
    simp [Rq.setN]
  · have h' : ¬ j = k := fun e => h e.symm
    simp [Rq.setN, h, h']
theorem Rq.setT_cells (q : Rq) (k : Nat) (v : ByteArray) (hk : k < 33) : q.cells.toArray.setIfInBounds (33 + k) (.string v) = (q.setT k v).cells.toArray := by
  apply Array.ext'
  rw [Array.toList_setIfInBounds]
  apply List.ext_getElem?
  intro j
  rw [List.getElem?_set, Rq.get, Rq.get, Rq.len]
  by_cases h : 33 + k = j
  · subst h
    rw [if_pos rfl, if_pos (by omega), if_neg (by omega), if_pos (by omega)]
    simp [Rq.setT]
  · by_cases h1 : j < 33
    · simp [Rq.setT, h, h1]
    · have h' : ¬ j - 33 = k := fun e => h (by omega)
      simp [Rq.setT, h, h1, h']
/-- The reference's parameters in block g. -/
def Rr (w : World) (g : Nat) (q : Rq) : Prop := w.heap[g]? = some (.cells q.cells.toArray 34 (0, 0))
theorem cellb' {w : World} {g j : Nat} {cs : Array Value} {t : TypeId} {fr : Nat × Nat} {v : Value} (h : w.heap[g]? = some (.cells cs t fr)) (hj : cs[j]? = some v) : w.cell? ⟨g, j, none⟩ = some v := by
  unfold World.cell?
  rw [h]
  simpa using hj
theorem Rr.rc {w : World} {g : Nat} {q : Rq} (h : Rr w g q) : Rc w g q := by
  refine ⟨fun k hk => cellb' h ?_, fun k hk => cellb' h ?_, cellb' h ?_, cellb' h ?_⟩
  · rw [List.getElem?_toArray, Rq.get, if_pos hk]
  · rw [List.getElem?_toArray, Rq.get, if_neg (by omega), if_pos (by omega), show 33 + k - 33 = k by omega]
  · rw [List.getElem?_toArray, Rq.get]; rfl
  · rw [List.getElem?_toArray, Rq.get]; rfl
theorem Rr.frozen {w : World} {g : Nat} {q : Rq} (h : Rr w g q) (j : Nat) : w.frozen? ⟨g, j, none⟩ = false := by
  have h' : w.heap[g]? = _ := h
  simp [World.frozen?, h']
theorem Rr.setN {w : World} {g : Nat} {q : Rq} (h : Rr w g q) (k : Nat) (v : Int) (hk : k < 33) : Rr (w.setCell ⟨g, k, none⟩ (.int .i64 v)) g (q.setN k v) := by
  have h' : w.heap[g]? = some (.cells q.cells.toArray 34 (0, 0)) := h
  show (w.setCell ⟨g, k, none⟩ _).heap[g]? = _
  rw [setCell_eq_setRow w g k _ 34 (0, 0) _ h', setRow_heap w g _ _ 34 (0, 0) h', Rq.setN_cells q k v hk]
theorem Rr.setT {w : World} {g : Nat} {q : Rq} (h : Rr w g q) (k : Nat) (v : ByteArray) (hk : k < 33) : Rr (w.setCell ⟨g, 33 + k, none⟩ (.string v)) g (q.setT k v) := by
  have h' : w.heap[g]? = some (.cells q.cells.toArray 34 (0, 0)) := h
  show (w.setCell ⟨g, 33 + k, none⟩ _).heap[g]? = _
  rw [setCell_eq_setRow w g (33 + k) _ 34 (0, 0) _ h', setRow_heap w g _ _ 34 (0, 0) h', Rq.setT_cells q k v hk]
/-- Nothing but block g has turned. -/
theorem Rr.bel {w X : World} {g n : Nat} {q : Rq} (h : Rr X g q) (hb : Below n w X) (hn : n ≤ g) (j : Nat) (v : Value) : Below n w (X.setCell ⟨g, j, none⟩ v) := by
  have h' : X.heap[g]? = some (.cells q.cells.toArray 34 (0, 0)) := h
  rw [setCell_eq_setRow X g j _ 34 (0, 0) v h']
  exact ⟨hb.os, hb.tape, hb.output, by have := hb.size; simpa using this, fun k hk => (setRow_other X g k _ (by omega)).trans (hb.block k hk)⟩
theorem Rr.other {X : World} {g k : Nat} {q : Rq} (h : Rr X g q) (j : Nat) (v : Value) (hk : k ≠ g) : (X.setCell ⟨g, j, none⟩ v).heap[k]? = X.heap[k]? := by
  have h' : X.heap[g]? = some (.cells q.cells.toArray 34 (0, 0)) := h
  rw [setCell_eq_setRow X g j _ 34 (0, 0) v h']
  exact setRow_other X g k _ hk
def rq0 : Rq := ⟨fun _ => 0, fun _ => ⟨#[]⟩, false, false⟩
theorem hu34 : Tryd.prog.underlying 34 = some (.struct (Tryd.prog.fieldsOf 34)) := by kernel_rfl
theorem hi34 : (Tryd.prog.info? 34).map (·.size) = some 68 := by kernel_rfl
theorem Rq.size (q : Rq) : q.cells.toArray.size = 68 := by simp [Rq.cells]
theorem hi34q (q : Rq) : (Tryd.prog.info? 34).map (·.size) = some q.cells.toArray.size := by rw [Rq.size]; exact hi34
theorem Rq.one (q : Rq) : q.cells.toArray.all (·.oneCell') = true := by
  rw [Array.all_eq_true_iff_forall_mem]
  intro v hv
  have hv' : v ∈ q.cells := by simpa using hv
  unfold Rq.cells at hv'
  simp only [List.mem_append, List.mem_map, List.mem_cons, List.not_mem_nil, or_false] at hv'
  rcases hv' with ⟨k, _, rfl⟩ | ⟨k, _, rfl⟩ | rfl | rfl <;> simp [Value.oneCell']
theorem zQ_eq : Tryd.zeroCells34 = rq0.cells.toArray := by kernel_rfl
/-- The reference's Default. -/
def dflQ : Rq := (((rq0.setN 3 65527).setN 10 3).setN 11 25).setN 14 2
set_option maxHeartbeats 1000000 in
theorem rdefault_c (w : World) : Calls Tryd.prog 15 #[] w fun e w' => e = .returned (.agg dflQ.cells.toArray) ∧ Below w.heap.size w w' := by
  obtain ⟨X, hX⟩ : ∃ X, (w.alloc (.cells Tryd.zeroCells34 34)).alloc (.cells ((((Tryd.zeroCells34.setIfInBounds 3 (.int .i64 65527)).setIfInBounds 10 (.int .i64 3)).setIfInBounds 11 (.int .i64 25)).setIfInBounds 14 (.int .i64 2)) 34) = X := ⟨_, rfl⟩
  have hD : ((((Tryd.zeroCells34.setIfInBounds 3 (.int .i64 65527)).setIfInBounds 10 (.int .i64 3)).setIfInBounds 11 (.int .i64 25)).setIfInBounds 14 (.int .i64 2)) = dflQ.cells.toArray := by
    rw [zQ_eq, Rq.setN_cells _ _ _ (by decide), Rq.setN_cells _ _ _ (by decide), Rq.setN_cells _ _ _ (by decide), Rq.setN_cells _ _ _ (by decide)]
    rfl
  have HG4 : Aside (X.heap[w.heap.size + 1]? = some (.cells dflQ.cells.toArray 34 (0, 0))) := by
    show _ = _
    rw [← hX, hD]
    have := heap_alloc_new (w.alloc (.cells Tryd.zeroCells34 34)) (.cells dflQ.cells.toArray 34)
    simpa using this
  have hr4 : X.heap[w.heap.size]? = some (.cells Tryd.zeroCells34 34 (0, 0)) := by
    rw [← hX]
    exact ((bel1 (w.alloc (.cells Tryd.zeroCells34 34)) _).block w.heap.size (by simp)).trans (heap_alloc_new w _)
  have HR4 : Aside (X.heap[w.heap.size]? = some (.cells Tryd.zeroCells34 34 (0, 0))) := hr4
  have HS : Aside ((X.setRow w.heap.size dflQ.cells.toArray).heap[w.heap.size]? = some (.cells dflQ.cells.toArray 34 (0, 0))) := setRow_heap X _ _ _ 34 (0, 0) hr4
  have HB : Aside (Below w.heap.size w (X.setRow w.heap.size dflQ.cells.toArray)) := by
    have hb : Below w.heap.size w X := by rw [← hX]; exact bel_trans (bel1 w _) (bel1 _ _)
    exact hb.trans ⟨rfl, rfl, rfl, by simp, fun j hj => setRow_other X _ j _ (by omega)⟩
  have HI : Aside ((Tryd.prog.info? 34).map (·.size) = some dflQ.cells.toArray.size) := hi34q dflQ
  have HSZ : Aside (Tryd.zeroCells34.size = dflQ.cells.toArray.size) := by show _ = _; rw [zQ_eq, Rq.size, Rq.size]
  have HON : Aside (dflQ.cells.toArray.all (·.oneCell') = true) := dflQ.one
  have HX : Aside ((w.alloc (.cells Tryd.zeroCells34 34)).alloc (.cells ((((Tryd.zeroCells34.setIfInBounds 3 (.int .i64 65527)).setIfInBounds 10 (.int .i64 3)).setIfInBounds 11 (.int .i64 25)).setIfInBounds 14 (.int .i64 2)) 34) = X) := hX
  clear hr4 hD hX
  generalize dflQ.cells.toArray = D at *
  go_enter Tryd.func15, Tryd.ntmps15
  go_upto_region 6 with fail
  rw [HX.out]
  clear HX
  go_wp2_with (first
    | (refine wpList_load_row rfl 34 (.tmp 1) rfl (w.heap.size + 1) rfl 34 _ (0, 0) _ HG4.out hu34 rfl HI.out ?_)
    | (refine wpList_store_row rfl 34 (.tmp 0) (.tmp 10) rfl w.heap.size D rfl rfl 34 _ HR4.out HI.out HSZ.out HON.out ?_))
  refine bodyPost_ret (results_cell_row (fn := Tryd.f15) (p := 0) (ty := 34) rfl _ _ w.heap.size 34 _ (0, 0) _ rfl HS.out hu34 rfl HI.out) rfl ?_
  exact ⟨rfl, HB.out⟩
set_option maxHeartbeats 1000000 in
theorem withReset_c (q : Rq) (w : World) : Calls Tryd.prog 14 #[.agg q.cells.toArray] w fun e w' => e = .returned (.agg (q.setT 2 ZS).cells.toArray) ∧ Below w.heap.size w w' := by
  obtain ⟨W1, hW1⟩ : ∃ W1, (w.alloc (.cells q.cells.toArray 34)).alloc (.cells Tryd.zeroCells34 34) = W1 := ⟨_, rfl⟩
  have hb1 : Below w.heap.size w W1 := by rw [← hW1]; exact bel_trans (bel1 w _) (bel1 _ _)
  have hq1 : Rr W1 w.heap.size q := by
    show W1.heap[_]? = _
    rw [← hW1]
    exact ((bel1 (w.alloc (.cells q.cells.toArray 34)) _).block w.heap.size (by simp)).trans (heap_alloc_new w _)
  have hr1 : W1.heap[w.heap.size + 1]? = some (.cells Tryd.zeroCells34 34 (0, 0)) := by
    rw [← hW1]
    have := heap_alloc_new (w.alloc (.cells q.cells.toArray 34)) (.cells Tryd.zeroCells34 34)
    simpa using this
  have hs1 : W1.heap.size = w.heap.size + 1 + 1 := by rw [← hW1]; simp
  obtain ⟨W2, hW2⟩ : ∃ W2, W1.alloc (.cells ZC 5) = W2 := ⟨_, rfl⟩
  have hb2 : Below W1.heap.size W1 W2 := by rw [← hW2]; exact bel1 _ _
  have hq2 : Rr W2 w.heap.size q := (hb2.block _ (by omega)).trans hq1
  have hr2 : W2.heap[w.heap.size + 1]? = some (.cells Tryd.zeroCells34 34 (0, 0)) := (hb2.block _ (by omega)).trans hr1
  have hmk := mkz W1
  have hcv := cvz W1
  rw [hW2] at hmk hcv
  rw [hs1] at hmk hcv
  have f2 := hq2.frozen 35
  have k2 := hq2.rc.t 2 (by decide)
  have k2' : W2.cell? ⟨w.heap.size, 35, none⟩ = some (.string (q.T 2)) := k2
  obtain ⟨X, hX⟩ : ∃ X, W2.setCell ⟨w.heap.size, 35, none⟩ (.string ZS) = X := ⟨_, rfl⟩
  have hq3 : Rr X w.heap.size (q.setT 2 ZS) := by rw [← hX]; exact hq2.setT 2 _ (by decide)
  have hr3 : X.heap[w.heap.size + 1]? = some (.cells Tryd.zeroCells34 34 (0, 0)) := by rw [← hX, hq2.other _ _ (by omega)]; exact hr2
  have hb3 : Below w.heap.size w X := by rw [← hX]; exact hq2.bel (bel_trans hb1 hb2) (Nat.le_refl _) _ _
  have HG4 : Aside (Rr X w.heap.size (q.setT 2 ZS)) := hq3
  have HR4 : Aside (X.heap[w.heap.size + 1]? = some (.cells Tryd.zeroCells34 34 (0, 0))) := hr3
  have HS : Aside ((X.setRow (w.heap.size + 1) (q.setT 2 ZS).cells.toArray).heap[w.heap.size + 1]? = some (.cells (q.setT 2 ZS).cells.toArray 34 (0, 0))) := setRow_heap X _ _ _ 34 (0, 0) hr3
  have HB : Aside (Below w.heap.size w (X.setRow (w.heap.size + 1) (q.setT 2 ZS).cells.toArray)) := hb3.trans ⟨rfl, rfl, rfl, by simp, fun j hj => setRow_other X _ j _ (by omega)⟩
  have HI : Aside ((Tryd.prog.info? 34).map (·.size) = some (q.setT 2 ZS).cells.toArray.size) := hi34q _
  have HSZ : Aside (Tryd.zeroCells34.size = (q.setT 2 ZS).cells.toArray.size) := by show _ = _; rw [zQ_eq, Rq.size, Rq.size]
  have HON : Aside ((q.setT 2 ZS).cells.toArray.all (·.oneCell') = true) := Rq.one _
  clear hq1 hr1 hb1 hb2 hq2 hr2 hq3 hr3 hb3 k2
  unfold Rr at HG4
  generalize (q.setT 2 ZS).cells.toArray = D at *
  generalize q.cells.toArray = cs at *
  go_enter Tryd.func14, Tryd.ntmps14
  go_wp2_with (first
    | (refine wpList_load_row rfl 34 (.tmp 1) rfl w.heap.size rfl 34 _ (0, 0) _ HG4.out hu34 rfl HI.out ?_)
    | (refine wpList_store_row rfl 34 (.tmp 2) (.tmp 7) rfl (w.heap.size + 1) D rfl rfl 34 _ HR4.out HI.out HSZ.out HON.out ?_))
  refine bodyPost_ret (results_cell_row (fn := Tryd.f14) (p := 2) (ty := 34) rfl _ _ (w.heap.size + 1) 34 _ (0, 0) _ rfl HS.out hu34 rfl HI.out) rfl ?_
  exact ⟨rfl, HB.out⟩
end Go.Proofs.YtcppnellgkbndaaDoor
