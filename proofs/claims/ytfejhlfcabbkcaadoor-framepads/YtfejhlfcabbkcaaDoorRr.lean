/- frame.beginning, mayBe; laws for a guarded load of a struct. -/
import Derived.Test.YtfejhlfcabbkcaaDoorRw
import Derived.Laws.Rows
import Derived.Laws.Tables
namespace Go.Proofs.YtfejhlfcabbkcaaDoor
open Go.ChangeShapes Go.WideShapes Go.ChangeAt Go.RowKit
set_option linter.unusedVariables false
set_option maxRecDepth 100000

/-- A frame of a kind, and nothing else. -/
def fz (k : Int) : Fr := ⟨k, 0, 0, .slice none 0 0, false, false, 0, 0, 0, .slice none 0 0, 0, 0, 0, 0, 0, 0, .slice none 0 0, List.replicate 16 (.int .u8 0), List.replicate 8 (.int .u8 0), 0⟩
theorem i33s : (Tryd.prog.info? 33).map (·.size) = some 42 := by kernel_rfl
/-- Values of one cell each. -/
def Fr.ones (f : Fr) : Prop := f.cells.toArray.all (·.oneCell') = true ∧ f.cells.length = 42
/-- Frames as these: nothing but numbers and a path. -/
structure Fr.std (f : Fr) : Prop where
  D : f.D = .slice none 0 0
  A : f.A = .slice none 0 0
  I : f.I = .slice none 0 0
  rs : f.rs = List.replicate 16 (.int .u8 0)
  pt : ∃ T : List UInt8, T.length = 8 ∧ f.pt = bc T
theorem Fr.std.one {f : Fr} (h : f.std) : f.ones := by
  obtain ⟨h1, h2, h3, h4, T, h5, h6⟩ := h
  have hb : (bc T).all (·.oneCell') = true := List.all_eq_true.2 (bc_one T)
  constructor
  · rw [List.all_toArray]
    unfold Fr.cells
    rw [h1, h2, h3, h4, h6]
    simp only [List.all_append, hb]
    rfl
  · unfold Fr.cells
    rw [h4, h6]
    simp [bc_length, h5]
theorem fz_std (k : Int) : (fz k).std := ⟨rfl, rfl, rfl, rfl, List.replicate 8 0, rfl, rfl⟩
theorem Fr.std.r16 {f : Fr} (h : f.std) : f.rs.length = 16 := by rw [h.rs]; rfl
theorem Fr.std.p8 {f : Fr} (h : f.std) : f.pt.length = 8 := by obtain ⟨T, h5, h6⟩ := h.pt; rw [h6, bc_length, h5]
/-- A struct loaded where a guard lets it. -/
theorem wpList_load_row_g {P : Program} {ops : Array Oper} {rest : List Oper} {o : Oper} {a : Act} {w : World} {Q : Exit → Act → World → Prop} (hw : Region.wanted o (yielded ops a.tmps) = true) (ty : TypeId) (x : Operand) (ho : o.op = .load ty x)
    (g : Nat) (hx : a.eval x = .pointer (some ⟨g, 0, none⟩)) (t : TypeId) (cs : Array Value) (fr : Nat × Nat) (d : TypeDesc) (hg : w.heap[g]? = some (.cells cs t fr))
    (hu : P.underlying ty = some d) (hd : (match d with | .struct _ | .array _ _ => true | _ => false) = true) (hi : (P.info? ty).map (·.size) = some cs.size)
    (h : wpList P ops Q rest (a.put o.dst (.agg cs)) w) : wpList P ops Q (o :: rest) a w :=
  BigFrame.wpList_want hw fun _ hK => wp_load_row ty x ho g hx t cs fr d hg hu hd hi (hK _ _ h)
theorem hu33 : Tryd.prog.underlying 33 = some (.struct (Tryd.prog.fieldsOf 33)) := by kernel_rfl
set_option maxHeartbeats 1000000 in
theorem beginning_c (k : Int) (w : World) (h0 : 0 ≤ k) (h1 : k ≤ 63) (h2 : ¬ (8 ≤ k ∧ k < 16)) : Calls Tryd.prog 14 #[.int .i64 k] w fun e w' => e = .returned (.agg (fz k).cells.toArray) ∧ Below w.heap.size w w' := by
  have hst := isStr_any k (w.alloc (.cells (fz 0).cells.toArray 33)) h0 h1
  rw [decide_eq_false h2] at hst
  have hn0 : Aside ((w.alloc (.cells (fz 0).cells.toArray 33)).heap[w.heap.size]? = some (.cells (fz 0).cells.toArray 33 (0, 0))) := heap_alloc_new w _
  have hu : Tryd.prog.underlying 33 = some (.struct (Tryd.prog.fieldsOf 33)) := by kernel_rfl
  obtain ⟨W1, hW1⟩ : ∃ W1, w.alloc (.cells (fz 0).cells.toArray 33) = W1 := ⟨_, rfl⟩
  have hb1 : Aside (Below w.heap.size w W1) := by show Below _ _ _; rw [← hW1]; exact bel1 w _
  rw [hW1] at hst hn0
  simp only [fz, Fr.cells, List.replicate, List.cons_append, List.nil_append] at hW1
  go_enter Tryd.func14, Tryd.ntmps14
  go_wp2_with fail
  refine hst.mono ?_
  rintro e w' ⟨rfl, hw⟩
  subst w'
  clear hst hW1
  have HS : Aside ((W1.setRow w.heap.size (fz k).cells.toArray).heap[w.heap.size]? = some (.cells (fz k).cells.toArray 33 (0, 0))) := setRow_heap W1 _ _ _ 33 (0, 0) hn0.out
  have HB : Aside (Below w.heap.size w (W1.setRow w.heap.size (fz k).cells.toArray)) := hb1.out.trans ⟨rfl, rfl, rfl, by simp, fun j hj => setRow_other W1 _ j _ (by omega)⟩
  go_wp2_with (refine wpList_store_row rfl 33 _ _ rfl w.heap.size (fz k).cells.toArray rfl rfl 33 _ hn0.out i33s rfl (fz_std k).one.1 ?_)
  refine bodyPost_ret (results_cell_row (fn := Tryd.f14) (p := 2) (ty := 33) rfl _ _ w.heap.size 33 _ (0, 0) _ rfl HS.out hu33 rfl i33s) rfl ?_
  exact ⟨rfl, HB.out⟩
set_option maxHeartbeats 1000000 in
theorem mayBe_c (f : Fr) (w : World) (h : f.std) (k : Int) (hk : f.k = k) (hks : (k = 0 ∧ 1 ≤ f.cnt) ∨ k = 1 ∨ k = 16 ∨ k = 25 ∨ k = 26 ∨ k = 30) : Calls Tryd.prog 9 #[.agg f.cells.toArray] w fun e w' => e = .returned (.bool true) ∧ Below w.heap.size w w' := by
  have hn0 : Fm (w.alloc (.cells f.cells.toArray 33)) w.heap.size f := heap_alloc_new w _
  have c0 := hn0.at 0 _ (show f.cells[0]? = some (.int .i64 f.k) from rfl)
  have c41 := hn0.at 41 _ (Fr.cnt41 h.r16 h.p8)
  rw [hk] at c0
  have HB : Aside (Below w.heap.size w (w.alloc (.cells f.cells.toArray 33))) := bel1 w _
  obtain ⟨W1, hW1⟩ : ∃ W1, w.alloc (.cells f.cells.toArray 33) = W1 := ⟨_, rfl⟩
  rw [hW1] at c0 c41 HB
  clear hn0 h
  generalize f.cells.toArray = X at *
  rcases hks with ⟨rfl, hc⟩ | rfl | rfl | rfl | rfl | rfl
  all_goals
    go_enter Tryd.func9, Tryd.ntmps9
    go_wp2
    go_ret
    exact ⟨rfl, HB.out⟩
end Go.Proofs.YtfejhlfcabbkcaaDoor
