/- A table that is nil, or that no call made: what each call answers for it. -/
import Derived.Test.YtijndpjdmiljkaaGreatDoorChecked
import Derived.WalkKit
import Derived.ProofKit
import Derived.OpenShut
import Derived.Deep.LoopGhost
import Derived.Laws.StructEq
import Derived.Laws.Rows
import Derived.Laws.Tables
import Derived.Laws.ResultCell
import Derived.Deep.MidRow
import Derived.Laws.CopyOwn
import Derived.OwnWalk
namespace Go.Proofs.YtijndpjdmiljkaaGreatDoor
open Go.RowKit
set_option linter.unusedVariables false

theorem bel1 (w : World) (o : Obj) : Below w.heap.size w (w.alloc o) := (Below.refl _ w).alloc (Nat.le_refl _) o
theorem bel_trans {a b c : World} (h : Below a.heap.size a b) (k : Below b.heap.size b c) : Below a.heap.size a c := h.trans (k.mono h.size)
theorem heap_bel {w w' : World} {b : Nat} {o : Obj} (h : w.heap[b]? = some o) (hb : Below w.heap.size w w') : w'.heap[b]? = some o := (hb.block b (Array.getElem?_eq_some_iff.1 h).1).trans h
theorem cell_bel {w w' : World} {b j : Nat} {v : Value} (h : w.cell? ⟨b, j, none⟩ = some v) (hb : Below w.heap.size w w') : w'.cell? ⟨b, j, none⟩ = some v := by
  rw [hb.cell (p := ⟨b, j, none⟩) (World.block_lt_of_cell? _ _ h)]; exact h
theorem bel_drew (w : World) : Below w.heap.size w w.drew := ⟨rfl, rfl, rfl, Nat.le_refl _, fun _ _ => rfl⟩
theorem bel_set {a w : World} {n g : Nat} (h : Below n a w) (hg : n ≤ g) (cs : Array Value) : Below n a (w.setRow g cs) := below_setRow h hg cs
theorem norm_any' {φ : Act → World → Prop} {a : Act} {w : World} (h : ∀ K : Act → World → Prop, (∀ a w, φ a w → K a w) → K a w) : φ a w := h φ (fun _ _ h => h)
theorem mkHid {p : Prop} (h : p) : Hid p := h
/-- A table's cells that no call made. -/
def ma0 : List Value := [.bool false, .int .i64 0, .int .i64 0, .int .i64 0, .int .i64 0, .int .i64 0, .int .i64 0, .int .i64 0, .int .i64 0, .int .i64 0, .int .i64 0, .int .i64 0, .int .i64 0, .map none, .map none, .pointer none, .pointer none, .pointer none, .int .i64 0, .pointer none, .pointer none, .int .i64 0, .pointer none, .slice none 0 0, .map none, .int .i64 0]
def Nm (w : World) (p : Option Addr) : Prop := p = none ∨ ∃ b, p = some ⟨b, 0, none⟩ ∧ w.heap[b]? = some (.cells ma0.toArray 89 (0, 0))
theorem Nm.bel {w w' : World} {p : Option Addr} (h : Nm w p) (hb : Below w.heap.size w w') : Nm w' p := by
  rcases h with rfl | ⟨b, rfl, h0⟩
  · exact .inl rfl
  · exact .inr ⟨b, rfl, heap_bel h0 hb⟩
theorem results_tmp4 {fn : Func} {t u v x : Tmp} (h : fn.results = #[.tmp t, .tmp u, .tmp v, .tmp x]) (tmps : Array Value) (P : Program) (w : World) :
    (results fn tmps).run P w = .ok (.tuple #[tmps.getD t undef, tmps.getD u undef, tmps.getD v undef, tmps.getD x undef]) w := by
  simp [results, h]
set_option maxRecDepth 10000 in
theorem c13 {w : World} {b : Nat} (h : w.heap[b]? = some (.cells ma0.toArray 89 (0, 0))) : w.cell? ⟨b, 13, none⟩ = some (.map none) := by simp [World.cell?, h, ma0]
theorem eq_mapN (w : World) : (binOp .eql 80 (.map none) (.map none)).run Tryz.prog w = .ok (.bool true) w := by kernel_rfl
set_option maxRecDepth 10000 in
theorem none_c (p : Option Addr) (w : World) (h : Nm w p) : Calls Tryz.prog 38 #[.pointer p] w fun e w' => e = .returned (.bool true) ∧ w' = w := by
  rcases h with rfl | ⟨b, rfl, h0⟩
  · go_enter Tryz.func38, Tryz.ntmps38
    go_wp2
    go_ret
    exact ⟨rfl, rfl⟩
  · have h1 := c13 h0
    have hq := eq_mapN
    go_enter Tryz.func38, Tryz.ntmps38
    go_wp2
    go_ret
    exact ⟨rfl, rfl⟩
theorem open_no (p : Option Addr) (u : Bool) (w : World) (h : Nm w p) : Calls Tryz.prog 16 #[.pointer p, .bool u] w fun e w' => e = .returned (.tuple #[.int .i64 0, .int .i64 1]) ∧ w' = w := by
  go_enter Tryz.func16, Tryz.ntmps16
  go_wp2_with fail
  refine (none_c p _ h).mono ?_
  rintro e w' ⟨rfl, rfl⟩
  go_wp2
  go_ret2
  exact ⟨rfl, rfl⟩
theorem accept_no (p : Option Addr) (w : World) (h : Nm w p) : Calls Tryz.prog 26 #[.pointer p] w fun e w' => e = .returned (.tuple #[.int .i64 0, .bool false]) ∧ w' = w := by
  go_enter Tryz.func26, Tryz.ntmps26
  go_wp2_with fail
  refine (none_c p _ h).mono ?_
  rintro e w' ⟨rfl, rfl⟩
  go_wp2
  go_ret2
  exact ⟨rfl, rfl⟩
theorem writing_no (p : Option Addr) (id : Int) (w : World) (h : Nm w p) : Calls Tryz.prog 52 #[.pointer p, .int .i64 id] w fun e w' => e = .returned (.tuple #[.pointer none, .int .i64 1]) ∧ w' = w := by
  go_enter Tryz.func52, Tryz.ntmps52
  go_wp2_with fail
  refine (none_c p _ h).mono ?_
  rintro e w' ⟨rfl, rfl⟩
  go_wp2
  go_ret2
  exact ⟨rfl, rfl⟩
theorem write_no (p : Option Addr) (id : Int) (o : Option Addr) (n c : Nat) (w : World) (h : Nm w p) : Calls Tryz.prog 17 #[.pointer p, .int .i64 id, .slice o n c] w fun e w' => e = .returned (.tuple #[.int .i64 0, .int .i64 1]) ∧ w' = w := by
  go_enter Tryz.func17, Tryz.ntmps17
  go_wp2_with fail
  refine (writing_no p id _ h).mono ?_
  rintro e w' ⟨rfl, rfl⟩
  go_wp2
  go_ret2
  exact ⟨rfl, rfl⟩
theorem finish_no (p : Option Addr) (id : Int) (w : World) (h : Nm w p) : Calls Tryz.prog 18 #[.pointer p, .int .i64 id] w fun e w' => e = .returned (.int .i64 1) ∧ w' = w := by
  go_enter Tryz.func18, Tryz.ntmps18
  go_wp2_with fail
  refine (writing_no p id _ h).mono ?_
  rintro e w' ⟨rfl, rfl⟩
  go_wp2
  go_ret
  exact ⟨rfl, rfl⟩
theorem reset_no (p : Option Addr) (id k : Int) (w : World) (h : Nm w p) : Calls Tryz.prog 31 #[.pointer p, .int .i64 id, .int .i64 k] w fun e w' => e = .returned (.int .i64 1) ∧ w' = w := by
  go_enter Tryz.func31, Tryz.ntmps31
  go_wp2_with fail
  refine (none_c p _ h).mono ?_
  rintro e w' ⟨rfl, rfl⟩
  go_wp2_with fail
  refine (writing_no p id _ h).mono ?_
  rintro e w' ⟨rfl, rfl⟩
  go_wp2
  go_ret
  exact ⟨rfl, rfl⟩
theorem stop_no (p : Option Addr) (id k : Int) (w : World) (h : Nm w p) : Calls Tryz.prog 32 #[.pointer p, .int .i64 id, .int .i64 k] w fun e w' => e = .returned (.int .i64 1) ∧ w' = w := by
  go_enter Tryz.func32, Tryz.ntmps32
  go_wp2_with fail
  refine (none_c p _ h).mono ?_
  rintro e w' ⟨rfl, rfl⟩
  go_wp2
  go_ret
  exact ⟨rfl, rfl⟩
theorem read_no (p : Option Addr) (id n : Int) (w : World) (h : Nm w p) : Calls Tryz.prog 22 #[.pointer p, .int .i64 id, .int .i64 n] w fun e w' => e = .returned (.tuple #[.slice none 0 0, .bool false, .int .i64 1]) ∧ w' = w := by
  go_enter Tryz.func22, Tryz.ntmps22
  go_wp2_with fail
  refine (none_c p _ h).mono ?_
  rintro e w' ⟨rfl, rfl⟩
  go_wp2
  go_ret3
  exact ⟨rfl, rfl⟩
theorem code_no (p : Option Addr) (id : Int) (w : World) (h : Nm w p) : Calls Tryz.prog 27 #[.pointer p, .int .i64 id] w fun e w' => e = .returned (.tuple #[.int .i64 0, .bool false]) ∧ w' = w := by
  go_enter Tryz.func27, Tryz.ntmps27
  go_wp2_with fail
  refine (none_c p _ h).mono ?_
  rintro e w' ⟨rfl, rfl⟩
  go_wp2
  go_ret2
  exact ⟨rfl, rfl⟩
theorem readable_no (p : Option Addr) (w : World) (h : Nm w p) : Calls Tryz.prog 13 #[.pointer p] w fun e w' => e = .returned (.slice none 0 0) ∧ w' = w := by
  go_enter Tryz.func13, Tryz.ntmps13
  go_wp2_with fail
  refine (none_c p _ h).mono ?_
  rintro e w' ⟨rfl, rfl⟩
  go_wp2
  go_ret
  exact ⟨rfl, rfl⟩
theorem told_no (p : Option Addr) (w : World) (h : Nm w p) : Calls Tryz.prog 30 #[.pointer p] w fun e w' => e = .returned (.tuple #[.int .i64 0, .int .i64 0, .int .i64 0, .int .i64 0]) ∧ w' = w := by
  go_enter Tryz.func30, Tryz.ntmps30
  go_wp2_with fail
  refine (none_c p _ h).mono ?_
  rintro e w' ⟨rfl, rfl⟩
  go_wp2
  refine bodyPost_ret (results_tmp4 rfl _ _ _) rfl ?_
  exact ⟨rfl, rfl⟩
/-- A frame's value, of its first two cells. -/
def fr2 (k id : Int) : List Value := [.int .i64 k, .int .i64 id, .int .i64 0, .slice none 0 0, .bool false, .bool false, .int .i64 0, .int .i64 0, .int .i64 0, .slice none 0 0, .int .i64 0, .int .i64 0, .int .i64 0, .int .i64 0, .int .i64 0, .int .i64 0, .slice none 0 0, .int .u8 0, .int .u8 0, .int .u8 0, .int .u8 0, .int .u8 0, .int .u8 0, .int .u8 0, .int .u8 0, .int .u8 0, .int .u8 0, .int .u8 0, .int .u8 0, .int .u8 0, .int .u8 0, .int .u8 0, .int .u8 0, .int .u8 0, .int .u8 0, .int .u8 0, .int .u8 0, .int .u8 0, .int .u8 0, .int .u8 0, .int .u8 0, .int .i64 0]
theorem kind_cell (w : World) (k id : Int) : (w.alloc (.cells (fr2 k id).toArray 66)).cell? ⟨w.heap.size, 0, none⟩ = some (.int .i64 k) := by
  unfold World.cell?
  simp only [heap_alloc_new w _]
  rfl
set_option maxRecDepth 10000 in
theorem take_no (p : Option Addr) (k id : Int) (w : World) (h : Nm w p) : Calls Tryz.prog 21 #[.pointer p, .agg (fr2 k id).toArray] w fun e w' => e = .returned (.iface 53 (.int .i64 1)) ∧ Below w.heap.size w w' := by
  have HB : Hid _ := bel1 w (.cells (fr2 k id).toArray 66)
  go_enter Tryz.func21, Tryz.ntmps21
  go_wp2_with fail
  refine (none_c p _ (h.bel HB.out)).mono ?_
  rintro e w' ⟨rfl, rfl⟩
  go_wp2
  go_ret
  exact ⟨rfl, HB.out⟩
set_option maxRecDepth 10000 in
theorem acked_no (p : Option Addr) (k id : Int) (w : World) (h : Nm w p) : Calls Tryz.prog 28 #[.pointer p, .agg (fr2 k id).toArray] w fun e w' => e = .returned (.tuple #[]) ∧ Below w.heap.size w w' := by
  have HB : Hid _ := bel1 w (.cells (fr2 k id).toArray 66)
  go_enter Tryz.func28, Tryz.ntmps28
  go_wp2_with fail
  refine (none_c p _ (h.bel HB.out)).mono ?_
  rintro e w' ⟨rfl, rfl⟩
  go_wp2
  exact bodyPost_end (results_none rfl _ _ _) rfl ⟨rfl, HB.out⟩
set_option maxRecDepth 10000 in
theorem lost_no (p : Option Addr) (k id : Int) (w : World) (h : Nm w p) : Calls Tryz.prog 29 #[.pointer p, .agg (fr2 k id).toArray] w fun e w' => e = .returned (.tuple #[]) ∧ Below w.heap.size w w' := by
  have HB : Hid _ := bel1 w (.cells (fr2 k id).toArray 66)
  go_enter Tryz.func29, Tryz.ntmps29
  go_wp2_with fail
  refine (none_c p _ (h.bel HB.out)).mono ?_
  rintro e w' ⟨rfl, rfl⟩
  go_wp2
  exact bodyPost_end (results_none rfl _ _ _) rfl ⟨rfl, HB.out⟩
theorem u66 : Tryz.prog.underlying 66 = some (.struct (Tryz.prog.fieldsOf 66)) := by kernel_rfl
theorem i66 : (Tryz.prog.info? 66).map (·.size) = some 42 := by kernel_rfl
set_option maxRecDepth 10000 in
theorem next_no (p : Option Addr) (n : Int) (w : World) (h : Nm w p) : Calls Tryz.prog 20 #[.pointer p, .int .i64 n] w fun e w' => e = .returned (.tuple #[.agg (fr2 0 0).toArray, .bool false]) ∧ Below w.heap.size w w' := by
  have HB : Hid _ := bel1 w (.cells (fr2 0 0).toArray 66)
  have HR : Hid _ := heap_alloc_new w (.cells (fr2 0 0).toArray 66)
  go_enter Tryz.func20, Tryz.ntmps20
  go_wp2_with fail
  refine (none_c p _ (h.bel HB.out)).mono ?_
  rintro e w' ⟨rfl, rfl⟩
  go_wp2_with (refine wpList_store_row rfl 66 (.tmp 4) (.tmp 18) rfl w.heap.size (fr2 0 0).toArray rfl rfl 66 _ HR.out i66 rfl (by kernel_rfl) ?_)
  have HS : Hid _ := setRow_heap (w.alloc (.cells (fr2 0 0).toArray 66)) w.heap.size _ (fr2 0 0).toArray 66 (0, 0) HR.out
  refine bodyPost_ret (v := .tuple #[.agg (fr2 0 0).toArray, .bool false]) ?_ rfl ⟨rfl, ?_⟩
  · rw [results_cell_tmp (show Tryz.f20.results = #[.cell 4 66, .tmp 5] from rfl)]
    show ((asAddr (.pointer (some ⟨w.heap.size, 0, none⟩))).run Tryz.prog _).andThen _ = _
    simp only [asAddr, Sem.run_pure, Result.andThen_ok, run_loadVar_row _ w.heap.size 66 66 _ (0, 0) _ HS.out u66 rfl i66]
    rfl
  · exact bel_set HB.out (Nat.le_refl _) _
end Go.Proofs.YtijndpjdmiljkaaGreatDoor
