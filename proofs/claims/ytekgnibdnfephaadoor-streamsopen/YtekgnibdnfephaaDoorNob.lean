/- A table that is nil, or that no call made: what each call answers for it. -/
import Derived.Test.YtekgnibdnfephaaDoorChecked
import Derived.WalkKit
import Derived.ProofKit
import Derived.OpenShut
import Derived.Deep.LoopGhost
import Derived.Laws.StructEq
import Derived.Laws.Rows
import Derived.Laws.Tables
import Derived.Laws.ResultCell
import Derived.Deep.MidRow
import Derived.Laws.CopyOwn
import Derived.OwnWalk
namespace Go.Proofs.YtekgnibdnfephaaDoor
open Go.RowKit
set_option linter.unusedVariables false

theorem bel1 (w : World) (o : Obj) : Below w.heap.size w (w.alloc o) := (Below.refl _ w).alloc (Nat.le_refl _) o
theorem bel_trans {a b c : World} (h : Below a.heap.size a b) (k : Below b.heap.size b c) : Below a.heap.size a c := h.trans (k.mono h.size)
theorem heap_bel {w w' : World} {b : Nat} {o : Obj} (h : w.heap[b]? = some o) (hb : Below w.heap.size w w') : w'.heap[b]? = some o := (hb.block b (Array.getElem?_eq_some_iff.1 h).1).trans h
theorem cell_bel {w w' : World} {b j : Nat} {v : Value} (h : w.cell? ⟨b, j, none⟩ = some v) (hb : Below w.heap.size w w') : w'.cell? ⟨b, j, none⟩ = some v := by
  rw [hb.cell (p := ⟨b, j, none⟩) (World.block_lt_of_cell? _ _ h)]; exact h
theorem bel_drew (w : World) : Below w.heap.size w w.drew := ⟨rfl, rfl, rfl, Nat.le_refl _, fun _ _ => rfl⟩
theorem bel_set {a w : World} {n g : Nat} (h : Below n a w) (hg : n ≤ g) (cs : Array Value) : Below n a (w.setRow g cs) := below_setRow h hg cs
theorem norm_any' {φ : Act → World → Prop} {a : Act} {w : World} (h : ∀ K : Act → World → Prop, (∀ a w, φ a w → K a w) → K a w) : φ a w := h φ (fun _ _ h => h)
theorem mkHid {p : Prop} (h : p) : Hid p := h
/-- A table's cells that no call made. -/
def ma0 : List Value := [.bool false, .int .i64 0, .int .i64 0, .int .i64 0, .int .i64 0, .int .i64 0, .int .i64 0, .int .i64 0, .int .i64 0, .int .i64 0, .int .i64 0, .int .i64 0, .int .i64 0, .map none, .map none, .pointer none, .pointer none, .pointer none, .int .i64 0, .pointer none, .pointer none, .int .i64 0, .pointer none, .slice none 0 0, .map none, .int .i64 0]
def Nm (w : World) (p : Option Addr) : Prop := p = none ∨ ∃ b, p = some ⟨b, 0, none⟩ ∧ w.heap[b]? = some (.cells ma0.toArray 61 (0, 0))
theorem Nm.bel {w w' : World} {p : Option Addr} (h : Nm w p) (hb : Below w.heap.size w w') : Nm w' p := by
  rcases h with rfl | ⟨b, rfl, h0⟩
  · exact .inl rfl
  · exact .inr ⟨b, rfl, heap_bel h0 hb⟩
theorem results_tmp4 {fn : Func} {t u v x : Tmp} (h : fn.results = #[.tmp t, .tmp u, .tmp v, .tmp x]) (tmps : Array Value) (P : Program) (w : World) :
    (results fn tmps).run P w = .ok (.tuple #[tmps.getD t undef, tmps.getD u undef, tmps.getD v undef, tmps.getD x undef]) w := by
  simp [results, h]
set_option maxRecDepth 10000 in
theorem c13 {w : World} {b : Nat} (h : w.heap[b]? = some (.cells ma0.toArray 61 (0, 0))) : w.cell? ⟨b, 13, none⟩ = some (.map none) := by simp [World.cell?, h, ma0]
theorem eq_mapN (w : World) : (binOp .eql 50 (.map none) (.map none)).run Tryd.prog w = .ok (.bool true) w := by kernel_rfl
set_option maxRecDepth 10000 in
theorem none_c (p : Option Addr) (w : World) (h : Nm w p) : Calls Tryd.prog 16 #[.pointer p] w fun e w' => e = .returned (.bool true) ∧ w' = w := by
  rcases h with rfl | ⟨b, rfl, h0⟩
  · go_enter Tryd.func16, Tryd.ntmps16
    go_wp2
    go_ret
    exact ⟨rfl, rfl⟩
  · have h1 := c13 h0
    have hq := eq_mapN
    go_enter Tryd.func16, Tryd.ntmps16
    go_wp2
    go_ret
    exact ⟨rfl, rfl⟩
theorem open_no (p : Option Addr) (u : Bool) (w : World) (h : Nm w p) : Calls Tryd.prog 6 #[.pointer p, .bool u] w fun e w' => e = .returned (.tuple #[.int .i64 0, .int .i64 1]) ∧ w' = w := by
  go_enter Tryd.func6, Tryd.ntmps6
  go_wp2_with fail
  refine (none_c p _ h).mono ?_
  rintro e w' ⟨rfl, rfl⟩
  go_wp2
  go_ret2
  exact ⟨rfl, rfl⟩
theorem accept_no (p : Option Addr) (w : World) (h : Nm w p) : Calls Tryd.prog 9 #[.pointer p] w fun e w' => e = .returned (.tuple #[.int .i64 0, .bool false]) ∧ w' = w := by
  go_enter Tryd.func9, Tryd.ntmps9
  go_wp2_with fail
  refine (none_c p _ h).mono ?_
  rintro e w' ⟨rfl, rfl⟩
  go_wp2
  go_ret2
  exact ⟨rfl, rfl⟩
theorem told_no (p : Option Addr) (w : World) (h : Nm w p) : Calls Tryd.prog 8 #[.pointer p] w fun e w' => e = .returned (.tuple #[.int .i64 0, .int .i64 0, .int .i64 0, .int .i64 0]) ∧ w' = w := by
  go_enter Tryd.func8, Tryd.ntmps8
  go_wp2_with fail
  refine (none_c p _ h).mono ?_
  rintro e w' ⟨rfl, rfl⟩
  go_wp2
  refine bodyPost_ret (results_tmp4 rfl _ _ _) rfl ?_
  exact ⟨rfl, rfl⟩
/-- A frame's value, of its first two cells. -/
def fr2 (k id : Int) : List Value := [.int .i64 k, .int .i64 id, .int .i64 0, .slice none 0 0, .bool false, .bool false, .int .i64 0, .int .i64 0, .int .i64 0, .slice none 0 0, .int .i64 0, .int .i64 0, .int .i64 0, .int .i64 0, .int .i64 0, .int .i64 0, .slice none 0 0, .int .u8 0, .int .u8 0, .int .u8 0, .int .u8 0, .int .u8 0, .int .u8 0, .int .u8 0, .int .u8 0, .int .u8 0, .int .u8 0, .int .u8 0, .int .u8 0, .int .u8 0, .int .u8 0, .int .u8 0, .int .u8 0, .int .u8 0, .int .u8 0, .int .u8 0, .int .u8 0, .int .u8 0, .int .u8 0, .int .u8 0, .int .u8 0, .int .i64 0]
theorem kind_cell (w : World) (k id : Int) : (w.alloc (.cells (fr2 k id).toArray 42)).cell? ⟨w.heap.size, 0, none⟩ = some (.int .i64 k) := by
  unfold World.cell?
  simp only [heap_alloc_new w _]
  rfl
set_option maxRecDepth 10000 in
theorem take_no (p : Option Addr) (k id : Int) (w : World) (h : Nm w p) : Calls Tryd.prog 7 #[.pointer p, .agg (fr2 k id).toArray] w fun e w' => e = .returned (.iface 28 (.int .i64 1)) ∧ Below w.heap.size w w' := by
  have HB : Hid _ := bel1 w (.cells (fr2 k id).toArray 42)
  go_enter Tryd.func7, Tryd.ntmps7
  go_wp2_with fail
  refine (none_c p _ (h.bel HB.out)).mono ?_
  rintro e w' ⟨rfl, rfl⟩
  go_wp2
  go_ret
  exact ⟨rfl, HB.out⟩
theorem u66 : Tryd.prog.underlying 42 = some (.struct (Tryd.prog.fieldsOf 42)) := by kernel_rfl
theorem i66 : (Tryd.prog.info? 42).map (·.size) = some 42 := by kernel_rfl
end Go.Proofs.YtekgnibdnfephaaDoor
