/- params: a token may be; rows of the table: whose they are. -/
import Derived.Test.YtcppnellgkbndaaDoorMx
namespace Go.Proofs.YtcppnellgkbndaaDoor
open Go.ChangeShapes Go.WideShapes Go.ChangeAt Go.RowKit
set_option linter.unusedVariables false
set_option maxRecDepth 100000

theorem wpList_load_mid_g {P : Program} {ops : Array Oper} {rest : List Oper} {o : Oper} {a : Act} {w : World} {Q : Exit → Act → World → Prop} (hw : Region.wanted o (yielded ops a.tmps) = true) (ty : TypeId) (x : Operand) (ho : o.op = .load ty x)
    (b q : Nat) (hx : a.eval x = .pointer (some ⟨b, q, none⟩)) (cs : List Value) (d : TypeDesc) (hc : w.rangeAt b q cs)
    (hu : P.underlying ty = some d) (hd : d.isRow = true) (hi : (P.info? ty).map (·.size) = some cs.length)
    (h : wpList P ops Q rest (a.put o.dst (.agg cs.toArray)) w) : wpList P ops Q (o :: rest) a w :=
  BigFrame.wpList_want hw fun _ hK => wp_load_mid ty x ho b q hx cs d hc hu hd hi (hK _ _ h)
theorem wpList_load_row_g {P : Program} {ops : Array Oper} {rest : List Oper} {o : Oper} {a : Act} {w : World} {Q : Exit → Act → World → Prop} (hw : Region.wanted o (yielded ops a.tmps) = true) (ty : TypeId) (x : Operand) (ho : o.op = .load ty x)
    (g : Nat) (hx : a.eval x = .pointer (some ⟨g, 0, none⟩)) (t : TypeId) (cs : Array Value) (fr : Nat × Nat) (d : TypeDesc) (hg : w.heap[g]? = some (.cells cs t fr))
    (hu : P.underlying ty = some d) (hd : (match d with | .struct _ | .array _ _ => true | _ => false) = true) (hi : (P.info? ty).map (·.size) = some cs.size)
    (h : wpList P ops Q rest (a.put o.dst (.agg cs)) w) : wpList P ops Q (o :: rest) a w :=
  BigFrame.wpList_want hw fun _ hK => wp_load_row ty x ho g hx t cs fr d hg hu hd hi (hK _ _ h)
theorem range_bel {w w' : World} {b o : Nat} {cs : List Value} (h : w.rangeAt b o cs) (hb : Below w.heap.size w w') : w'.rangeAt b o cs := fun j v hv => cell_bel (h j v hv) hb
set_option maxHeartbeats 1000000 in
theorem reset_allowed (b j k : Nat) (x : Bool) (X : List UInt8) (hX : X.length = 16) (w : World) (h0 : w.rangeAt b j (hl X)) (h : w.cell? ⟨b, k, none⟩ = some (.bool x)) : Calls Tryd.prog 84 #[resetV b j k] w fun e w' => e = .returned (.bool (x || (X == List.replicate 16 0))) ∧ Below w.heap.size w w' := by
  obtain ⟨W1, hW1, hB, d0, d1⟩ := two_cells b j k 91 w
  have HB : Aside (Below w.heap.size w W1) := hB
  have dx : W1.cell? ⟨b, k, none⟩ = some (.bool x) := cell_bel h hB
  have HR : Aside (W1.rangeAt b j (hl X)) := range_bel h0 hB
  have hq := equalIn_h 23 hu23 9998 X (List.replicate 16 0) hX rfl W1
  have hlz : (hl X).length = 16 := by simp [hl, hX]
  have Hi : Aside ((Tryd.prog.info? 23).map (·.size) = some (hl X).length) := by show _ = _; rw [hlz]; exact hi23
  clear h hB h0 hlz
  unfold resetV
  cases x with
  | true =>
    go_enter Tryd.func84, Tryd.ntmps84
    go_wp2
    go_ret
    exact ⟨rfl, HB.out⟩
  | false =>
    rw [Bool.false_or]
    generalize (X == List.replicate 16 0) = y at *
    have hq' : (Op.equalIn 10000 23 (.agg (hl X).toArray) (.agg #[.int .u8 0, .int .u8 0, .int .u8 0, .int .u8 0, .int .u8 0, .int .u8 0, .int .u8 0, .int .u8 0, .int .u8 0, .int .u8 0, .int .u8 0, .int .u8 0, .int .u8 0, .int .u8 0, .int .u8 0, .int .u8 0])).run Tryd.prog W1 = .ok y W1 := hq
    clear hq
    generalize hl X = hx at *
    go_enter Tryd.func84, Tryd.ntmps84
    go_wp2_with (first | (refine wpList_load_mid_g (by rfl) 23 (.tmp 10) rfl b j rfl hx _ HR.out hu23 rfl Hi.out ?_))
    go_ret
    exact ⟨rfl, HB.out⟩
/-- A row of the table. -/
def fieldA (n : Int) (sv mu : Bool) (v : Value) : Array Value := #[.int .i64 n, .bool sv, .bool mu, v]
theorem hu58 : Tryd.prog.underlying 58 = some (.struct (Tryd.prog.fieldsOf 58)) := by kernel_rfl
theorem hi58 : (Tryd.prog.info? 58).map (·.size) = some 4 := by kernel_rfl
theorem field_cells (n : Int) (sv mu : Bool) (v : Value) (w : World) : ∃ W1, w.alloc (.cells (fieldA n sv mu v) 58) = W1 ∧ Below w.heap.size w W1 ∧ W1.heap[w.heap.size]? = some (.cells (fieldA n sv mu v) 58 (0, 0)) ∧ W1.cell? ⟨w.heap.size, 0, none⟩ = some (.int .i64 n) ∧ W1.cell? ⟨w.heap.size, 1, none⟩ = some (.bool sv) ∧ W1.cell? ⟨w.heap.size, 2, none⟩ = some (.bool mu) ∧ W1.cell? ⟨w.heap.size, 3, none⟩ = some v :=
  ⟨_, rfl, bel1 w _, heap_alloc_new w _, cell_new w _ 58 0 _ rfl, cell_new w _ 58 1 _ rfl, cell_new w _ 58 2 _ rfl, cell_new w _ 58 3 _ rfl⟩
theorem isOf_c (n : Int) (sv mu s : Bool) (v : Value) (w : World) : Calls Tryd.prog 27 #[.agg (fieldA n sv mu v), .bool s] w fun e w' => e = .returned (.bool (s || !sv)) ∧ Below w.heap.size w w' := by
  obtain ⟨W1, hW1, hB, hH, d0, d1, d2, d3⟩ := field_cells n sv mu v w
  have HB : Aside (Below w.heap.size w W1) := hB
  clear hB hH d0 d2 d3
  unfold fieldA at *
  cases s <;> {
    go_enter Tryd.func27, Tryd.ntmps27
    go_wp2
    go_ret
    exact ⟨rfl, HB.out⟩ }
theorem must_c (n : Int) (sv mu s : Bool) (v : Value) (w : World) : Calls Tryd.prog 20 #[.agg (fieldA n sv mu v), .bool s] w fun e w' => e = .returned (.bool (mu && (s || !sv))) ∧ Below w.heap.size w w' := by
  obtain ⟨W1, hW1, hB, hH, d0, d1, d2, d3⟩ := field_cells n sv mu v w
  have HB : Aside (Below w.heap.size w W1) := hB
  have HH : Aside (W1.heap[w.heap.size]? = some (.cells (fieldA n sv mu v) 58 (0, 0))) := hH
  have hc := isOf_c n sv mu s v W1
  clear hB hH d0 d1 d3
  generalize (s || !sv) = y at *
  have hW2 : w.alloc (.cells #[.int .i64 n, .bool sv, .bool mu, v] 58) = W1 := hW1
  cases mu with
  | false =>
    unfold fieldA at *
    go_enter Tryd.func20, Tryd.ntmps20
    go_wp2
    go_ret
    exact ⟨rfl, HB.out⟩
  | true =>
    rw [show #[Value.agg (fieldA n sv true v), Value.bool s] = #[.agg #[.int .i64 n, .bool sv, .bool true, v], .bool s] from rfl]
    have hc' : Calls Tryd.prog 27 #[.agg #[.int .i64 n, .bool sv, .bool true, v], .bool s] W1 fun e w' => e = .returned (.bool y) ∧ Below W1.heap.size W1 w' := hc
    clear hc hW1
    go_enter Tryd.func20, Tryd.ntmps20
    go_wp2_with (first | (refine wpList_load_row_g (by rfl) 58 (.tmp 2) rfl w.heap.size rfl 58 _ (0, 0) _ HH.out hu58 rfl hi58 ?_))
    refine hc'.mono ?_
    rintro e W2 ⟨rfl, hb2⟩
    have HB2 : Aside (Below w.heap.size w W2) := HB.out.trans (hb2.mono HB.out.size)
    clear hc' hb2
    go_wp2
    go_ret
    exact ⟨rfl, HB2.out⟩
/-- A numeral that may be anything, or 0. -/
def freeV (a : Option Addr) : Value := .iface 83 (.agg #[.pointer a, .int .i64 0, .int .i64 4611686018427387903, .int .i64 0])
theorem free_c (a : Option Addr) (w : World) : Calls Tryd.prog 36 #[.pointer a] w fun e w' => e = .returned (freeV a) ∧ w' = w := by
  go_enter Tryd.func36, Tryd.ntmps36
  go_wp2
  go_ret
  exact ⟨rfl, rfl⟩
/-- The cells of parameters that say nothing. -/
def defA : Array Value := #[.int .i64 0, .int .i64 65527, .int .i64 0, .int .i64 0, .int .i64 0, .int .i64 0, .int .i64 0, .int .i64 0, .int .i64 3, .int .i64 25, .bool false, .int .i64 2, .int .i64 0, .slice none 0 0, .slice none 0 0, .slice none 0 0, .bool false, .int .u8 0, .int .u8 0, .int .u8 0, .int .u8 0, .int .u8 0, .int .u8 0, .int .u8 0, .int .u8 0, .int .u8 0, .int .u8 0, .int .u8 0, .int .u8 0, .int .u8 0, .int .u8 0, .int .u8 0, .int .u8 0, .bool false]
theorem hu25 : Tryd.prog.underlying 25 = some (.struct (Tryd.prog.fieldsOf 25)) := by kernel_rfl
theorem hi25 : (Tryd.prog.info? 25).map (·.size) = some 34 := by kernel_rfl
end Go.Proofs.YtcppnellgkbndaaDoor
