/- slices.Clone of texts, bytes.Clone: what is told is a slice; nothing that was there turns. -/
import Derived.Test.YthdenbclfogojaaGreatDoorNu
import Derived.Maps.AppendAt
import Derived.Laws.OwnMore
namespace Go.Proofs.YthdenbclfogojaaGreatDoor
open Go.ChangeShapes Go.WideShapes Go.ChangeAt Go.RowKit Go.Lib
set_option linter.unusedVariables false

theorem appr {P : Program} {ops : Array Oper} {rest : List Oper} {o : Oper} {a : Act} {w : World} {Q : Exit → Act → World → Prop}
    (hg : o.guard = none) (d x : Operand) (dT sT : TypeId) (hop : o.op = Op.call { callee := Callee.builtin Builtin.append, args := #[d, x], argTypes := #[dT, sT] })
    (v u : Value) (hd : a.eval d = v) (hx : a.eval x = u) {v' : Value} {w' : World} (hr : (Builtin.append_ #[dT, sT] o.type #[v, u]).run P w = .ok v' w') (hK : wpList P ops Q rest (a.put o.dst v') w') :
    wpList P ops Q (o :: rest) a w :=
  wpList_plain hg fun K hK' => (by
    unfold Oper.wp
    simp [execOp, hop, resolve, invoke, builtin, hd, hx, hr, Result.andThen]
    exact hK' _ _ hK)
/-- A row as it lies. -/
def Rt (w : World) (o : Option Addr) (xs : List Value) : Prop := ∀ j u, xs[j]? = some u → ∃ a, o = some a ∧ w.cell? (a.add j) = some u
theorem Rt.bel {w w' : World} {o : Option Addr} {xs : List Value} (h : Rt w o xs) (hb : Below w.heap.size w w') : Rt w' o xs := fun j u hu => by
  obtain ⟨a, e, hc⟩ := h j u hu
  exact ⟨a, e, (World.cell?_of_block (a := a.add j) (hb.block _ (World.block_lt_of_cell? w _ hc))).trans hc⟩
set_option maxRecDepth 10000 in
theorem app0 (T e : TypeId) (ht : Tryz.prog.underlying T = some (.slice e)) (i : TypeInfo) (hi : Tryz.prog.info? e = some i) (z : Value) (bytes : Nat) (hz : i.zero = some z) (hs : i.size = 1) (hby : i.bytes = bytes) (hzc : z.cells.size = 1)
    {w : World} (ad : Addr) (xs : List Value) (c : Nat) (hx : Rt w (some ad) xs) (h1 : ∀ u ∈ xs, u.oneCell' = true) (hb : xs.length * bytes ≤ 140737488355328) (h63 : xs.length ≤ maxLen) :
    ∃ o' n' c' w', (Builtin.append_ #[T, T] T #[.slice (some ⟨w.heap.size, 0, none⟩) 0 0, .slice (some ad) xs.length c]).run Tryz.prog (w.alloc (.cells #[] e)) = .ok (.slice o' n' c') w' ∧ Below w.heap.size w w' := by
  have hb1 := bel1 w (.cells #[] e)
  have hown : (w.alloc (.cells #[] e)).ownsRow w.heap.size e 1 (.slice (some ⟨w.heap.size, 0, none⟩) 0 0) 0 [] := World.ownsRow_made w #[] 0 (Nat.le_refl _) (by decide) rfl
  obtain ⟨v', w', hrun, hown', hgr, _, _⟩ := run_append_own_at (P := Tryz.prog) (w.alloc (.cells #[] e)) w.heap.size T T e i z 1 bytes ht hi hz hs hby hzc (by decide) _ _ _ hown ad xs.length c xs (by omega) (fun j u hu => by
    obtain ⟨a, e', hc⟩ := hx.bel hb1 j u hu
    obtain rfl := Option.some.inj e'
    exact hc) h1 (by omega) (by rw [Nat.zero_add]; exact hb) hb1.size
  have hbb : Below w.heap.size w w' := ⟨hgr.os.trans hb1.os, hgr.tape.trans hb1.tape, hgr.output.trans hb1.output, Nat.le_trans hb1.size hgr.size, fun k hk => (hgr.block k (Nat.lt_of_lt_of_le hk hb1.size) (by simp [Value.ownBlock]; omega)).trans (hb1.block k hk)⟩
  obtain ⟨_, ⟨rfl, _⟩ | ⟨g, cap, cur, rfl, _⟩⟩ := hown'
  · exact ⟨_, _, _, w', hrun, hbb⟩
  · exact ⟨_, _, _, w', hrun, hbb⟩
theorem inf5 : ∃ i, Tryz.prog.info? 5 = some i ∧ i.zero = some (.int .u8 0) ∧ i.size = 1 ∧ i.bytes = 1 := by
  have : (Tryz.prog.info? 5).map (fun i => (i.zero, i.size, i.bytes)) = some (some (.int .u8 0), 1, 1) := by kernel_rfl
  cases h : Tryz.prog.info? 5 with
  | none => rw [h] at this; cases this
  | some i =>
    rw [h] at this
    simp only [Option.map_some, Option.some.injEq, Prod.mk.injEq] at this
    exact ⟨i, rfl, this.1, this.2.1, this.2.2⟩
theorem inf9 : ∃ i, Tryz.prog.info? 9 = some i ∧ i.zero = some (.string ⟨#[]⟩) ∧ i.size = 1 ∧ i.bytes = 16 := by
  have : (Tryz.prog.info? 9).map (fun i => (i.zero, i.size, i.bytes)) = some (some (.string ⟨#[]⟩), 1, 16) := by kernel_rfl
  cases h : Tryz.prog.info? 9 with
  | none => rw [h] at this; cases this
  | some i =>
    rw [h] at this
    simp only [Option.map_some, Option.some.injEq, Prod.mk.injEq] at this
    exact ⟨i, rfl, this.1, this.2.1, this.2.2⟩
theorem eql_nil23 (w : World) : Sem.run Tryz.prog (binOp BinOp.eql 23 (.slice none 0 0) (.slice none 0 0)) w = .ok (.bool true) w := by kernel_rfl
theorem eql_some23 (ad : Addr) (n c : Nat) (w : World) : Sem.run Tryz.prog (binOp BinOp.eql 23 (.slice (some ad) n c) (.slice none 0 0)) w = .ok (.bool false) w := by kernel_rfl
theorem eql_nil22 (w : World) : Sem.run Tryz.prog (binOp BinOp.eql 22 (.slice none 0 0) (.slice none 0 0)) w = .ok (.bool true) w := by kernel_rfl
theorem eql_some22 (ad : Addr) (n c : Nat) (w : World) : Sem.run Tryz.prog (binOp BinOp.eql 22 (.slice (some ad) n c) (.slice none 0 0)) w = .ok (.bool false) w := by kernel_rfl
/-- What a clone tells. -/
def ClR (w : World) (e : Ending) (w' : World) : Prop := (∃ o n c, e = .returned (.slice o n c)) ∧ Below w.heap.size w w'
set_option maxRecDepth 10000 in
theorem clone23 (o : Option Addr) (xs : List Value) (c : Nat) (w : World) (hx : Rt w o xs) (h1 : ∀ u ∈ xs, u.oneCell' = true) (hb : xs.length ≤ 140737488355328) (hn : o = none → xs.length = 0 ∧ c = 0) : Calls Tryz.prog 53 #[.slice o xs.length c] w (ClR w) := by
  cases o with
  | none =>
    obtain ⟨e1, rfl⟩ := hn rfl
    have HF : Hid (ClR w (.returned (.slice none 0 0)) w) := ⟨⟨_, _, _, rfl⟩, Below.refl _ _⟩
    rw [e1]
    clear hx h1 hb hn e1
    have q := eql_nil23
    go_enter Tryz.func53, Tryz.ntmps53
    go_wp2_with fail
    go_ret
    exact HF.out
  | some ad =>
    obtain ⟨i, hi, hz, hs, hby⟩ := inf5
    obtain ⟨o', n', c', X1, r1, hbb⟩ := app0 23 5 Tryz.underlying23 i hi _ 1 hz hs hby rfl ad xs c hx h1 (by omega) (by unfold maxLen; omega)
    have HF : Hid (ClR w (.returned (.slice o' n' c')) X1) := ⟨⟨_, _, _, rfl⟩, hbb⟩
    have R1 : Hid _ := r1
    clear hx h1 hb hn r1 hbb hi hz hs hby
    generalize xs.length = XL at *
    have q := eql_some23
    go_enter Tryz.func53, Tryz.ntmps53
    go_wp2_with (refine appr rfl _ _ 23 23 rfl _ _ rfl rfl R1.out (Hid.out ?_))
    refine mkHid ?_
    go_wp2_with fail
    go_ret
    exact HF.out
set_option maxRecDepth 10000 in
theorem clone22 (o : Option Addr) (xs : List Value) (c : Nat) (w : World) (hx : Rt w o xs) (h1 : ∀ u ∈ xs, u.oneCell' = true) (hb : xs.length * 16 ≤ 140737488355328) (hn : o = none → xs.length = 0 ∧ c = 0) : Calls Tryz.prog 52 #[.slice o xs.length c] w (ClR w) := by
  cases o with
  | none =>
    obtain ⟨e1, rfl⟩ := hn rfl
    have HF : Hid (ClR w (.returned (.slice none 0 0)) w) := ⟨⟨_, _, _, rfl⟩, Below.refl _ _⟩
    rw [e1]
    clear hx h1 hb hn e1
    have q := eql_nil22
    go_enter Tryz.func52, Tryz.ntmps52
    go_wp2_with fail
    go_ret
    exact HF.out
  | some ad =>
    obtain ⟨i, hi, hz, hs, hby⟩ := inf9
    obtain ⟨o', n', c', X1, r1, hbb⟩ := app0 22 9 Tryz.underlying22 i hi _ 16 hz hs hby rfl ad xs c hx h1 hb (by unfold maxLen; omega)
    have HF : Hid (ClR w (.returned (.slice o' n' c')) X1) := ⟨⟨_, _, _, rfl⟩, hbb⟩
    have R1 : Hid _ := r1
    clear hx h1 hb hn r1 hbb hi hz hs hby
    generalize xs.length = XL at *
    have q := eql_some22
    go_enter Tryz.func52, Tryz.ntmps52
    go_wp2_with (refine appr rfl _ _ 22 22 rfl _ _ rfl rfl R1.out (Hid.out ?_))
    refine mkHid ?_
    go_wp2_with fail
    go_ret
    exact HF.out
end Go.Proofs.YthdenbclfogojaaGreatDoor
