/- The reference's Read: a handle stored, the message loaded, may. The reference's Read: what is read, a kind each. The reference's Read: a slice of one's own in the message. The reference's Read: how long what was read is; four bytes; one text in a row of its own. The reference's Read: one text more among the protos. The reference's Read: a Client, in lists. -/
import Derived.Test.YtcchlicokglmnaaQh
import Derived.Test.YtcchlicokglmnaaDp
namespace Go.Proofs.Ytcchlicokglmnaa
open Go.ChangeShapes Go.WideShapes Go.ChangeAt Go.RowKit Go.Lib
set_option linter.unusedVariables false

theorem setRow_self' {w : World} {g t : Nat} {cs : Array Value} {fr : Nat × Nat} (h : w.heap[g]? = some (.cells cs t fr)) : w.setRow g cs = w := by
  obtain ⟨hlt, hv⟩ := Array.getElem?_eq_some_iff.1 h
  unfold World.setRow
  have : w.heap.modify g (fun x => match x with | .cells _ t fr => .cells cs t fr | o => o) = w.heap := by
    apply Array.ext
    · simp
    · intro i h1 h2
      rw [Array.getElem_modify]
      split
      · rename_i e; subst e; rw [hv]
      · rfl
  exact congrArg (fun hp => { w with heap := hp }) this
theorem setRow_setRow {w : World} {g t : Nat} {cs : Array Value} {fr : Nat × Nat} (h : w.heap[g]? = some (.cells cs t fr)) (A B : Array Value) : (w.setRow g A).setRow g B = w.setRow g B := by
  obtain ⟨hlt, hv⟩ := Array.getElem?_eq_some_iff.1 h
  unfold World.setRow
  congr 1
  apply Array.ext
  · simp
  · intro i h1 h2
    simp only [Array.getElem_modify]
    split
    · rename_i e; subst e; simp only [hv]
    · rfl
theorem setCells_row {g t : Nat} {fr : Nat × Nat} : ∀ (vs : List Value) (o : Nat) (w : World) (X : List Value), w.heap[g]? = some (.cells X.toArray t fr) → o + vs.length ≤ X.length → w.setCells g o vs = w.setRow g (X.take o ++ vs ++ X.drop (o + vs.length)).toArray
  | [], o, w, X, h, hl => by
    have : X.take o ++ [] ++ X.drop (o + ([] : List Value).length) = X := by simp
    rw [this, setRow_self' h]
    rfl
  | v :: vs, o, w, X, h, hl => by
    simp only [List.length_cons] at hl
    have h1 : (w.setCell ⟨g, o, none⟩ v) = w.setRow g (X.set o v).toArray := by
      rw [setCell_eq_setRow w g o _ t fr v h]
      congr 1
      simp
    have h2 : (w.setRow g (X.set o v).toArray).heap[g]? = some (.cells (X.set o v).toArray t fr) := setRow_heap w g _ _ t fr h
    have ih := setCells_row vs (o + 1) (w.setRow g (X.set o v).toArray) (X.set o v) h2 (by simp; omega)
    show (w.setCell ⟨g, o, none⟩ v).setCells g (o + 1) vs = _
    rw [h1, ih, setRow_setRow h]
    congr 2
    rw [List.length_cons, show o + (vs.length + 1) = o + 1 + vs.length by omega]
    have e1 : (X.set o v).take (o + 1) = X.take o ++ [v] := by
      rw [List.take_succ_eq_append_getElem (by simp; omega), List.take_set_of_le (Nat.le_refl _)]
      simp
    have e2 : (X.set o v).drop (o + 1 + vs.length) = X.drop (o + 1 + vs.length) := by
      rw [List.drop_set_of_lt (by omega)]
    rw [e1, e2]
    simp
theorem there_row {w : World} {g t o n : Nat} {X : List Value} (h : w.heap[g]? = some (.cells X.toArray t (0, 0))) (hl : o + n ≤ X.length) : w.there g o n := by
  intro j hj
  constructor
  · unfold World.cell?
    simp only [h]
    simp; omega
  · simp [World.frozen?, h]
section
variable {w X X' : World} {p M : Nat} {o : Option Addr} {B : List UInt8} {c : Nat} {s s' : Sd} {m : Msg}
theorem Qm.hand (h : Qm w X p M o B c s m) (J : Nat) (T : List UInt8) (hT : T.length = 16) (hJ : J + 16 ≤ 72) : X.there M J (bc T).toArray.size ∧ X.setCells M J (bc T).toArray.toList = X.setRow M (wrC m.cells.toArray J T) := by
  have hl := cells_len h.ln
  have hb : (bc T).length = 16 := by rw [bc_length, hT]
  refine ⟨there_row h.row (by simp only [List.size_toArray]; omega), ?_⟩
  have := setCells_row (bc T) J X m.cells h.row (by omega)
  exact this
theorem ldg34 {ops : Array Oper} {rest : List Oper} {o : Oper} {a : Act} {w : World} {Q : Exit → Act → World → Prop} (hw : Region.wanted o (yielded ops a.tmps) = true) (x : Operand) (ho : o.op = .load 34 x) (g : Nat) (hx : a.eval x = .pointer (some ⟨g, 0, none⟩)) (cs : Array Value) (hc : w.heap[g]? = some (.cells cs 34 (0, 0))) (hi : cs.size = 72)
    (h : wpList Try.prog ops Q rest (a.put o.dst (.agg cs)) w) : wpList Try.prog ops Q (o :: rest) a w :=
  wpList_step fun K hK => by
    simp only [hw, if_true]
    exact wp_load_row 34 x ho g hx 34 cs (0, 0) _ hc ru34 rfl (ri34.trans (by rw [hi])) (hK _ _ h)
theorem Qm.ok (h : Qm w X p M o B c s m) (h1 : m.name.size ≤ 9223372036854775807) (h2 : m.protos.length ≤ 9223372036854775807) (h3 : ∀ S ∈ m.protos, S.size ≤ 9223372036854775807) (h4 : m.params.length ≤ 9223372036854775807) (h5 : m.ticket.length ≤ 9223372036854775807) : m.ok X :=
  ⟨h.ln, own_nms h.nm, (By.sl h.pa).1, (By.sl h.ti).1, (By.sl h.pa).2, (By.sl h.ti).2, h1, h2, h3, h4, h5⟩
/-- may, of any kind. -/
theorem may_any (m : Msg) (X : World) (hok : m.ok X) (h63 : m.protos.length ≤ 9223372036854775806) : Calls Try.prog 20 #[.agg m.cells.toArray] X fun e w' => e = .returned (.bool (mayB m)) ∧ Below X.heap.size X w' := by
  by_cases h1 : m.kind = 1
  · exact may_1 m X hok h63 h1
  by_cases h4 : m.kind = 4
  · exact may_4 m X hok h63 h4
  by_cases h8 : m.kind = 8
  · exact may_8 m X hok h63 h8
  by_cases h11 : m.kind = 11
  · exact may_11 m X hok h63 h11
  exact may_0 m X hok h63 h1 h4 h8 h11
theorem rr_15 : rr 15 B s = ((rT B 16 s).1, { m0 15 with mark := (rT B 16 s).2 }) := by simp [rr]
theorem rr_20 : rr 20 B s = ((rT B 16 s).1, { m0 20 with mark := (rT B 16 s).2 }) := by simp [rr]
end
end Go.Proofs.Ytcchlicokglmnaa
namespace Go.Proofs.Ytcchlicokglmnaa
open Go.ChangeShapes Go.WideShapes Go.ChangeAt Go.RowKit Go.Lib
set_option linter.unusedVariables false

section
variable {B : List UInt8} {s : Sd}
theorem rr_11 : rr 11 B s = ((rT B 16 (rS B s).1).1, { m0 11 with name := (rS B s).2, mark := (rT B 16 (rS B s).1).2 }) := by simp [rr]
theorem rr_2 : rr 2 B s = ((rF B 1 (rT B 16 (rT B 16 s).1).1).1, { m0 2 with random := (rT B 16 s).2, share := (rT B 16 (rT B 16 s).1).2, again := decide ((rF B 1 (rT B 16 (rT B 16 s).1).1).2.toNat = 1) }) := by simp [rr]
theorem rS_any : (rS B s).2.size ≤ 255 := by
  by_cases h : (rS B s).1.1 = false
  · exact rS_255 h
  · have h' : (rS B s).1.1 = true := by simpa using h
    have : (rS B s).2 = ⟨#[]⟩ := by unfold rS at h' ⊢; simp only at h' ⊢; rw [if_pos h']
    rw [this]
    decide
theorem eqD (N : Nat) : ((N : Int) == 1) = decide (N = 1) ∧ decide ((N : Int) = 1) = decide (N = 1) := by
  by_cases h : N = 1
  · subst h; simp
  · have : ¬ (N : Int) = 1 := by omega
    simp [h, this]
end
end Go.Proofs.Ytcchlicokglmnaa
namespace Go.Proofs.Ytcchlicokglmnaa
open Go.ChangeShapes Go.WideShapes Go.ChangeAt Go.RowKit Go.Lib
set_option linter.unusedVariables false

section
variable {w X X' : World} {p M : Nat} {o : Option Addr} {B : List UInt8} {c : Nat} {s s' : Sd} {m : Msg}
/-- New blocks turn nothing. -/
theorem Qm.grow (h : Qm w X p M o B c s m) (hb : Below X.heap.size X X') : Qm w X' p M o B c s m :=
  ⟨h.rq.bel hb, (hb.block M (lt_block h.row)).trans h.row, h.ln, own9 h.nm (fun k cs hk => hb.block k (lt_block hk)), By.blk h.pa (fun k cs hk => hb.block k (lt_block hk)), By.blk h.ti (fun k cs hk => hb.block k (lt_block hk)), h.bel.trans (hb.mono h.bel.size), h.hp, h.hM, h.old⟩
/-- The message's row is another one, with slices of its own. -/
theorem Qm.turn2 (h : Qm w X p M o B c s m) (A : Array Value) (n : Msg) (hA : A = n.cells.toArray) (ln : n.len) (nm : X.ownsRow w.heap.size 9 1 (.slice n.po n.protos.length n.pc) n.protos.length (n.protos.map .string)) (pa : By w.heap.size X (.slice n.ao n.params.length n.ac) n.params) (ti : By w.heap.size X (.slice n.to n.ticket.length n.tc) n.ticket) : Qm w (X.setRow M A) p M o B c s n := by
  have ne : ∀ k ob, X.heap[k]? = some ob → (∀ cs, ob ≠ .cells cs 34 (0, 0)) → k ≠ M := by
    rintro k ob hk hne rfl
    exact hne _ (by have := hk.symm.trans h.row; simpa using this)
  have hG : Gs (fun k => k = M) X (X.setRow M A) := ⟨rfl, rfl, rfl, by simp [World.setRow], fun k _ hn => setRow_other _ _ _ _ hn⟩
  have kk : ∀ k, k ≠ M → (X.setRow M A).heap[k]? = X.heap[k]? := fun k hk => setRow_other _ _ _ _ hk
  refine ⟨⟨(kk p (fun e => h.pM e.symm)).trans h.rq.row, hG.sl h.rq.sl (fun a ha hL => by have := h.old a ha hL; have := h.hM; omega), h.rq.le, h.rq.cap, h.rq.big, h.rq.few, h.rq.ap, h.rq.nil⟩, ?_, ln, ?_, ?_, ?_, ?_, h.hp, h.hM, h.old⟩
  · rw [← hA]; exact setRow_heap X M _ A 34 (0, 0) h.row
  · exact own9 nm (fun k cs hk => kk k (ne k _ hk (by simp)))
  · exact By.blk pa (fun k cs hk => kk k (ne k _ hk (by simp)))
  · exact By.blk ti (fun k cs hk => kk k (ne k _ hk (by simp)))
  · exact ⟨h.bel.os, h.bel.tape, h.bel.output, Nat.le_trans h.bel.size hG.size, fun k hk => (kk k (by have := h.hM; omega)).trans (h.bel.block k hk)⟩
/-- Params read, in a row of its own. -/
theorem Qm.setA (h : Qm w X p M o B c s m) {b : Nat} (hb : w.heap.size ≤ b) (o' : Option Addr) (T : List UInt8) (c' : Nat) (hT : By b X (.slice o' T.length c') T) : Qm w (X.setCell ⟨M, 35, none⟩ (.slice o' T.length c')) p M o B c s { m with ao := o', params := T, ac := c' } := by
  rw [setCell_eq_setRow X M 35 _ 34 (0, 0) _ h.row]
  exact h.turn2 _ _ (Msg.params' h.ln o' T c') ⟨h.ln.r, h.ln.s, h.ln.b, h.ln.k⟩ h.nm (By.less2 hT hb) h.ti
/-- A ticket read, in a row of its own. -/
theorem Qm.setT (h : Qm w X p M o B c s m) {b : Nat} (hb : w.heap.size ≤ b) (o' : Option Addr) (T : List UInt8) (c' : Nat) (hT : By b X (.slice o' T.length c') T) : Qm w (X.setCell ⟨M, 36, none⟩ (.slice o' T.length c')) p M o B c s { m with to := o', ticket := T, tc := c' } := by
  rw [setCell_eq_setRow X M 36 _ 34 (0, 0) _ h.row]
  exact h.turn2 _ _ (Msg.ticket' h.ln o' T c') ⟨h.ln.r, h.ln.s, h.ln.b, h.ln.k⟩ h.nm h.pa (By.less2 hT hb)
/-- Texts, in a row of their own. -/
theorem Qm.setN (h : Qm w X p M o B c s m) (o' : Option Addr) (N : List ByteArray) (c' : Nat) (hN : X.ownsRow w.heap.size 9 1 (.slice o' N.length c') N.length (N.map .string)) : Qm w (X.setCell ⟨M, 34, none⟩ (.slice o' N.length c')) p M o B c s { m with po := o', protos := N, pc := c' } := by
  rw [setCell_eq_setRow X M 34 _ 34 (0, 0) _ h.row]
  exact h.turn2 _ _ (Msg.protos' h.ln o' N c') ⟨h.ln.r, h.ln.s, h.ln.b, h.ln.k⟩ hN h.pa h.ti
theorem rr_8 : rr 8 B s = ((rF B 1 (rL B (rS B s).1).1).1, { m0 8 with protos := [(rS B s).2], params := (rL B (rS B s).1).2, early := decide ((rF B 1 (rL B (rS B s).1).1).2.toNat = 1) }) := by simp [rr]
theorem rr_4 : rr 4 B s = ((rF B 1 (rL B (rT B 4 s).1).1).1, { m0 4 with life := (num (rT B 4 s).2 : Int), ticket := (rL B (rT B 4 s).1).2, early := decide ((rF B 1 (rL B (rT B 4 s).1).1).2.toNat = 1) }) := by simp [rr]
end
end Go.Proofs.Ytcchlicokglmnaa
namespace Go.Proofs.Ytcchlicokglmnaa
open Go.ChangeShapes Go.WideShapes Go.ChangeAt Go.RowKit Go.Lib
set_option linter.unusedVariables false

section
variable {w X X' : World} {p M : Nat} {o : Option Addr} {B : List UInt8} {c : Nat} {s s' : Sd} {m : Msg}
theorem rT_in {n : Nat} (h : s.2 ≤ B.length) : (rT B n s).1.2 ≤ B.length := by
  unfold rT
  split
  · exact h
  · rename_i hh
    simp only [not_or] at hh
    show s.2 + n ≤ B.length
    omega
theorem rL_any (h : s.2 ≤ B.length) : (rL B s).2.length ≤ 65535 := by
  unfold rL
  rw [rT_len _ (rT_in h)]
  unfold rLn
  have h1 := ((rT B 2 s).2.headD 0).toNat_lt
  have h2 := (((rT B 2 s).2.drop 1).headD 0).toNat_lt
  omega
theorem four_at {b k : Nat} {T : List UInt8} (h : By b X (.slice o 4 k) T) (hT : T.length = 4) : ∃ (g : Nat) (N0 N1 N2 N3 : Nat) (cur : Array Value), o = some ⟨g, 0, none⟩ ∧ X.heap[g]? = some (.cells cur 5 (0, 0)) ∧
    X.cell? ⟨g, 0, none⟩ = some (.int .u8 (N0 : Int)) ∧ X.cell? ⟨g, 1, none⟩ = some (.int .u8 (N1 : Int)) ∧ X.cell? ⟨g, 2, none⟩ = some (.int .u8 (N2 : Int)) ∧ X.cell? ⟨g, 3, none⟩ = some (.int .u8 (N3 : Int)) ∧
    N0 < 256 ∧ N1 < 256 ∧ N2 < 256 ∧ N3 < 256 ∧ num T = N0 * 16777216 + N1 * 65536 + N2 * 256 + N3 := by
  obtain ⟨g, rfl, q0⟩ := By.at h 0 (by omega)
  obtain ⟨g1, e1, q1⟩ := By.at h 1 (by omega)
  obtain ⟨g2, e2, q2⟩ := By.at h 2 (by omega)
  obtain ⟨g3, e3, q3⟩ := By.at h 3 (by omega)
  cases e1
  cases e2
  cases e3
  obtain ⟨_, ⟨_, hv⟩ | ⟨g', cap, cur, he, k1, k2, k3⟩⟩ := h
  · omega
  · simp only [Value.slice.injEq, Option.some.injEq, Addr.mk.injEq] at he
    obtain ⟨⟨rfl, _⟩, _⟩ := he
    refine ⟨g, T[0].toNat, T[1].toNat, T[2].toNat, T[3].toNat, cur, rfl, k2, q0, q1, q2, q3, T[0].toNat_lt, T[1].toNat_lt, T[2].toNat_lt, T[3].toNat_lt, ?_⟩
    match T, hT with
    | [a, b, d, e], _ => simp [num]; omega
theorem Qm.apart (h : Qm w X p M o B c s m) {g : Nat} {cur : Array Value} {t : Nat} (hg : X.heap[g]? = some (.cells cur t (0, 0))) (ht : t ≠ 34) : g ≠ M := by
  rintro rfl
  have := hg.symm.trans h.row
  simp at this
  exact ht this.2
theorem cell_set_other {g j i : Nat} {v x : Value} (h : X.cell? ⟨g, j, none⟩ = some x) (hne : g ≠ M) : (X.setCell ⟨M, i, none⟩ v).cell? ⟨g, j, none⟩ = some x := by
  rw [← h]
  unfold World.cell?
  rw [Below.heap_setCell _ _ _ _ hne]
/-- One text in a row of its own. -/
theorem one_own {b : Nat} (S : ByteArray) (hb : b ≤ X.heap.size) : (X.alloc (.cells #[.string S] 9)).ownsRow b 9 1 (.slice (some ⟨X.heap.size, 0, none⟩) [S].length 1) [S].length ([S].map .string) :=
  ⟨rfl, .inr ⟨X.heap.size, 1, #[.string S], rfl, hb, heap_alloc_new _ _, Nat.le_refl _, by unfold maxLen; omega, rfl, rfl⟩⟩
end
end Go.Proofs.Ytcchlicokglmnaa
namespace Go.Proofs.Ytcchlicokglmnaa
open Go.ChangeShapes Go.WideShapes Go.ChangeAt Go.RowKit Go.Lib
set_option linter.unusedVariables false

theorem not_own {X : World} {b n k t : Nat} {v : Value} {xs : List Value} {cs : Array Value} (h : X.ownsRow b 9 1 v n xs) (hk : X.heap[k]? = some (.cells cs t (0, 0))) (ht : t ≠ 9) : ¬ some k = v.ownBlock := by
  obtain ⟨hl, ⟨hv, hn⟩ | ⟨g, cap, cur, he, k1, k2, _⟩⟩ := h
  · subst hv; intro h; cases h
  · subst he
    intro h
    simp only [Value.ownBlock, Option.some.injEq] at h
    subst h
    have := hk.symm.trans k2
    simp at this
    exact ht this.2
section
variable {w W X' : World} {p M : Nat} {o : Option Addr} {B : List UInt8} {c : Nat} {s s' : Sd} {m : Msg}
theorem Qm.step (h : Qm w W p M o B c s m) (S : ByteArray) (hn : m.protos.length ≤ 1000) : ∃ o' c' X3, (Builtin.append_ #[24, 24] 24 #[.slice m.po m.protos.length m.pc, .slice (some ⟨W.heap.size, 0, none⟩) 1 1]).run Try.prog (W.alloc (.cells #[.string S] 9)) = .ok (.slice o' (m.protos.length + 1) c') X3 ∧ (∃ x, X3.cell? ⟨M, 34, none⟩ = some x) ∧ X3.frozen? ⟨M, 34, none⟩ = false ∧
    Qm w (X3.setCell ⟨M, 34, none⟩ (.slice o' (m.protos.length + 1) c')) p M o B c s { m with po := o', protos := m.protos ++ [S], pc := c' } := by
  have hA : Qm w (W.alloc (.cells #[.string S] 9)) p M o B c s m := h.grow (bl1 W _)
  have hc1 := cell_one_new W (.string S) 9
  have hsz := hA.bel.size
  have hwz : (W.alloc (.cells #[.string S] 9)).heap.size = W.heap.size + 1 := by simp
  obtain ⟨i0, hi, hz0, hz1, hz2⟩ := info_parts info9
  obtain ⟨v', X3, hrun, ho, hg, _, _⟩ := run_append_own_at (P := Try.prog) (W.alloc (.cells #[.string S] 9)) w.heap.size 24 24 9 i0 (.string ⟨#[]⟩) 1 16 Try.underlying24 hi hz0 hz1 hz2 rfl (by decide) _ m.protos.length _ hA.nm ⟨W.heap.size, 0, none⟩ 1 1 [.string S] rfl hc1 (by simp [Value.oneCell']) (by unfold maxLen; omega) (by omega) hsz
  generalize W.alloc (.cells #[.string S] 9) = A at *
  obtain ⟨o', c', rfl, _⟩ := own_shape ho
  obtain ⟨_, _, _, hvB⟩ := own_shape hA.nm
  have kk : ∀ (k : Nat) (cs : Array Value) (t : Nat), t ≠ 9 → A.heap[k]? = some (.cells cs t (0, 0)) → X3.heap[k]? = some (.cells cs t (0, 0)) := fun k cs t ht hk => (hg.block k (lt_block hk) (not_own hA.nm hk ht)).trans hk
  have low : ∀ k, k < w.heap.size → X3.heap[k]? = A.heap[k]? := fun k hk => hg.block k (by omega) (fun hh => by have := hvB k hh; omega)
  have hM3 := kk M _ 34 (by decide) hA.row
  have hset : ∀ (k : Nat) (x : Value), k ≠ M → (X3.setCell ⟨M, 34, none⟩ x).heap[k]? = X3.heap[k]? := fun k x hk => Below.heap_setCell _ _ _ _ hk
  have hlen := cells_len hA.ln
  have e1 : (m.protos ++ [S]).length = m.protos.length + 1 := by simp
  have ne5 : ∀ (g : Nat) (cs : Array Value), A.heap[g]? = some (.cells cs 5 (0, 0)) → g ≠ M := fun g cs hg' => hA.apart hg' (by decide)
  refine ⟨o', c', X3, hrun, ⟨m.cells[34]'(by omega), ?_⟩, by unfold World.frozen?; rw [hM3]; simp, ?_⟩
  · unfold World.cell?
    simp only [hM3]
    simp [hlen]
  · refine ⟨⟨(hset p _ (fun e => hA.pM e.symm)).trans (kk p _ 69 (by decide) hA.rq.row), ?_, hA.rq.le, hA.rq.cap, hA.rq.big, hA.rq.few, hA.rq.ap, hA.rq.nil⟩, ?_, ⟨hA.ln.r, hA.ln.s, hA.ln.b, hA.ln.k⟩, ?_, ?_, ?_, ?_, hA.hp, hA.hM, hA.old⟩
    · intro i hi'
      obtain ⟨b, off, e, hc⟩ := hA.rq.sl i hi'
      have hl : B ≠ [] := by rintro rfl; simp at hi'
      have hb := hA.old _ e hl
      have hMw := hA.hM
      refine ⟨b, off, e, ?_⟩
      rw [← hc]
      exact World.cell?_of_block (a := ⟨b, off + i, none⟩) ((hset b _ (by show b ≠ M; have : b < w.heap.size := hb; omega)).trans (low b hb))
    · have e := Msg.protos' hA.ln o' (m.protos ++ [S]) c'
      rw [e1] at e
      rw [heap_setCell_same X3 M 34 _ 34 _ hM3, e]
    · show (X3.setCell _ _).ownsRow w.heap.size 9 1 (.slice o' (m.protos ++ [S]).length c') (m.protos ++ [S]).length ((m.protos ++ [S]).map .string)
      rw [e1, List.map_append]
      refine own9 ho (fun g cs hg' => hset g _ ?_)
      rintro rfl
      have := hg'.symm.trans hM3
      simp at this
    · exact By.blk hA.pa (fun g cs hg' => (hset g _ (ne5 g cs hg')).trans ((kk g cs 5 (by decide) hg').trans hg'.symm))
    · exact By.blk hA.ti (fun g cs hg' => (hset g _ (ne5 g cs hg')).trans ((kk g cs 5 (by decide) hg').trans hg'.symm))
    · have hMw := hA.hM
      exact ⟨hg.os.trans hA.bel.os, hg.tape.trans hA.bel.tape, hg.output.trans hA.bel.output, Nat.le_trans hA.bel.size (Nat.le_trans hg.size (by simp)), fun k hk => ((hset k _ (by omega)).trans (low k hk)).trans (hA.bel.block k hk)⟩
end
end Go.Proofs.Ytcchlicokglmnaa
namespace Go.Proofs.Ytcchlicokglmnaa
open Go.ChangeShapes Go.WideShapes Go.ChangeAt Go.RowKit Go.Lib
set_option linter.unusedVariables false

theorem wa4 {A n la ll : Nat} (h : A + la = ll ∧ 4 + n ≤ la ∧ la ≤ 9223372036854000000 ∧ ll ≤ 9223372036854000000) : IntKind.i64.wrap ((A : Int) + 4) = (A : Int) + 4 ∧ wrap64 ((A : Int) + 4) = (A : Int) + 4 ∧ IntKind.i64.wrap ((A : Int) + 4 + (n : Int)) = (A : Int) + 4 + (n : Int) ∧ wrap64 ((A : Int) + 4 + (n : Int)) = (A : Int) + 4 + (n : Int) := by
  refine ⟨?_, ?_, ?_, ?_⟩
  · rw [IntKind.wrap_i64]; omega
  · unfold wrap64; omega
  · rw [IntKind.wrap_i64]; omega
  · unfold wrap64; omega
section
variable {w X : World} {p M : Nat} {o : Option Addr} {B : List UInt8} {c : Nat} {s s4 : Sd} {m : Msg} {ns : List ByteArray}
theorem Qm.c34 (h : Qm w X p M o B c s m) : X.cell? ⟨M, 34, none⟩ = some (.slice m.po m.protos.length m.pc) := by
  have e := Msg.protos' h.ln m.po m.protos m.pc
  have hl := cells_len h.ln
  have h1 : m.cells.toArray[34]? = some (.slice m.po m.protos.length m.pc) := by
    have h2 : (m.cells.toArray.setIfInBounds 34 (.slice m.po m.protos.length m.pc))[34]? = some (.slice m.po m.protos.length m.pc) := by simp [hl]
    rw [e] at h2
    exact h2
  unfold World.cell?
  simp only [h.row]
  simpa using h1
theorem Qm.c36 (h : Qm w X p M o B c s m) : X.cell? ⟨M, 36, none⟩ = some (.slice m.to m.ticket.length m.tc) := by
  have e := Msg.ticket' h.ln m.to m.ticket m.tc
  have hl := cells_len h.ln
  have h1 : m.cells.toArray[36]? = some (.slice m.to m.ticket.length m.tc) := by
    have h2 : (m.cells.toArray.setIfInBounds 36 (.slice m.to m.ticket.length m.tc))[36]? = some (.slice m.to m.ticket.length m.tc) := by simp [hl]
    rw [e] at h2
    exact h2
  unfold World.cell?
  simp only [h.row]
  simpa using h1
theorem rPs_next {n : Nat} {s1 : Sd} (hb : s1.1 = false) : rPs B (n + 1) s1 ns = rPs B n (rS B s1).1 (ns ++ [(rS B s1).2]) := by
  show (if s1.1 = true then (s1, ns) else rPs B n (rS B s1).1 (ns ++ [(rS B s1).2])) = _
  rw [if_neg (by rw [hb]; decide)]
theorem rr1_even (h4 : rk4 B s = (s4, ns)) (h6 : ¬ (rF B 3 (rL B s4).1).2.toNat % 2 = 1) : rr 1 B s = ((rF B 3 (rL B s4).1).1, { m0 1 with random := (rT B 16 s).2, share := (rk1 B s).2, name := (rk2 B s).2, protos := ns, params := (rL B s4).2, early := decide (2 ≤ (rF B 3 (rL B s4).1).2.toNat) }) := by
  have e5 : rk5 B s = rL B s4 := by unfold rk5; rw [h4]
  have e6 : rk6 B s = rF B 3 (rL B s4).1 := by unfold rk6; rw [e5]
  unfold rr
  rw [if_pos rfl, e6, if_neg h6]
  unfold rm6
  rw [h4, e5, e6]
theorem rr1_odd (h4 : rk4 B s = (s4, ns)) (h6 : (rF B 3 (rL B s4).1).2.toNat % 2 = 1) : rr 1 B s = (((rT B 16 (rL B (rF B 3 (rL B s4).1).1).1).1.1 || decide ((rL B (rF B 3 (rL B s4).1).1).2.length = 0), (rT B 16 (rL B (rF B 3 (rL B s4).1).1).1).1.2), { m0 1 with random := (rT B 16 s).2, share := (rk1 B s).2, name := (rk2 B s).2, protos := ns, params := (rL B s4).2, early := decide (2 ≤ (rF B 3 (rL B s4).1).2.toNat), ticket := (rL B (rF B 3 (rL B s4).1).1).2, binder := (rT B 16 (rL B (rF B 3 (rL B s4).1).1).1).2 }) := by
  have e5 : rk5 B s = rL B s4 := by unfold rk5; rw [h4]
  have e6 : rk6 B s = rF B 3 (rL B s4).1 := by unfold rk6; rw [e5]
  have e7 : rk7 B s = rL B (rF B 3 (rL B s4).1).1 := by unfold rk7; rw [e6]
  have e8 : rk8 B s = rT B 16 (rL B (rF B 3 (rL B s4).1).1).1 := by unfold rk8; rw [e7]
  unfold rr
  rw [if_pos rfl, e6, if_pos h6, e7, e8]
  unfold rm6
  rw [h4, e5, e6]
end
end Go.Proofs.Ytcchlicokglmnaa
