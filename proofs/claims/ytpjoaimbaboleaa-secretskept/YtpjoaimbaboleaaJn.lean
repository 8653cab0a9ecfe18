/- secrets: joined of no piece, and of one. -/
import Derived.Test.YtpjoaimbaboleaaAp
namespace Go.Proofs.Ytpjoaimbaboleaa
open Go.RowKit Go.Shelf Go.Lib
set_option linter.unusedVariables false

theorem appr {P : Program} {ops : Array Oper} {rest : List Oper} {o : Oper} {a : Act} {w : World} {Q : Exit → Act → World → Prop}
    (hg : o.guard = none) (d x : Operand) (dT sT : TypeId) (hop : o.op = Op.call { callee := Callee.builtin Builtin.append, args := #[d, x], argTypes := #[dT, sT] })
    (v u : Value) (hd : a.eval d = v) (hx : a.eval x = u) {v' : Value} {w' : World} (hr : (Builtin.append_ #[dT, sT] o.type #[v, u]).run P w = .ok v' w') (hK : wpList P ops Q rest (a.put o.dst v') w') :
    wpList P ops Q (o :: rest) a w :=
  wpList_plain hg fun K hK' => (by
    unfold Oper.wp
    simp [execOp, hop, resolve, invoke, builtin, hd, hx, hr, Result.andThen]
    exact hK' _ _ hK)
/-- Bytes appended to nothing. -/
theorem apn {X : World} {cp : Nat} {o : Option Addr} {l : List UInt8} (hS : Sl X o l) (hl : l.length ≤ 140737488351300) :
    ∃ o' c' X', (Builtin.append_ #[33, 33] 33 #[.slice none 0 0, .slice o l.length cp]).run Try.prog X = .ok (.slice o' l.length c') X' ∧ Sl X' o' l ∧ Below X.heap.size X X' := by
  obtain ⟨i, hi, hz, hs, hb⟩ := inf5
  cases o with
  | none =>
    have hl2 : l = [] := by
      cases l with
      | nil => rfl
      | cons x t => obtain ⟨b, off, e, _⟩ := hS 0 (by simp); cases e
    subst hl2
    refine ⟨none, 0, X, ?_, fun j hj => absurd hj (by simp), Below.refl _ _⟩
    exact run_append_nothing X 33 33 33 5 i Try.underlying33 hi _ 0 0 (Nat.le_refl _) _ ⟨.inl ⟨5, Try.underlying33⟩, fun _ => rfl, by simp [Builtin.firstCells], by simp [Builtin.firstCells], by simp, fun _ h => by cases h⟩
  | some a =>
    have hcell : ∀ j u, (Go.Proofs.Ytpjoaimbaboleaa.hl l)[j]? = some u → X.cell? (a.add j) = some u := by
      intro j u hu
      have hj : j < l.length := by have := (List.getElem?_eq_some_iff.1 hu).1; simpa using this
      obtain ⟨b, off, e, hc⟩ := hS j hj
      rw [Option.some.inj e, Addr.add_mid, hc, ← hu, hl_get hj]
    obtain ⟨v', w', hrun, hown', hgr, _, _⟩ := run_append_own_at (P := Try.prog) X X.heap.size 33 33 5 i (.int .u8 0) 1 1 Try.underlying33 hi hz hs hb rfl (by decide) _ _ _ (World.ownsRow_nil X X.heap.size 5 1) a l.length cp (Go.Proofs.Ytpjoaimbaboleaa.hl l) (by simp) hcell (hl_oc l) (by unfold maxLen; omega) (by omega) (Nat.le_refl _)
    simp only [List.nil_append, Nat.zero_add] at hown'
    have hbel : Below X.heap.size X w' := ⟨hgr.os, hgr.tape, hgr.output, hgr.size, fun k hk => hgr.block k hk (by simp [Value.ownBlock])⟩
    have hcopy := hown'
    obtain ⟨_, ⟨rfl, h0⟩ | ⟨g, cap, cur, rfl, k1, k2, k3, k4, k5, k6⟩⟩ := hcopy
    · have hl2 : l = [] := List.eq_nil_of_length_eq_zero h0
      subst hl2
      exact ⟨none, 0, w', hrun, fun j hj => absurd hj (by simp), hbel⟩
    · refine ⟨some ⟨g, 0, none⟩, cap, w', hrun, fun j hj => ⟨g, 0, rfl, ?_⟩, hbel⟩
      have hx := hown'.cells (g := g) rfl j (.int .u8 (l[j]'hj).toNat) (by rw [hl_get hj])
      rw [Addr.add_mid] at hx
      exact hx
/-- What joined answers. -/
def JnP (l : List UInt8) (w : World) (e : Ending) (w' : World) : Prop := ∃ o c, e = .returned (.slice o l.length c) ∧ Sl w' o l ∧ Below w.heap.size w w'
set_option maxRecDepth 100000 in
theorem joined_0 (w : World) : Calls Try.prog 56 #[.slice none 0 0] w (JnP [] w) := by
  have HF : Aside (JnP [] w (.returned (.slice none 0 0)) w) := ⟨none, 0, rfl, fun j hj => absurd hj (by simp), Below.refl _ _⟩
  go_enter Try.func56, Try.ntmps56
  go_wp2_with fail
  go_loopg [2, 7] 1 (fun kx s2 s7 wr => s2 = .slice none 0 0 ∧ s7 = .int .i64 0 ∧ wr = w)
  case atStart => exact ⟨rfl, rfl, rfl⟩
  case round =>
    obtain ⟨rfl, rfl, rfl⟩ := hrel
    go_wp2_with fail
    go_ret
    exact HF.out
set_option maxRecDepth 100000 in
theorem joined_1 (w : World) (b sc : Nat) (o : Option Addr) (l : List UInt8) (cp : Nat) (hb : w.cell? ⟨b, 0, none⟩ = some (.slice o l.length cp)) (hS : Sl w o l) (hl : l.length ≤ 140737488351300) : Calls Try.prog 56 #[.slice (some ⟨b, 0, none⟩) 1 sc] w (JnP l w) := by
  obtain ⟨o', c', X', hr, hS', hB⟩ := apn (cp := cp) hS hl
  have HF : Aside (JnP l w (.returned (.slice o' l.length c')) X') := ⟨o', c', rfl, hS', hB⟩
  have HR : Aside _ := hr
  clear hS hS' hB hr hl
  generalize l.length = NL at *
  go_enter Try.func56, Try.ntmps56
  go_wp2_with fail
  go_loopg [2, 7] 2 (fun kx s2 s7 wr => (s2 = .slice none 0 0 ∧ s7 = .int .i64 0 ∧ wr = w ∧ 1 ≤ kx) ∨ (s2 = .slice o' NL c' ∧ s7 = .int .i64 1 ∧ wr = X'))
  case atStart => exact .inl ⟨rfl, rfl, rfl, by omega⟩
  case round =>
    rcases hrel with ⟨rfl, rfl, rfl, hk⟩ | ⟨rfl, rfl, rfl⟩
    · go_wp2_with (refine appr rfl _ _ 33 33 rfl _ _ rfl rfl HR.out ?_)
      go_roundg 0
      case measure => omega
      case rel => exact .inr ⟨rfl, rfl, rfl⟩
    · go_wp2_with fail
      go_ret
      exact HF.out
end Go.Proofs.Ytpjoaimbaboleaa
