/- The ledger's map of packets on their way, against the list of those that were sent, with a mark at each that is on its way. -/
import Derived.Test.YtkjcapmhjhnckaaRw
import Derived.Maps.Own
import Derived.Maps.OwnOps
import Derived.Maps.OwnSet
import Derived.Maps.Views
namespace Go.Proofs.Ytkjcapmhjhnckaa
open Go.RowKit Go.Maps
set_option linter.unusedVariables false
set_option maxRecDepth 100000

/-- A packet. -/
structure Pk where
  n : Int
  a : Int
  s : Int
  e : Bool
def Pk.cs (p : Pk) : List Value := [.int .i64 p.n, .int .i64 p.a, .int .i64 p.s, .bool p.e]
abbrev Pk.v (p : Pk) : Value := .agg #[.int .i64 p.n, .int .i64 p.a, .int .i64 p.s, .bool p.e]
abbrev pk0 : Value := .agg #[.int .i64 0, .int .i64 0, .int .i64 0, .bool false]
/-- A packet that may be sent. -/
structure Pk.ok (p : Pk) : Prop where
  n0 : 0 ≤ p.n
  n1 : p.n ≤ 4611686018427387903
  a0 : 0 ≤ p.a
  a1 : p.a ≤ 1125899906842624
  s0 : 1 ≤ p.s
  s1 : p.s ≤ 65535
theorem Pk.ok.wf {p : Pk} (h : p.ok) : (Lit.int .i64 p.n).wf = true := by
  obtain ⟨h0, h1, _⟩ := h
  simp only [Lit.wf, IntKind.min, IntKind.max, IntKind.signed, IntKind.bits, Bool.and_eq_true, decide_eq_true_eq, if_true]
  omega
theorem zero29 (w : World) : (zeroValue 29).run Try.prog w = .ok pk0 w := by kernel_rfl
theorem law3 : Keyed Try.prog 3 := int_keyed Try.underlying3
abbrev Hv : Value → Option (DataW Value × List MemPlace) := fun v => some (.held v, [])
/-- The marks of those that q takes are off. -/
def un (q : Pk → Bool) (O : List (Pk × Bool)) : List (Pk × Bool) := O.map fun x => (x.1, x.2 && !q x.1)
/-- Block mb is the map of those of O that have a mark. -/
def Mp (W : World) (mb n : Nat) (O : List (Pk × Bool)) : Prop :=
  ∃ D : DataW Value, W.ownsMap Try.prog 3 Hv mb n D ∧ ∀ x ∈ O, has D (.int .i64 x.1.n) = x.2 ∧ (x.2 = true → ∀ z, D.atKey (.int .i64 x.1.n) z = .held x.1.v)
section
variable {W W' : World} {mb n : Nat} {O O' : List (Pk × Bool)}
theorem Mp.lt (h : Mp W mb n O) : mb < W.heap.size := by
  obtain ⟨D, h, _⟩ := h
  exact h.lt
theorem Mp.isMap (h : Mp W mb n O) : ∃ es clock, W.heap[mb]? = some (.map es clock) := by
  obtain ⟨D, ⟨es, clock, h1, _⟩, _⟩ := h
  exact ⟨es, clock, h1⟩
theorem Mp.kept (h : Mp W mb n O) (hb : W'.heap[mb]? = W.heap[mb]?) : Mp W' mb n O := by
  obtain ⟨D, ⟨es, clock, h1, h2, h3, h4⟩, hat⟩ := h
  exact ⟨D, ⟨es, clock, hb.trans h1, h2, h3, h4⟩, hat⟩
theorem Mp.mono (h : Mp W mb n O) {m : Nat} (hm : n ≤ m) : Mp W mb m O := by
  obtain ⟨D, h, hat⟩ := h
  exact ⟨D, h.mono hm, hat⟩
theorem Mp.sub (h : Mp W mb n O) (hs : ∀ x ∈ O', x ∈ O) : Mp W mb n O' := by
  obtain ⟨D, h, hat⟩ := h
  exact ⟨D, h, fun x hx => hat x (hs x hx)⟩
theorem Mp.made (W : World) : Mp (W.alloc (.map #[] 0)) W.heap.size 0 [] :=
  ⟨.map [], World.ownsMap_made W Try.prog 3 Hv, fun x hx => by cases hx⟩
/-- p, ok := m[number] -/
theorem Mp.look (h : Mp W mb n O) {x : Pk × Bool} (hx : x ∈ O) (hp : x.1.ok) :
    (Instr.lookup 61 (.map (some mb)) (.int .i64 x.1.n) true).run Try.prog W = .ok (.tuple #[if x.2 = true then x.1.v else pk0, .bool x.2]) W := by
  obtain ⟨D, hD, hat⟩ := h
  obtain ⟨h1, h2⟩ := hat x hx
  obtain ⟨v, ps, hrun, hv⟩ := hD.look_ok law3 Try.underlying61 (zero29 W) (zd := .held pk0) (zp := []) rfl (keyOf_int_mk Try.underlying3 hp.wf)
  rw [h1] at hrun
  rw [hrun]
  simp only [Hv, Option.some.injEq, Prod.mk.injEq] at hv
  cases e : x.2 with
  | true =>
    rw [h2 e] at hv
    have hv1 := hv.1
    injection hv1 with hv1
    rw [hv1]
    rfl
  | false =>
    rw [atKey_of_not_has (h1.trans e)] at hv
    have hv1 := hv.1
    injection hv1 with hv1
    rw [hv1]
    rfl
theorem Mp.look1 (h : Mp W mb n O) {p : Pk} (hx : (p, true) ∈ O) (hp : p.ok) :
    (Instr.lookup 61 (.map (some mb)) (.int .i64 p.n) false).run Try.prog W = .ok p.v W := by
  obtain ⟨D, hD, hat⟩ := h
  obtain ⟨h1, h2⟩ := hat _ hx
  obtain ⟨v, ps, hrun, hv⟩ := hD.lookup law3 Try.underlying61 (zero29 W) (zd := .held pk0) (zp := []) rfl (keyOf_int_mk Try.underlying3 hp.wf)
  rw [hrun]
  simp only [Hv, Option.some.injEq, Prod.mk.injEq] at hv
  rw [h2 rfl] at hv
  have hv1 := hv.1
  injection hv1 with hv1
  rw [hv1]
/-- m[number] = p, of a number that is new. -/
theorem Mp.put (h : Mp W mb n O) {p : Pk} (hp : p.ok) (hn : n < 9000000000000000000) (hne : ∀ x ∈ O, x.1.n ≠ p.n) :
    ∃ W', (Instr.mapUpdate 61 (.map (some mb)) (.int .i64 p.n) p.v).run Try.prog W = .ok () W' ∧ Mp W' mb (n + 1) (O ++ [(p, true)]) ∧ Chg (fun j => j = mb) W W' := by
  obtain ⟨D, hD, hat⟩ := h
  have hI := hD.isMap
  obtain ⟨W', hrun, h1, h2⟩ := hD.update law3 Try.underlying61 (by unfold maxLen; omega) (keyOf_int_mk Try.underlying3 hp.wf) (show Hv p.v = some (.held p.v, []) from rfl)
  refine ⟨W', hrun, ⟨_, h1, fun x hx => ?_⟩, ⟨h2.os, h2.tape, h2.output, h2.size, fun k hk hx => h2.block k hk (by simpa using hx)⟩⟩
  rcases List.mem_append.1 hx with hx | hx
  · have hk : (Lit.int .i64 x.1.n) ≠ .int .i64 p.n := by intro e; injection e with _ e; exact hne x hx e
    obtain ⟨q1, q2⟩ := hat x hx
    refine ⟨(has_put_other hk _).trans q1, fun e z => ?_⟩
    rw [atKey_put_other hk]
    exact q2 e z
  · simp only [List.mem_singleton] at hx
    subst hx
    exact ⟨has_put_same hI (show WideAt.IsKeyLit (.int .i64 _) from trivial) _, fun _ z => atKey_put_same hI (show WideAt.IsKeyLit (.int .i64 _) from trivial) _ _⟩
/-- delete(m, number) -/
theorem Mp.drop (h : Mp W mb n O) {p : Pk} (hp : p.ok) (ty : TypeId) :
    ∃ W', (Builtin.delete_ #[61, 3] ty #[.map (some mb), .int .i64 p.n]).run Try.prog W = .ok (.tuple #[]) W' ∧ Mp W' mb n (un (fun y => decide (y.n = p.n)) O) ∧ Chg (fun j => j = mb) W W' := by
  obtain ⟨D, hD, hat⟩ := h
  obtain ⟨W', hrun, h1, h2⟩ := hD.drop law3 Try.underlying61 (keyOf_int_mk Try.underlying3 hp.wf) ty
  have hg := h2.grown
  refine ⟨W', hrun, ⟨_, h1, fun x hx => ?_⟩, ⟨hg.os, hg.tape, hg.output, hg.size, fun k hk hx => hg.block k hk (by simpa using hx)⟩⟩
  simp only [un, List.mem_map] at hx
  obtain ⟨y, hy, rfl⟩ := hx
  obtain ⟨q1, q2⟩ := hat y hy
  by_cases e : y.1.n = p.n
  · simp only [e, decide_true, Bool.not_true, Bool.and_false]
    exact ⟨has_del_same, fun h => by cases h⟩
  · have hk : (Lit.int .i64 y.1.n) ≠ .int .i64 p.n := by intro e'; injection e' with _ e'; exact e e'
    simp only [e, decide_false, Bool.not_false, Bool.and_true]
    refine ⟨(has_del_other hk).trans q1, fun e' z => ?_⟩
    rw [atKey_del_other hk]
    exact q2 e' z
/-- clear(m) -/
theorem Mp.clear (h : Mp W mb n O) (ty : TypeId) :
    ∃ W', (Builtin.clear_ #[61] ty #[.map (some mb)]).run Try.prog W = .ok (.tuple #[]) W' ∧ Mp W' mb n (un (fun _ => true) O) ∧ Chg (fun j => j = mb) W W' := by
  obtain ⟨D, ⟨es, clock, h1, F, h3, h4⟩, hat⟩ := h
  have hlt := (Array.getElem?_eq_some_iff.1 h1).1
  refine ⟨{ W with heap := W.heap.setIfInBounds mb (.map #[] clock) }, ?_, ⟨.map [], ⟨#[], clock, ?_, ⟨by simp, ?_, fun x hx => by simp at hx⟩, by simp, rfl⟩, fun x hx => ?_⟩, ⟨rfl, rfl, rfl, by simp, fun k hk hx => ?_⟩⟩
  · simp [Builtin.clear_, run_underlying Try.underlying61, MapKept.run_getObj_map h1, MapKept.run_setObj_map _ h1, Result.andThen]
  · simp [Array.getElem?_setIfInBounds_self_of_lt hlt]
  · exact ⟨by simp, by simp⟩
  · simp only [un, List.mem_map] at hx
    obtain ⟨y, hy, rfl⟩ := hx
    exact ⟨by simp [has_eq], fun h => by simp at h⟩
  · exact Array.getElem?_setIfInBounds_ne (fun e => hx e.symm)
end
end Go.Proofs.Ytkjcapmhjhnckaa
