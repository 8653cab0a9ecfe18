/- streams: the map of streams, exactly: what it holds, and how many. -/
import Derived.Test.YtekgnibdnfephaaDoorSk
import Derived.Maps.RangeWalk
namespace Go.Proofs.YtekgnibdnfephaaDoor
open Go.RowKit Go.Maps
set_option linter.unusedVariables false

theorem sid_le (p : Nat) (s u : Bool) : sid p s u ≤ 4 * (p : Int) + 3 := by
  cases s <;> cases u <;> simp [sid] <;> omega
def wfI (a : Int) : Prop := (Lit.int .i64 a).wf = true
/-- The map of streams, exactly. -/
def Sx (W : World) (sb n : Nat) (G : Int → Option Value) : Prop :=
  ∃ D : DataW Value, W.ownsMap Tryd.prog 3 Rv sb n D ∧ Tidy D ∧ Maps.size D = n ∧ ∀ a : Int, wfI a → ∀ z, D.atKey (.int .i64 a) z = (G a).elim z .held
theorem Sx.lt {W : World} {sb n : Nat} {G : Int → Option Value} (h : Sx W sb n G) : sb < W.heap.size := by
  obtain ⟨D, h, _⟩ := h
  exact h.lt
theorem Sx.kept {W W' : World} {sb n : Nat} {G : Int → Option Value} (h : Sx W sb n G) (hb : W'.heap[sb]? = W.heap[sb]?) : Sx W' sb n G := by
  obtain ⟨D, ⟨es, clock, h1, h2, h3, h4⟩, hI, hat⟩ := h
  exact ⟨D, ⟨es, clock, hb.trans h1, h2, h3, h4⟩, hI, hat⟩
theorem Sx.map {W : World} {sb n : Nat} {G : Int → Option Value} (h : Sx W sb n G) : ∃ es ck, W.heap[sb]? = some (.map es ck) := by
  obtain ⟨D, ⟨es, ck, h1, _⟩, _⟩ := h
  exact ⟨es, ck, h1⟩
theorem Sx.made {W : World} {sb : Nat} (h : W.heap[sb]? = some (.map #[] 0)) : Sx W sb 0 (fun _ => none) := by
  refine ⟨.map [], ?_, tidy_empty, rfl, fun a _ z => rfl⟩
  have := World.ownsMap_made (H := Value) W Tryd.prog 3 Rv
  obtain ⟨es, clock, q1, q2, q3, q4⟩ := this
  rw [heap_alloc_new] at q1
  simp only [Option.some.injEq, Obj.map.injEq] at q1
  obtain ⟨rfl, rfl⟩ := q1
  exact ⟨#[], 0, h, q2, q3, q4⟩
theorem Sx.put {W : World} {sb n : Nat} {G : Int → Option Value} (h : Sx W sb n G) (a : Int) (ha : wfI a) (hG : G a = none) (hn : n < 9000000000000000000) (v : Value) :
    ∃ W', (Instr.mapUpdate 50 (.map (some sb)) (.int .i64 a) v).run Tryd.prog W = .ok () W' ∧ Sx W' sb (n + 1) (fun b => if b = a then some v else G b) ∧ Chg (fun j => j = sb) W W' := by
  obtain ⟨D, hD, hT, hs, hat⟩ := h
  obtain ⟨W', hrun, h1', h2⟩ := hD.update law3 Tryd.underlying50 (by unfold maxLen; omega) (keyOf_int_mk Tryd.underlying3 ha) (show Rv v = some (.held v, []) from rfl)
  have hno : Maps.has D (.int .i64 a) = false := has_false_of_atKey fun z => by rw [hat a ha z, hG]; rfl
  refine ⟨W', hrun, ⟨_, h1', hT.put (show WideAt.IsKeyLit (.int .i64 _) from trivial) _, ?_, fun b hb z => ?_⟩, ⟨h2.os, h2.tape, h2.output, h2.size, fun k hk hx => h2.block k hk (by simpa using hx)⟩⟩
  · rw [size_put hT, hno, hs]; rfl
  · by_cases e : b = a
    · subst e
      simp only [if_true]
      exact atKey_put_same hT.isMap (show WideAt.IsKeyLit (.int .i64 _) from trivial) _ _
    · rw [atKey_put_other (by intro e'; injection e' with _ e'; exact e e'), hat b hb z]
      simp only [if_neg e]
theorem Sx.len {W : World} {sb n : Nat} {G : Int → Option Value} (h : Sx W sb n G) (ty : TypeId) : (Builtin.len_ #[50] ty #[.map (some sb)]).run Tryd.prog W = .ok (.int .i64 n) W := by
  obtain ⟨D, hD, hT, hs, hat⟩ := h
  rw [hD.len Tryd.underlying50 ty, hs]
/-- What the step of a range finds is what the map holds. -/
theorem elim_held {o : Option Value} {c : Value} (h : ∀ z : DataW Value, o.elim z .held = .held c) : o = some c := by
  cases o with
  | none => have := h .nil; cases this
  | some v =>
    have e : DataW.held v = DataW.held c := h .nil
    injection e with e
    rw [e]
end Go.Proofs.YtekgnibdnfephaaDoor
