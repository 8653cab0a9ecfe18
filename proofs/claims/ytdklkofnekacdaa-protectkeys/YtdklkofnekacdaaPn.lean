/- protect: none, Initial, Next. -/
import Derived.Test.YtdklkofnekacdaaPk
import Derived.Deep.MidRow
namespace Go.Proofs.Ytdklkofnekacdaa
open Go.RowKit Go.Shelf Go.Lib
set_option linter.unusedVariables false

theorem setRow_self {w : World} {g t : Nat} {cs : Array Value} {fr : Nat × Nat} (h : w.heap[g]? = some (.cells cs t fr)) : w.setRow g cs = w := by
  obtain ⟨hlt, hv⟩ := Array.getElem?_eq_some_iff.1 h
  unfold World.setRow
  have : w.heap.modify g (fun x => match x with | .cells _ t fr => .cells cs t fr | o => o) = w.heap := by
    apply Array.ext
    · simp
    · intro i h1 h2
      rw [Array.getElem_modify]
      split
      · rename_i e; subst e; rw [hv]
      · rfl
  exact congrArg (fun hp => { w with heap := hp }) this
theorem setRow_setRow {w : World} {g t : Nat} {cs : Array Value} {fr : Nat × Nat} (h : w.heap[g]? = some (.cells cs t fr)) (A B : Array Value) : (w.setRow g A).setRow g B = w.setRow g B := by
  obtain ⟨hlt, hv⟩ := Array.getElem?_eq_some_iff.1 h
  unfold World.setRow
  congr 1
  apply Array.ext
  · simp
  · intro i h1 h2
    simp only [Array.getElem_modify]
    split
    · rename_i e; subst e; simp only [hv]
    · rfl
theorem setCells_row {g t : Nat} {fr : Nat × Nat} : ∀ (vs : List Value) (o : Nat) (w : World) (X : List Value), w.heap[g]? = some (.cells X.toArray t fr) → o + vs.length ≤ X.length → w.setCells g o vs = w.setRow g (X.take o ++ vs ++ X.drop (o + vs.length)).toArray
  | [], o, w, X, h, hl => by
    have : X.take o ++ [] ++ X.drop (o + ([] : List Value).length) = X := by simp
    rw [this, setRow_self h]
    rfl
  | v :: vs, o, w, X, h, hl => by
    simp only [List.length_cons] at hl
    have h1 : (w.setCell ⟨g, o, none⟩ v) = w.setRow g (X.set o v).toArray := by
      rw [setCell_eq_setRow w g o _ t fr v h]
      congr 1
      simp
    have h2 : (w.setRow g (X.set o v).toArray).heap[g]? = some (.cells (X.set o v).toArray t fr) := setRow_heap w g _ _ t fr h
    have ih := setCells_row vs (o + 1) (w.setRow g (X.set o v).toArray) (X.set o v) h2 (by simp; omega)
    show (w.setCell ⟨g, o, none⟩ v).setCells g (o + 1) vs = _
    rw [h1, ih, setRow_setRow h]
    congr 2
    rw [List.length_cons, show o + (vs.length + 1) = o + 1 + vs.length by omega]
    have e1 : (X.set o v).take (o + 1) = X.take o ++ [v] := by
      rw [List.take_succ_eq_append_getElem (by simp; omega), List.take_set_of_le (Nat.le_refl _)]
      simp
    have e2 : (X.set o v).drop (o + 1 + vs.length) = X.drop (o + 1 + vs.length) := by
      rw [List.drop_set_of_lt (by omega)]
    rw [e1, e2]
    simp
section
variable {W0 w w' : World} {V : Nat} {L : List Tm}
set_option maxRecDepth 100000 in
theorem pnone_c (h : Ag W0 w V L) (hle : L.length ≤ 1000) : Calls Try.prog 23 #[.pointer (some ⟨V, 0, none⟩)] w fun e w' => e = .returned (.bool false) ∧ Below w.heap.size w w' := by
  obtain ⟨G, c, M, hv'⟩ := h.va
  have HR : Aside _ := root_c hv' (by omega)
  have nne : (nameL 0 == z16) = false := by
    have := name_ne_zero 0 (by omega)
    simpa [z16] using this
  have heqn : ∀ X, (Op.equalIn 10000 29 (.agg (hl (nameL 0)).toArray) (.agg #[.int .u8 0, .int .u8 0, .int .u8 0, .int .u8 0, .int .u8 0, .int .u8 0, .int .u8 0, .int .u8 0, .int .u8 0, .int .u8 0, .int .u8 0, .int .u8 0, .int .u8 0, .int .u8 0, .int .u8 0, .int .u8 0])).run Try.prog X = .ok false X := fun X => by
    have := equalIn_h 29 hu28 9998 (nameL 0) z16 (nameL_len 0) rfl X
    rw [nne] at this
    exact this
  clear h hv' nne
  generalize nameL 0 = H0 at *
  go_enter Try.func23, Try.ntmps23
  go_wp2_with fail
  refine Calls.mono HR.out ?_
  rintro e W1 ⟨rfl, hb⟩
  have HB : Aside _ := hb
  clear hb HR
  go_wp2
  go_ret
  exact ⟨rfl, HB.out⟩
end
end Go.Proofs.Ytdklkofnekacdaa
