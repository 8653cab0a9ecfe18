/- append of bytes up to what a row may have. -/
import Derived.Test.YtcchlicokglmnaaBf
import Derived.Test.YtcchlicokglmnaaBr
import Derived.Deep.DeepAppendWide
namespace Go.Proofs.Ytcchlicokglmnaa
open Go.ChangeShapes Go.WideShapes Go.ChangeAt Go.RowKit Go.Lib
set_option linter.unusedVariables false

theorem rowB' {w w' : World} {M t : Nat} {A : Array Value} (h : w.heap[M]? = some (.cells A t (0, 0))) (hb : Below w.heap.size w w') : w'.heap[M]? = some (.cells A t (0, 0)) := (hb.block M (lt_block h)).trans h
theorem app_g {n : Nat} {X : World} {o : Option Addr} {c : Nat} {l : List UInt8} (h : By n X (.slice o l.length c) l) (hn : n ≤ X.heap.size) (o2 : Option Addr) (c2 : Nat) (l2 : List UInt8) (hs : Sl X o2 l2) (hnil : o2 = none → l2.length = 0 ∧ c2 = 0) (hl : l.length + l2.length ≤ 200000000000000) :
    ∃ o' c' X', (Builtin.append_ #[25, 25] 25 #[.slice o l.length c, .slice o2 l2.length c2]).run Try.prog X = .ok (.slice o' (l ++ l2).length c') X' ∧ By n X' (.slice o' (l ++ l2).length c') (l ++ l2) ∧ Gq n X X' := by
  obtain ⟨i0, hi, hz0, hz1, hz2⟩ := info_parts info5
  cases o2 with
  | none =>
    obtain ⟨e1, e2⟩ := hnil rfl
    obtain rfl : l2 = [] := List.eq_nil_of_length_eq_zero e1
    subst e2
    have hrun := run_append_owned_none (P := Try.prog) (w := X) n 25 25 5 i0 1 Try.underlying25 hi (.slice o l.length c) l.length (bc l) h
    refine ⟨o, c, X, by simpa using hrun, by simpa using h, Gq.refl _ _⟩
  | some ad =>
    obtain ⟨v', w', hrun, hown', hgr, _⟩ := run_append_own_wide (P := Try.prog) X n 25 25 5 i0 (.int .u8 0) 1 1 Try.underlying25 hi hz0 hz1 hz2 rfl (by decide) _ _ _ h ad l2.length c2 (bc l2) (by rw [bc_length]; omega) (Sl_cells hs) (bc_one l2) (by unfold maxLen; omega) (by omega) hn
    obtain ⟨o', c', rfl⟩ := own_val hown'
    refine ⟨o', c', w', by rw [List.length_append]; exact hrun, ?_, Gq.of_grown h hgr⟩
    unfold By
    rw [List.length_append, bc_append]
    exact hown'
end Go.Proofs.Ytcchlicokglmnaa
