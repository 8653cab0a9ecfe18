/- What waits: the bytes by their places, as a list; lists alone. -/
import Derived.Test.YtpbiokcelglaaaaDoorFil
namespace Go.Proofs.YtpbiokcelglaaaaDoor
set_option linter.unusedVariables false

/-- The bytes that stand from a on, k places. -/
def came (V : Nat → Option UInt8) (a : Nat) : Nat → List (Nat × UInt8)
  | 0 => []
  | k + 1 => (match V a with | some x => [(a, x)] | none => []) ++ came V (a + 1) k
theorem came_some {V : Nat → Option UInt8} {a k : Nat} {x : UInt8} (h : V a = some x) : came V a (k + 1) = (a, x) :: came V (a + 1) k := by
  rw [came, h]; rfl
theorem came_none {V : Nat → Option UInt8} {a k : Nat} (h : V a = none) : came V a (k + 1) = came V (a + 1) k := by
  rw [came, h]; rfl
theorem came_ext {V V' : Nat → Option UInt8} (a k : Nat) (h : ∀ j, a ≤ j → j < a + k → V j = V' j) : came V a k = came V' a k := by
  induction k generalizing a with
  | zero => rfl
  | succ k ih => rw [came, came, ih (a + 1) (fun j h1 h2 => h j (by omega) (by omega)), h a (Nat.le_refl _) (by omega)]
theorem came_add (V : Nat → Option UInt8) (a k m : Nat) : came V a (k + m) = came V a k ++ came V (a + k) m := by
  induction k generalizing a with
  | zero => rw [Nat.zero_add]; rfl
  | succ k ih =>
    rw [show k + 1 + m = (k + m) + 1 by omega, came, came, ih, List.append_assoc, show a + 1 + k = a + (k + 1) by omega]
theorem came_le (V : Nat → Option UInt8) (a k : Nat) : (came V a k).length ≤ k := by
  induction k generalizing a with
  | zero => exact Nat.le_refl _
  | succ k ih =>
    have := ih (a + 1)
    cases h : V a with
    | none => rw [came_none h]; omega
    | some x => rw [came_some h, List.length_cons]; omega
theorem came_full {V : Nat → Option UInt8} (a k : Nat) (h : ∀ j, a ≤ j → j < a + k → V j ≠ none) : (came V a k).length = k := by
  induction k generalizing a with
  | zero => rfl
  | succ k ih =>
    obtain ⟨x, hx⟩ := Option.ne_none_iff_exists'.1 (h a (Nat.le_refl _) (by omega))
    rw [came_some hx, List.length_cons, ih (a + 1) (fun j h1 h2 => h j (by omega) (by omega))]
theorem came_nil {V : Nat → Option UInt8} (a k : Nat) (h : ∀ j, a ≤ j → j < a + k → V j = none) : came V a k = [] := by
  induction k generalizing a with
  | zero => rfl
  | succ k ih => rw [came_none (h a (Nat.le_refl _) (by omega)), ih (a + 1) (fun j h1 h2 => h j (by omega) (by omega))]
theorem put1_other {V : Nat → Option UInt8} {i j : Nat} {x : UInt8} (h : i ≠ j) : put1 V j x i = V i := by
  unfold put1; rw [if_neg (fun e => h e.1)]
theorem put1_same {V : Nat → Option UInt8} {j : Nat} {x : UInt8} (h : V j = none) : put1 V j x j = some x := by
  unfold put1; rw [if_pos ⟨rfl, h⟩]
/-- A byte that is new, among the others. -/
theorem came_put1 {V : Nat → Option UInt8} (a k j : Nat) (x : UInt8) (h1 : a ≤ j) (h2 : j < a + k) (hv : V j = none) :
    came V a k = came V a (j - a) ++ came V (j + 1) (a + k - (j + 1)) ∧ came (put1 V j x) a k = came V a (j - a) ++ (j, x) :: came V (j + 1) (a + k - (j + 1)) := by
  obtain ⟨m, hm⟩ : ∃ m, k = (j - a) + (m + 1) := ⟨k - (j - a) - 1, by omega⟩
  have e1 : a + (j - a) = j := by omega
  have e2 : a + k - (j + 1) = m := by omega
  rw [e2, hm, came_add V a (j - a) (m + 1), came_add (put1 V j x) a (j - a) (m + 1), e1, came_none hv, came_some (put1_same hv)]
  refine ⟨rfl, ?_⟩
  rw [came_ext (V := put1 V j x) (V' := V) a (j - a) (fun i h1 h2 => put1_other (by omega)), came_ext (V := put1 V j x) (V' := V) (j + 1) m (fun i h1 h2 => put1_other (by omega))]
theorem cnt_put1 {V : Nat → Option UInt8} (a k j : Nat) (x : UInt8) (h1 : a ≤ j) (h2 : j < a + k) : (came (put1 V j x) a k).length = (came V a k).length + if V j = none then 1 else 0 := by
  by_cases hv : V j = none
  · obtain ⟨e1, e2⟩ := came_put1 a k j x h1 h2 hv
    rw [e1, e2, if_pos hv]
    simp only [List.length_append, List.length_cons]
    omega
  · rw [put1_some (by simpa [Option.isSome_iff_ne_none] using hv), if_neg hv]
    rfl
theorem cnt_putF {V : Nat → Option UInt8} (a k o : Nat) (l : List UInt8) (h1 : a ≤ o) (h2 : o + l.length ≤ a + k) : (came (putF V o l) a k).length = (came V a k).length + cntF V o l := by
  induction l generalizing V o with
  | nil => rfl
  | cons x t ih =>
    rw [List.length_cons] at h2
    rw [putF, cntF, ih (o + 1) (by omega) (by omega), cnt_put1 a k o x h1 (by omega)]
    omega
theorem putF_in (V : Nat → Option UInt8) (o : Nat) (l : List UInt8) (j : Nat) (h1 : o ≤ j) (h2 : j < o + l.length) : putF V o l j = some ((V j).getD (l[j - o]'(by omega))) := by
  induction l generalizing V o with
  | nil => simp at h2; omega
  | cons x t ih =>
    rw [List.length_cons] at h2
    rw [putF]
    by_cases e : j = o
    · subst e
      rw [putF_out _ _ _ _ (by omega)]
      cases hv : V j with
      | none => rw [put1_same hv]; simp
      | some y => rw [put1_some (by rw [hv]; rfl), hv]; rfl
    · rw [ih _ _ (by omega) (by omega), put1_other e]
      congr 2
      obtain ⟨d, hd⟩ : ∃ d, j - o = d + 1 := ⟨j - o - 1, by omega⟩
      simp only [show j - (o + 1) = d by omega, hd, List.getElem_cons_succ]
/-- What stands from p on is the text's. -/
def Of (T : List UInt8) (p : Nat) (V : Nat → Option UInt8) : Prop := ∀ j, p ≤ j → V j = none ∨ V j = T[j]?
theorem Of.put {T : List UInt8} {p o k : Nat} {V : Nat → Option UInt8} {l : List UInt8} (h : Of T p V) (hl : l = (T.drop o).take k) : Of T p (putF V o l) := by
  intro j hj
  by_cases hin : o ≤ j ∧ j < o + l.length
  · right
    rw [putF_in V o l j hin.1 hin.2]
    have hll : l.length ≤ T.length - o := by rw [hl, List.length_take, List.length_drop]; omega
    have hjT : j < T.length := by omega
    have e : l[j - o]'(by omega) = T[j] := by
      simp only [hl, List.getElem_take, List.getElem_drop]
      congr 1
      omega
    rw [e, List.getElem?_eq_getElem hjT]
    rcases h j hj with hv | hv
    · rw [hv]; rfl
    · rw [hv, List.getElem?_eq_getElem hjT]; rfl
  · rw [putF_out V o l j (by omega)]
    exact h j hj
theorem Of.cut {T : List UInt8} {p p' : Nat} {V V' : Nat → Option UInt8} (h : Of T p V) (hp : p ≤ p') (hV : ∀ j, p' ≤ j → V' j = V j) : Of T p' V' := by
  intro j hj
  rw [hV j hj]
  exact h j (by omega)
/-- Bytes that stand one behind the other are the text's. -/
theorem Of.run {T : List UInt8} {p m : Nat} {V : Nat → Option UInt8} (h : Of T p V) (hm : ∀ j, p ≤ j → j < p + m → V j ≠ none) : p + m ≤ T.length ∨ m = 0 := by
  by_cases h0 : m = 0
  · exact .inr h0
  · left
    rcases h (p + m - 1) (by omega) with hv | hv
    · exact absurd hv (hm _ (by omega) (by omega))
    · have := hm (p + m - 1) (by omega) (by omega)
      rw [hv] at this
      have := (List.getElem?_eq_some_iff.1 (Option.ne_none_iff_exists'.1 this).choose_spec).1
      omega
end Go.Proofs.YtpbiokcelglaaaaDoor
