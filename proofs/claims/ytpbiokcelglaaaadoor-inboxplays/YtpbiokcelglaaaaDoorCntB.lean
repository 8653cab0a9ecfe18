/- What waits, as a list: its order, its beginning; bytes put one by one. -/
import Derived.Test.YtpbiokcelglaaaaDoorCnt
import Derived.Test.YtpbiokcelglaaaaDoorAdv
namespace Go.Proofs.YtpbiokcelglaaaaDoor
set_option linter.unusedVariables false

theorem came_mem {V : Nat → Option UInt8} {a k : Nat} {y : Nat × UInt8} (h : y ∈ came V a k) : a ≤ y.1 ∧ y.1 < a + k ∧ V y.1 = some y.2 := by
  induction k generalizing a with
  | zero => cases h
  | succ k ih =>
    cases hv : V a with
    | none =>
      rw [came_none hv] at h
      have := ih h
      exact ⟨by omega, by omega, this.2.2⟩
    | some x =>
      rw [came_some hv] at h
      rcases List.mem_cons.1 h with rfl | h
      · exact ⟨Nat.le_refl _, by show a < _; omega, hv⟩
      · have := ih h
        exact ⟨by omega, by omega, this.2.2⟩
/-- Bytes one behind the other. -/
theorem came_run {V : Nat → Option UInt8} (a : Nat) (l : List UInt8) (h : ∀ j (hj : j < l.length), V (a + j) = some l[j]) (i : Nat) (hi : i < l.length) (hi' : i < (came V a l.length).length) : (came V a l.length)[i] = (a + i, l[i]) := by
  induction l generalizing a i with
  | nil => simp at hi
  | cons x t ih =>
    have h0 : V a = some x := by have := h 0 (by simp); simpa using this
    have e : came V a (x :: t).length = (a, x) :: came V (a + 1) t.length := by rw [List.length_cons]; exact came_some h0
    have ht : ∀ j (hj : j < t.length), V (a + 1 + j) = some t[j] := by
      intro j hj
      have := h (j + 1) (by simp; omega)
      rw [show a + 1 + j = a + (j + 1) by omega, this]
      simp
    simp only [e]
    cases i with
    | zero => simp
    | succ i =>
      simp only [List.getElem_cons_succ]
      rw [ih (a + 1) ht i (by simpa using hi)]
      rw [show a + 1 + i = a + (i + 1) by omega]
/-- The list's beginning is what can be read. -/
theorem came_ready {V : Nat → Option UInt8} {p R lm : Nat} (hs : Stop V p R) (hR : R ≤ lm) : (∀ i (h : i < (came V p (lm - p)).length), i < R - p → (came V p (lm - p))[i].1 = p + i) ∧ R - p ≤ (came V p (lm - p)).length ∧ (∀ h : R - p < (came V p (lm - p)).length, (came V p (lm - p))[R - p].1 ≠ p + (R - p)) := by
  obtain ⟨h1, h2, h3⟩ := hs
  have e : lm - p = (R - p) + (lm - R) := by omega
  have eR : p + (R - p) = R := by omega
  have hc := came_add V p (R - p) (lm - R)
  rw [← e, eR] at hc
  have hl := came_full (V := V) p (R - p) (fun j a c => h2 j a (by omega))
  have hx : ∃ l : List UInt8, l.length = R - p ∧ ∀ j (hj : j < l.length), V (p + j) = some l[j] := by
    refine ⟨(List.range (R - p)).map (fun j => (V (p + j)).getD 0), by simp, fun j hj => ?_⟩
    have hj' : j < R - p := by simpa using hj
    obtain ⟨x, hx⟩ := Option.ne_none_iff_exists'.1 (h2 (p + j) (by omega) (by omega))
    simp [hx]
  obtain ⟨l, ll, hlv⟩ := hx
  refine ⟨fun i h hi => ?_, by rw [hc, List.length_append, hl]; omega, fun h => ?_⟩
  · simp only [hc]
    rw [List.getElem_append_left (by rw [hl]; exact hi)]
    have := came_run p l hlv i (by omega) (by rw [ll, hl]; exact hi)
    simp only [ll] at this
    rw [this]
  · simp only [hc]
    rw [List.getElem_append_right (by rw [hl]; exact Nat.le_refl _)]
    have hm := came_mem (V := V) (a := R) (k := lm - R) (List.getElem_mem (by rw [hc, List.length_append, hl] at h; rw [hl]; omega : R - p - (came V p (R - p)).length < (came V R (lm - R)).length))
    intro e
    rw [e, eR, h3] at hm
    cases hm.2.2
/-- Bytes put one by one, but for those that were read. -/
def putR (V : Nat → Option UInt8) (p o : Nat) : List UInt8 → (Nat → Option UInt8)
  | [] => V
  | x :: t => putR (if o < p then V else put1 V o x) p (o + 1) t
theorem putR_snoc (V : Nat → Option UInt8) (p o : Nat) (l : List UInt8) (x : UInt8) : putR V p o (l ++ [x]) = if o + l.length < p then putR V p o l else put1 (putR V p o l) (o + l.length) x := by
  induction l generalizing V o with
  | nil => rfl
  | cons y t ih => rw [List.cons_append, putR, ih, putR, List.length_cons, show o + 1 + t.length = o + (t.length + 1) by omega]
theorem putR_eq (V : Nat → Option UInt8) (p o : Nat) (l : List UInt8) : putR V p o l = putF V (max o p) (l.drop (min l.length (p - o))) := by
  induction l generalizing V o with
  | nil => simp [putR, putF]
  | cons x t ih =>
    rw [putR, ih]
    by_cases h : o < p
    · rw [if_pos h, List.length_cons]
      have e : (x :: t).drop (min (t.length + 1) (p - o)) = t.drop (min t.length (p - (o + 1))) := by
        obtain ⟨d, hd⟩ : ∃ d, min (t.length + 1) (p - o) = d + 1 := ⟨min t.length (p - (o + 1)), by omega⟩
        rw [hd, List.drop_succ_cons]
        congr 1
        omega
      rw [e, show max (o + 1) p = max o p by omega]
    · rw [if_neg h, show min t.length (p - (o + 1)) = 0 by omega, show min (x :: t).length (p - o) = 0 by omega, List.drop_zero, List.drop_zero, putF, show max o p = o by omega, show max (o + 1) p = o + 1 by omega]
/-- Where a byte goes. -/
theorem came_split (V : Nat → Option UInt8) (p M at' : Nat) (h1 : p ≤ at') (h2 : at' < p + M) : came V p M = came V p (at' + 1 - p) ++ came V (at' + 1) (p + M - (at' + 1)) := by
  have := came_add V p (at' + 1 - p) (p + M - (at' + 1))
  rwa [show at' + 1 - p + (p + M - (at' + 1)) = M by omega, show p + (at' + 1 - p) = at' + 1 by omega] at this
theorem came_last_some {V : Nat → Option UInt8} {p at' : Nat} {x : UInt8} (h1 : p ≤ at') (hv : V at' = some x) : came V p (at' + 1 - p) = came V p (at' - p) ++ [(at', x)] := by
  have := came_add V p (at' - p) 1
  rw [show at' - p + 1 = at' + 1 - p by omega, show p + (at' - p) = at' by omega, came_some hv] at this
  simpa [came] using this
theorem came_last_none {V : Nat → Option UInt8} {p at' : Nat} (h1 : p ≤ at') (hv : V at' = none) : came V p (at' + 1 - p) = came V p (at' - p) := by
  have := came_add V p (at' - p) 1
  rw [show at' - p + 1 = at' + 1 - p by omega, show p + (at' - p) = at' by omega, came_none hv] at this
  simpa [came] using this
theorem came_wide {V : Nat → Option UInt8} {p lm lm' : Nat} (h : lm ≤ lm') (hp : p ≤ lm) (hn : ∀ j, lm ≤ j → V j = none) : came V p (lm' - p) = came V p (lm - p) := by
  have := came_add V p (lm - p) (lm' - lm)
  rw [show lm - p + (lm' - lm) = lm' - p by omega, show p + (lm - p) = lm by omega, came_nil lm _ (fun j h1 _ => hn j h1), List.append_nil] at this
  exact this
theorem came_drop {V : Nat → Option UInt8} {p M m : Nat} (hm : m ≤ M) (h : ∀ j, p ≤ j → j < p + m → V j ≠ none) : (came V p M).drop m = came V (p + m) (M - m) := by
  have := came_add V p m (M - m)
  rw [show m + (M - m) = M by omega] at this
  rw [this, List.drop_left' (came_full p m h)]
end Go.Proofs.YtpbiokcelglaaaaDoor
