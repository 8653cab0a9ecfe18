/- ProtectSteps: the law's terms; what is known of them. -/
import Derived.Test.YtdklkofnekacdaaKa
namespace Go.Proofs.Ytdklkofnekacdaa
open Go.RowKit Go.Shelf Go.Lib
set_option linter.unusedVariables false

theorem lb1 : bKey ≠ bMask := by decide
theorem lb2 : bKey ≠ bNext := by decide
theorem lb3 : bMask ≠ bNext := by decide
theorem lb4 : bCli ≠ bNext := by decide
theorem lb5 : bSer ≠ bNext := by decide
theorem lb6 : bInit ≠ bNext := by decide
theorem lb7 : bInit ≠ bKey := by decide
theorem lb8 : bInit ≠ bMask := by decide
theorem lb9 : bCli ≠ bKey := by decide
theorem lb10 : bCli ≠ bMask := by decide
theorem lb11 : bSer ≠ bKey := by decide
theorem lb12 : bSer ≠ bMask := by decide
theorem lb13 : bInit ≠ bSer := by decide
theorem lb14 : bCli ≠ bSer := by decide
theorem lb15 : bInit ≠ bCli := by decide
/-- The terms of both sides' first keys and of the first keys. -/
def Lb (l : List UInt8) : List Tm := [rt, ⟨2, 0, 0, bInit, ⟨l.toArray⟩⟩, dt 1 bCli, dt 2 bKey, dt 2 bMask, dt 1 bSer, dt 5 bKey, dt 5 bMask, fr, dt 8 bKey, dt 8 bMask]
/-- Those of a step. -/
def Lq (j : Nat) : List Tm := [dt (8 + 3 * j) bNext, dt (11 + 3 * j) bKey, dt (11 + 3 * j) bMask]
def LL (l : List UInt8) (i : Nat) : List Tm := Lb l ++ (List.range i).flatMap Lq
theorem LL_succ (l : List UInt8) (i : Nat) : LL l (i + 1) = LL l i ++ Lq i := by simp [LL, List.range_succ]
theorem LL_len (l : List UInt8) (i : Nat) : (LL l i).length = 11 + 3 * i := by
  induction i with
  | zero => rfl
  | succ i ih => rw [LL_succ, List.length_append, ih]; simp [Lq]; omega
theorem LL_get {l : List UInt8} {i m : Nat} {t : Tm} (h : (LL l i)[m]? = some t) : (m ≤ 10 ∧ (Lb l)[m]? = some t) ∨ ∃ j, j < i ∧ ((m = 11 + 3 * j ∧ t = dt (8 + 3 * j) bNext) ∨ (m = 12 + 3 * j ∧ t = dt (11 + 3 * j) bKey) ∨ (m = 13 + 3 * j ∧ t = dt (11 + 3 * j) bMask)) := by
  induction i with
  | zero =>
    have h' : (Lb l)[m]? = some t := by simpa [LL] using h
    have := (List.getElem?_eq_some_iff.1 h').1
    have hl : (Lb l).length = 11 := rfl
    exact .inl ⟨by omega, h'⟩
  | succ i ih =>
    rw [LL_succ] at h
    by_cases hm : m < 11 + 3 * i
    · rw [List.getElem?_append_left (by rw [LL_len]; exact hm)] at h
      rcases ih h with h | ⟨j, hj, h⟩
      · exact .inl h
      · exact .inr ⟨j, by omega, h⟩
    · rw [List.getElem?_append_right (by rw [LL_len]; omega), LL_len] at h
      have hl := (List.getElem?_eq_some_iff.1 h).1
      have hl3 : (Lq i).length = 3 := rfl
      rw [hl3] at hl
      refine .inr ⟨i, by omega, ?_⟩
      rcases (show m = 11 + 3 * i ∨ m = 12 + 3 * i ∨ m = 13 + 3 * i by omega) with e | e | e
      · rw [e, show 11 + 3 * i - (11 + 3 * i) = 0 by omega] at h; simp [Lq] at h; exact .inl ⟨e, h.symm⟩
      · rw [e, show 12 + 3 * i - (11 + 3 * i) = 1 by omega] at h; simp [Lq] at h; exact .inr (.inl ⟨e, h.symm⟩)
      · rw [e, show 13 + 3 * i - (11 + 3 * i) = 2 by omega] at h; simp [Lq] at h; exact .inr (.inr ⟨e, h.symm⟩)
theorem LL_key (l : List UInt8) (i : Nat) : (LL l i)[9 + 3 * i]? = some (dt (8 + 3 * i) bKey) := by
  cases i with
  | zero => rfl
  | succ i =>
    rw [LL_succ, List.getElem?_append_right (by rw [LL_len]; omega), LL_len, show 9 + 3 * (i + 1) - (11 + 3 * i) = 1 by omega, show 8 + 3 * (i + 1) = 11 + 3 * i by omega]
    rfl
theorem mem_LL {l : List UInt8} {i : Nat} {t : Tm} (h : t ∈ LL l i) : t ∈ Lb l ∨ ∃ j, j < i ∧ (t = dt (8 + 3 * j) bNext ∨ t = dt (11 + 3 * j) bKey ∨ t = dt (11 + 3 * j) bMask) := by
  obtain ⟨m, hm⟩ := List.getElem?_of_mem h
  rcases LL_get hm with ⟨_, h⟩ | ⟨j, hj, ⟨_, h⟩ | ⟨_, h⟩ | ⟨_, h⟩⟩
  · exact .inl (List.mem_of_getElem? h)
  · exact .inr ⟨j, hj, .inl h⟩
  · exact .inr ⟨j, hj, .inr (.inl h)⟩
  · exact .inr ⟨j, hj, .inr (.inr h)⟩
theorem dt_inj {a b : Nat} {S T : ByteArray} (h : dt a S = dt b T) : a = b ∧ S = T := by
  injection h with _ h1 _ h2 _
  exact ⟨h1, h2⟩
theorem un_eq {t s : Tm} (h : t = s) : t.un = s.un := by rw [h]
theorem ni_next (l : List UInt8) (i : Nat) : dt (8 + 3 * i) bNext ∉ LL l i := by
  intro h
  rcases mem_LL h with h | ⟨j, hj, h | h | h⟩
  · simp only [Lb, List.mem_cons, List.not_mem_nil, or_false] at h
    rcases h with h | h | h | h | h | h | h | h | h | h | h
    · cases h
    · exact lb6 (un_eq h).symm
    · exact lb4 (un_eq h).symm
    · exact lb2 (un_eq h).symm
    · exact lb3 (un_eq h).symm
    · exact lb5 (un_eq h).symm
    · exact lb2 (un_eq h).symm
    · exact lb3 (un_eq h).symm
    · cases h
    · exact lb2 (un_eq h).symm
    · exact lb3 (un_eq h).symm
  · have := (dt_inj h).1; omega
  · exact lb2 (dt_inj h).2.symm
  · exact lb3 (dt_inj h).2.symm
theorem ni_of (l : List UInt8) (i : Nat) (S : ByteArray) (hS : S ≠ bNext) : dt (11 + 3 * i) S ∉ LL l i ++ [dt (8 + 3 * i) bNext] := by
  intro h
  rcases List.mem_append.1 h with h | h
  · rcases mem_LL h with h | ⟨j, hj, h | h | h⟩
    · simp only [Lb, List.mem_cons, List.not_mem_nil, or_false] at h
      rcases h with h | h | h | h | h | h | h | h | h | h | h <;> first | (cases h; done) | (have := congrArg Tm.of' h; simp only at this; omega)
    · exact hS (dt_inj h).2
    · have := (dt_inj h).1; omega
    · have := (dt_inj h).1; omega
  · exact hS (dt_inj (List.mem_singleton.1 h)).2
/-- Who sees nothing knows both sides' first keys alone. -/
theorem ks_no (l : List UInt8) (i : Nat) : ¬ Kn (LL l i) [] (9 + 3 * i) := by
  have key : ∀ x, Kn (LL l i) [] x → x ≤ 7 := by
    intro x h
    induction h with
    | root => omega
    | seen hb _ _ => cases hb
    | @made m a t ht h2 h6 hd _ ih =>
      rcases LL_get ht with ⟨hm, h⟩ | ⟨j, hj, ⟨_, h⟩ | ⟨_, h⟩ | ⟨_, h⟩⟩
      · rcases (show m ≤ 7 ∨ m = 8 ∨ m = 9 ∨ m = 10 by omega) with e | rfl | rfl | rfl
        · exact e
        · simp [Lb] at h; subst h; simp at h2
        · simp [Lb] at h; subst h; simp at hd; omega
        · simp [Lb] at h; subst h; simp at hd; omega
      · subst h; simp at hd; omega
      · subst h; simp at hd; omega
      · subst h; simp at hd; omega
    | text ht h6 _ _ _ _ _ _ =>
      rcases LL_get ht with ⟨hm, h⟩ | ⟨j, hj, ⟨_, h⟩ | ⟨_, h⟩ | ⟨_, h⟩⟩
      · have hmm := List.mem_of_getElem? h
        simp only [Lb, List.mem_cons, List.not_mem_nil, or_false] at hmm
        rcases hmm with h | h | h | h | h | h | h | h | h | h | h <;> subst h <;> simp at h6
      · subst h; simp at h6
      · subst h; simp at h6
      · subst h; simp at h6
  intro h
  have := key _ h
  omega
theorem ks_yes (l : List UInt8) (i : Nat) (hi : i ≤ 100) : Kn (LL l i) [nameL (8 + 3 * i)] (9 + 3 * i) := by
  refine Kn.made (i := 8 + 3 * i) (LL_key l i) (by simp) (by simp) (.inl rfl) ?_
  exact Kn.seen (b := nameL (8 + 3 * i)) (by simp) (by rw [wins_name _ (by omega)]; simp) (by rw [LL_len]; omega)
theorem LL_small (l : List UInt8) (i : Nat) : Small (LL l i) := by
  intro x t hx h6
  rcases LL_get hx with ⟨hm, h⟩ | ⟨j, hj, ⟨_, h⟩ | ⟨_, h⟩ | ⟨_, h⟩⟩
  · have hmm := List.mem_of_getElem? h
    simp only [Lb, List.mem_cons, List.not_mem_nil, or_false] at hmm
    rcases hmm with h | h | h | h | h | h | h | h | h | h | h <;> subst h <;> simp at h6
  · subst h; simp at h6
  · subst h; simp at h6
  · subst h; simp at h6
end Go.Proofs.Ytdklkofnekacdaa
