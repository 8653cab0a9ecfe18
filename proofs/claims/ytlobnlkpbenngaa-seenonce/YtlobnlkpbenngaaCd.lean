/- How many numbers spans have that all stand in a list. -/
import Derived.Test.YtlobnlkpbenngaaRWo
namespace Go.Proofs.YtlobnlkpbenngaaR
set_option linter.unusedVariables false

theorem filter_ne_length (C : List Int) (x : Int) (h : x ∈ C) : (C.filter (fun n => decide (n ≠ x))).length + 1 ≤ C.length := by
  induction C with
  | nil => cases h
  | cons y t ih =>
    rcases List.mem_cons.1 h with rfl | h
    · have := List.length_filter_le (fun n => decide (n ≠ x)) t
      simp
      simpa using this
    · have := ih h
      by_cases hy : y = x
      · have := List.length_filter_le (fun n => decide (n ≠ x)) t
        simp [hy]
        simpa using this
      · simp [hy]
        simpa using this
theorem run_count (m : Nat) (a : Int) (C : List Int) (h : ∀ n, a ≤ n → n < a + m → n ∈ C) : m + (C.filter (fun n => decide (¬ (a ≤ n ∧ n < a + m)))).length ≤ C.length := by
  induction m with
  | zero => have := List.length_filter_le (fun n => decide (¬ (a ≤ n ∧ n < a + (0 : Nat)))) C; omega
  | succ m ih =>
    have i1 := ih (fun n h1 h2 => h n h1 (by omega))
    have hm : a + m ∈ C.filter (fun n => decide (¬ (a ≤ n ∧ n < a + m))) := by
      rw [List.mem_filter]
      exact ⟨h _ (by omega) (by omega), by simp <;> omega⟩
    have i2 := filter_ne_length _ _ hm
    rw [List.filter_filter] at i2
    have e : (C.filter (fun n => decide (¬ (a ≤ n ∧ n < a + ((m + 1 : Nat) : Int))))) = C.filter (fun n => decide (n ≠ a + m) && decide (¬ (a ≤ n ∧ n < a + m))) := by
      apply List.filter_congr
      intro n _
      rw [Bool.eq_iff_iff]
      simp only [Bool.and_eq_true, decide_eq_true_eq, ne_eq]
      omega
    rw [e]
    omega
/-- How many numbers spans have. -/
def total : List (Int × Int) → Int
  | [] => 0
  | p :: t => (p.2 - p.1 + 1) + total t
theorem total_append (A B : List (Int × Int)) : total (A ++ B) = total A + total B := by
  induction A with
  | nil => simp [total]
  | cons p t ih => simp only [List.cons_append, total, ih]; omega
theorem total_le (L : List (Int × Int)) : ∀ (C : List Int), Ok L → (∀ n, In n L → n ∈ C) → total L ≤ C.length := by
  induction L with
  | nil => intro C _ _; simp [total]
  | cons p t ih =>
    intro C hO hC
    obtain ⟨h1, h2, h3⟩ := Ok_cons.1 hO
    obtain ⟨m, hm⟩ : ∃ m : Nat, (m : Int) = p.2 - p.1 + 1 := ⟨(p.2 - p.1 + 1).toNat, by omega⟩
    have k1 := run_count m p.1 C (fun n q1 q2 => hC n ((In_cons n p t).2 (.inl (by omega))))
    have k2 := ih (C.filter (fun n => decide (¬ (p.1 ≤ n ∧ n < p.1 + m)))) h3 (fun n hn => by
      rw [List.mem_filter]
      refine ⟨hC n ((In_cons n p t).2 (.inr hn)), ?_⟩
      obtain ⟨q, hq, q1, q2⟩ := hn
      have := h2 q hq
      simp <;> omega)
    simp only [total]
    omega
theorem len_total (L : List (Int × Int)) (hO : Ok L) : (L.length : Int) ≤ total L := by
  induction L with
  | nil => simp [total]
  | cons p t ih =>
    obtain ⟨h1, h2, h3⟩ := Ok_cons.1 hO
    have := ih h3
    simp only [total, List.length_cons]
    omega
end Go.Proofs.YtlobnlkpbenngaaR
