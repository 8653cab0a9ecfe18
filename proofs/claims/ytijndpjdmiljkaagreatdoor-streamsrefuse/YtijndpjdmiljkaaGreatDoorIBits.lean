/- Bits of 64-bit words, as numbers. -/
import Derived.Test.YtijndpjdmiljkaaGreatDoorIOpen
import Derived.Laws.BitsLemmas
namespace Go.Proofs.YtijndpjdmiljkaaGreatDoor
open Go.RowKit
set_option linter.unusedVariables false

theorem wrap_u64 (n : Int) : IntKind.u64.wrap n = n % 18446744073709551616 := by simp [IntKind.wrap, IntKind.bits, IntKind.signed]
theorem u64_wrap (n : Nat) (h : n < 18446744073709551616) : IntKind.u64.wrap (n : Int) = n := by rw [wrap_u64]; omega
theorem wraps_u64 (n : Int) (h₀ : 0 ≤ n) (h₁ : n < 2 ^ 64) : IntKind.u64.wrap n = n := by
  have : (2 : Int) ^ 64 = 18446744073709551616 := by decide
  rw [wrap_u64]
  omega
theorem two64 : (2 : Nat) ^ 64 = 18446744073709551616 := by decide
theorem bits_and (a b : Nat) (ha : a < 18446744073709551616) (hb : b < 18446744073709551616) : bits .and .u64 (a : Int) (b : Int) = ((a &&& b : Nat) : Int) :=
  (bits_nat .u64 64 (by decide) wraps_u64 a b (by rw [two64]; exact ha) (by rw [two64]; exact hb)).1
theorem bits_or (a b : Nat) (ha : a < 18446744073709551616) (hb : b < 18446744073709551616) : bits .or .u64 (a : Int) (b : Int) = ((a ||| b : Nat) : Int) :=
  (bits_nat .u64 64 (by decide) wraps_u64 a b (by rw [two64]; exact ha) (by rw [two64]; exact hb)).2
theorem first_bit (n k : Nat) : (∀ i, i < k → n.testBit i = false) ∨ ∃ t, t < k ∧ (∀ i, i < t → n.testBit i = false) ∧ n.testBit t = true := by
  induction k with
  | zero => exact .inl (fun i hi => absurd hi (Nat.not_lt_zero _))
  | succ k ih =>
    rcases ih with h | ⟨t, h1, h2, h3⟩
    · cases hk : n.testBit k with
      | false =>
        refine .inl (fun i hi => ?_)
        by_cases e : i = k
        · rw [e, hk]
        · exact h i (by omega)
      | true => exact .inr ⟨k, by omega, h, hk⟩
    · exact .inr ⟨t, by omega, h2, h3⟩
theorem low_bit {n t : Nat} (h0 : 0 < n) (hn : n < 18446744073709551616) (h1 : ∀ i, i < t → n.testBit i = false) (h2 : n.testBit t = true) (ht : t < 64) : n &&& (18446744073709551616 - n) = 2 ^ t := by
  have hd : ∃ m, n = 2 ^ (t + 1) * m + 2 ^ t := by
    refine ⟨n / 2 ^ (t + 1), ?_⟩
    have hm : n % 2 ^ (t + 1) = 2 ^ t := by
      apply Nat.eq_of_testBit_eq
      intro i
      rw [Nat.testBit_mod_two_pow, Nat.testBit_two_pow]
      by_cases hi : i < t
      · simp [h1 i hi]; omega
      · by_cases hi2 : i = t
        · subst hi2; simp [h2]
        · have : ¬ i < t + 1 := by omega
          simp [this]; omega
    have := Nat.div_add_mod n (2 ^ (t + 1))
    omega
  obtain ⟨m, hm⟩ := hd
  have hp : 0 < 2 ^ t := Nat.two_pow_pos t
  have hs : 2 ^ t < 2 ^ (t + 1) := by rw [Nat.pow_succ]; omega
  apply Nat.eq_of_testBit_eq
  intro i
  rw [Nat.testBit_and, Nat.testBit_two_pow]
  have e1 : 18446744073709551616 - n = 2 ^ 64 - ((n - 1) + 1) := by
    rw [two64]
    omega
  have e2 : n - 1 = 2 ^ (t + 1) * m + (2 ^ t - 1) := by omega
  rw [e1, Nat.testBit_two_pow_sub_succ (by rw [two64]; omega), e2, Nat.testBit_two_pow_mul_add m (by omega)]
  by_cases hi : i < t
  · rw [h1 i hi]; simp; omega
  · by_cases hi2 : i = t
    · subst hi2
      rw [h2]
      simp [ht, Nat.testBit_two_pow_sub_one]
    · have h3 : ¬ i < t + 1 := by omega
      rw [if_neg h3, hm, Nat.testBit_two_pow_mul_add m hs, if_neg h3]
      cases m.testBit (i - (t + 1)) <;> simp <;> omega
/-- A word of flags. -/
def wdN (f : Nat → Bool) : Nat → Nat
  | 0 => 0
  | n + 1 => wdN f n + (if f n then 2 ^ n else 0)
theorem wdN_lt (f : Nat → Bool) (n : Nat) : wdN f n < 2 ^ n := by
  induction n with
  | zero => simp [wdN]
  | succ n ih => rw [wdN, Nat.pow_succ]; split <;> omega
theorem wdN_bit (f : Nat → Bool) (n i : Nat) : (wdN f n).testBit i = (decide (i < n) && f i) := by
  induction n with
  | zero => simp [wdN]
  | succ n ih =>
    have hl := wdN_lt f n
    rw [wdN]
    by_cases hf : f n = true
    · rw [if_pos hf, show wdN f n + 2 ^ n = 2 ^ n * 1 + wdN f n by omega, Nat.testBit_two_pow_mul_add 1 hl]
      by_cases hi : i < n
      · rw [if_pos hi, ih]; simp [hi, show i < n + 1 by omega]
      · rw [if_neg hi]
        by_cases hi2 : i = n
        · subst hi2; simp [hf]
        · have : ¬ i < n + 1 := by omega
          rw [show i - n = (i - n - 1) + 1 by omega, Nat.testBit_succ]
          simp [this]
    · rw [if_neg hf, Nat.add_zero, ih]
      by_cases hi2 : i = n
      · subst hi2; simp [hf]
      · have : (decide (i < n + 1)) = decide (i < n) := by simp; omega
        rw [this]
theorem wd_lt (f : Nat → Bool) : wdN f 64 < 18446744073709551616 := by have := wdN_lt f 64; rwa [two64] at this
theorem pow_lt64 {j : Nat} (h : j < 64) : 2 ^ j < 18446744073709551616 := by
  have := Nat.pow_lt_pow_right (show 1 < 2 by decide) h
  rwa [two64] at this
/-- Is a flag set? -/
theorem wd_and (f : Nat → Bool) (j : Nat) (h : j < 64) : wdN f 64 &&& 2 ^ j = if f j then 2 ^ j else 0 := by
  apply Nat.eq_of_testBit_eq
  intro i
  rw [Nat.testBit_and, wdN_bit, Nat.testBit_two_pow]
  by_cases e : j = i
  · subst e
    cases hf : f j <;> simp [h]
  · have : decide (j = i) = false := by simp [e]
    rw [this, Bool.and_false]
    split
    · rw [Nat.testBit_two_pow, this]
    · simp
/-- A flag is set. -/
theorem wd_or (f g : Nat → Bool) (j : Nat) (h : j < 64) (hg : ∀ i, i < 64 → g i = (f i || decide (i = j))) : wdN f 64 ||| 2 ^ j = wdN g 64 := by
  apply Nat.eq_of_testBit_eq
  intro i
  rw [Nat.testBit_or, wdN_bit, wdN_bit, Nat.testBit_two_pow]
  by_cases hi : i < 64
  · rw [hg i hi]
    simp [hi]
    cases f i <;> simp [eq_comm]
  · simp [hi]
    omega
theorem wd_ext (f g : Nat → Bool) (h : ∀ i, i < 64 → f i = g i) : wdN f 64 = wdN g 64 := by
  apply Nat.eq_of_testBit_eq
  intro i
  rw [wdN_bit, wdN_bit]
  by_cases hi : i < 64
  · rw [h i hi]
  · simp [hi]
theorem tab_at : ∀ t : Fin 64, tab64.getD ((2 ^ t.val * 285870213051353865 % 18446744073709551616) / 288230376151711744) 0 = (t.val : Int) := by decide +kernel
end Go.Proofs.YtijndpjdmiljkaaGreatDoor
