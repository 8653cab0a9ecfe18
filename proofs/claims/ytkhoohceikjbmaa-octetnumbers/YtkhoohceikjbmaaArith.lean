/- Plain facts on numbers: masks of lowest bytes, the nearest number. -/
import Derived.Laws.BitsLemmas
import Derived.Laws.Bits64
namespace Go.Proofs.Ytkhoohceikjbmaa

theorem wraps_u64 (n : Int) (h₀ : 0 ≤ n) (h₁ : n < 2 ^ 64) : IntKind.u64.wrap n = n := by rw [IntKind.wrap_u64]; omega

theorem and_255 (a : Int) (h₀ : 0 ≤ a) (h₁ : a < 18446744073709551616) : bits .and .u64 a 255 = a % 256 :=
  bits_mask .u64 64 (by decide) wraps_u64 8 (by decide) a h₀ (by omega)
theorem and_65535 (a : Int) (h₀ : 0 ≤ a) (h₁ : a < 18446744073709551616) : bits .and .u64 a 65535 = a % 65536 :=
  bits_mask .u64 64 (by decide) wraps_u64 16 (by decide) a h₀ (by omega)
theorem and_16777215 (a : Int) (h₀ : 0 ≤ a) (h₁ : a < 18446744073709551616) : bits .and .u64 a 16777215 = a % 16777216 :=
  bits_mask .u64 64 (by decide) wraps_u64 24 (by decide) a h₀ (by omega)
theorem and_4294967295 (a : Int) (h₀ : 0 ≤ a) (h₁ : a < 18446744073709551616) : bits .and .u64 a 4294967295 = a % 4294967296 :=
  bits_mask .u64 64 (by decide) wraps_u64 32 (by decide) a h₀ (by omega)

def whTop (low p g : Int) : Int := max low (min (g + 1 + p / 2) 4611686018427387903)
def wh (low p g : Int) : Int := whTop low p g - (whTop low p g - low) % p

theorem wh_1 (a b c : Int) (h0 : 0 ≤ a) (h1 : a ≤ 4611686018427387903) (h4 : b ≤ c) (h5 : c < a) (h6 : a - b < 128) : wh (a % 256) 256 c = a := by
  unfold wh whTop; omega
theorem wh_2 (a b c : Int) (h0 : 0 ≤ a) (h1 : a ≤ 4611686018427387903) (h4 : b ≤ c) (h5 : c < a) (h6 : a - b < 32768) : wh (a % 65536) 65536 c = a := by
  unfold wh whTop; omega
theorem wh_3 (a b c : Int) (h0 : 0 ≤ a) (h1 : a ≤ 4611686018427387903) (h4 : b ≤ c) (h5 : c < a) (h6 : a - b < 8388608) : wh (a % 16777216) 16777216 c = a := by
  unfold wh whTop; omega
theorem wh_4 (a b c : Int) (h0 : 0 ≤ a) (h1 : a ≤ 4611686018427387903) (h4 : b ≤ c) (h5 : c < a) (h6 : a - b < 2147483648) : wh (a % 4294967296) 4294967296 c = a := by
  unfold wh whTop; omega

/-- the length of a packet's number, as octet.Short reckons it -/
def shN (d : Int) : Int := if d < 128 then 1 else if d < 32768 then 2 else if d < 8388608 then 3 else 4

theorem shN_cases (d : Int) : (shN d = 1 ∧ d < 128) ∨ (shN d = 2 ∧ d < 32768) ∨ (shN d = 3 ∧ d < 8388608) ∨ (shN d = 4) := by
  unfold shN
  by_cases h1 : d < 128
  · exact Or.inl ⟨if_pos h1, h1⟩
  · rw [if_neg h1]
    by_cases h2 : d < 32768
    · exact Or.inr (Or.inl ⟨if_pos h2, h2⟩)
    · rw [if_neg h2]
      by_cases h3 : d < 8388608
      · exact Or.inr (Or.inr (Or.inl ⟨if_pos h3, h3⟩))
      · exact Or.inr (Or.inr (Or.inr (if_neg h3)))

def wV (low p g : Int) : Int := if low < p ∧ -1 ≤ g ∧ g ≤ 4611686018427387903 then wh low p g else 0
def wE (low p g : Int) : Int := if low < p ∧ -1 ≤ g ∧ g ≤ 4611686018427387903 then 0 else 2

def sV (a b : Int) : Int := if 0 ≤ a ∧ a ≤ 4611686018427387903 ∧ -1 ≤ b ∧ b < a then shN (a - b) else 0
def sE (a b : Int) : Int := if 0 ≤ a ∧ a ≤ 4611686018427387903 ∧ -1 ≤ b ∧ b < a then 0 else 2
end Go.Proofs.Ytkhoohceikjbmaa
