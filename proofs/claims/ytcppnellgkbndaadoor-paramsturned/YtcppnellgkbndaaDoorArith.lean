/- Plain facts: bytes stand in the order of their numbers; masks. -/
import Derived.Test.YtcppnellgkbndaaDoorLay
import Derived.Laws.BitsLemmas
namespace Go.Proofs.YtcppnellgkbndaaDoor

theorem and_max (a : Int) : 0 ≤ bits .and .i64 a 4611686018427387903 ∧ bits .and .i64 a 4611686018427387903 ≤ 4611686018427387903 := by
  have h : (BitVec.ofInt 64 a &&& BitVec.ofInt 64 4611686018427387903).toNat ≤ 4611686018427387903 := by
    rw [BitVec.toNat_and]
    exact Nat.and_le_right
  have e : bits .and .i64 a 4611686018427387903 = IntKind.i64.wrap ((BitVec.ofInt 64 a &&& BitVec.ofInt 64 4611686018427387903).toNat : Int) := rfl
  rw [e, IntKind.wrap_i64]
  omega

theorem less_lex (P h1 h2 r1 r2 : Nat) (hr1 : r1 < P) (hr2 : r2 < P) : (h1 * P + r1 < h2 * P + r2) ↔ (h1 < h2 ∨ (h1 = h2 ∧ r1 < r2)) := by
  constructor
  · intro h
    rcases Nat.lt_trichotomy h1 h2 with hc | hc | hc
    · exact Or.inl hc
    · subst hc; exact Or.inr ⟨rfl, by omega⟩
    · exfalso
      have : (h2 + 1) * P ≤ h1 * P := Nat.mul_le_mul_right P hc
      rw [Nat.add_mul, Nat.one_mul] at this
      omega
  · rintro (hc | ⟨rfl, hc⟩)
    · have : (h1 + 1) * P ≤ h2 * P := Nat.mul_le_mul_right P hc
      rw [Nat.add_mul, Nat.one_mul] at this
      omega
    · omega

theorem be_less (x y : Nat) : ∀ k, Op.bytesLess (be k x) (be k y) = decide (x % 256 ^ k < y % 256 ^ k)
  | 0 => by simp [be, Op.bytesLess, Nat.mod_one]
  | k + 1 => by
    have hp : 0 < 256 ^ k := Nat.pow_pos (by decide)
    have ex : ∀ z : Nat, z % 256 ^ (k + 1) = (z / 256 ^ k % 256) * 256 ^ k + z % 256 ^ k := fun z => by
      rw [Nat.pow_succ, Nat.mod_mul, Nat.mul_comm (256 ^ k) (z / 256 ^ k % 256), Nat.add_comm]
    have eb : ∀ a b : Nat, (UInt8.ofNat a < UInt8.ofNat b) ↔ a % 256 < b % 256 := fun a b => by
      rw [UInt8.lt_iff_toNat_lt, UInt8.toNat_ofNat', UInt8.toNat_ofNat']
    have eq : ∀ a b : Nat, (UInt8.ofNat a = UInt8.ofNat b) ↔ a % 256 = b % 256 := fun a b => by
      rw [← UInt8.toNat_inj, UInt8.toNat_ofNat', UInt8.toNat_ofNat']
    show (decide (UInt8.ofNat (x / 256 ^ k) < UInt8.ofNat (y / 256 ^ k)) || (UInt8.ofNat (x / 256 ^ k) == UInt8.ofNat (y / 256 ^ k) && Op.bytesLess (be k x) (be k y))) = _
    rw [be_less x y k, ex x, ex y, Bool.eq_iff_iff]
    simp only [Bool.or_eq_true, Bool.and_eq_true, decide_eq_true_eq, beq_iff_eq, eb, eq]
    exact (less_lex _ _ _ _ _ (Nat.mod_lt _ hp) (Nat.mod_lt _ hp)).symm

theorem szN_mono (a b : Int) (h : a ≤ b) : szN a ≤ szN b := by
  unfold szN
  by_cases h1 : a < 64
  · rw [if_pos h1]
    by_cases g1 : b < 64
    · rw [if_pos g1]; decide
    · rw [if_neg g1]
      by_cases g2 : b < 16384
      · rw [if_pos g2]; decide
      · rw [if_neg g2]
        by_cases g3 : b < 1073741824
        · rw [if_pos g3]; decide
        · rw [if_neg g3]; decide
  · rw [if_neg h1, if_neg (show ¬ b < 64 by omega)]
    by_cases h2 : a < 16384
    · rw [if_pos h2]
      by_cases g2 : b < 16384
      · rw [if_pos g2]; decide
      · rw [if_neg g2]
        by_cases g3 : b < 1073741824
        · rw [if_pos g3]; decide
        · rw [if_neg g3]; decide
    · rw [if_neg h2, if_neg (show ¬ b < 16384 by omega)]
      by_cases h3 : a < 1073741824
      · rw [if_pos h3]
        by_cases g3 : b < 1073741824
        · rw [if_pos g3]; decide
        · rw [if_neg g3]; decide
      · rw [if_neg h3, if_neg (show ¬ b < 1073741824 by omega)]; decide

theorem wide_less (a b : Int) (h0 : 0 ≤ a) (h1 : a ≤ 4611686018427387903) (h2 : 0 ≤ b) (h3 : b ≤ 4611686018427387903) :
    Op.bytesLess (be 8 (13835058055282163712 + a).toNat) (be 8 (13835058055282163712 + b).toNat) = decide (a < b) := by
  rw [be_less, Bool.eq_iff_iff]
  have e : (256 : Nat) ^ 8 = 18446744073709551616 := by decide
  rw [e]
  simp only [decide_eq_true_eq]
  omega
end Go.Proofs.YtcppnellgkbndaaDoor
