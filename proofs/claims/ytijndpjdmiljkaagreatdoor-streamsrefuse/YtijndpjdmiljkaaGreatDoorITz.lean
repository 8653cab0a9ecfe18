/- math/bits.TrailingZeros64. -/
import Derived.Test.YtijndpjdmiljkaaGreatDoorINob
import Derived.Test.YtijndpjdmiljkaaGreatDoorIBits
namespace Go.Proofs.YtijndpjdmiljkaaGreatDoor
open Go.RowKit
set_option linter.unusedVariables false

theorem tz_zero (W : World) : Calls Tryz.prog 227 #[.int .u64 0] W fun e w' => e = .returned (.int .i64 64) ∧ w' = W := by
  go_enter Tryz.func227, Tryz.ntmps227
  go_wp2
  go_ret
  exact ⟨rfl, rfl⟩
set_option maxRecDepth 100000 in
theorem tz_walk (x p : Int) (i t : Nat) (W : World) (hx0 : ¬ x = 0) (he : bits .and .u64 x (IntKind.u64.wrap (-x)) = p) (hp : IntKind.u64.wrap (p * 285870213051353865) / 288230376151711744 = (i : Int)) (hi : (i : Int) < 64)
    (hc : W.cell? ⟨2, i, none⟩ = some (.int .u8 (t : Int))) (ht : t < 64) : Calls Tryz.prog 227 #[.int .u64 x] W fun e w' => e = .returned (.int .i64 t) ∧ w' = W := by
  have hi0 : (0 : Int) ≤ (i : Int) := by omega
  go_enter Tryz.func227, Tryz.ntmps227
  go_wp2
  go_ret
  exact ⟨by simp, rfl⟩
/-- How many flags are not set, from the lowest one on. -/
theorem tz_c (n t : Nat) (W : World) (hT : TbI W) (hn : n < 18446744073709551616) (ht : t ≤ 64) (h1 : ∀ i, i < t → n.testBit i = false) (h2 : t < 64 → n.testBit t = true) :
    Calls Tryz.prog 227 #[.int .u64 n] W fun e w' => e = .returned (.int .i64 t) ∧ w' = W := by
  by_cases h0 : n = 0
  · subst h0
    obtain rfl : t = 64 := by
      by_cases h : t < 64
      · have := h2 h; simp at this
      · omega
    exact tz_zero W
  · have ht' : t < 64 := by
      by_cases h : t < 64
      · exact h
      · exfalso
        apply h0
        apply Nat.eq_of_testBit_eq
        intro i
        by_cases hi : i < 64
        · rw [h1 i (by omega)]; simp
        · rw [Nat.testBit_lt_two_pow (Nat.lt_of_lt_of_le (by rw [two64]; exact hn) (Nat.pow_le_pow_right (by decide) (by omega : 64 ≤ i)))]; simp
    have hlow := low_bit (by omega) hn h1 (h2 ht') ht'
    have hneg : IntKind.u64.wrap (-(n : Int)) = ((18446744073709551616 - n : Nat) : Int) := by rw [wrap_u64]; omega
    have hand : bits .and .u64 (n : Int) (IntKind.u64.wrap (-(n : Int))) = ((2 ^ t : Nat) : Int) := by rw [hneg, bits_and _ _ hn (by omega), hlow]
    have htab := tab_at ⟨t, ht'⟩
    simp only at htab
    have hidx : IntKind.u64.wrap (((2 ^ t : Nat) : Int) * 285870213051353865) / 288230376151711744 = (((2 ^ t * 285870213051353865 % 18446744073709551616) / 288230376151711744 : Nat) : Int) := by
      rw [wrap_u64]
      omega
    have hlt : (2 ^ t * 285870213051353865 % 18446744073709551616) / 288230376151711744 < 64 := by
      have := Nat.mod_lt (2 ^ t * 285870213051353865) (show 0 < 18446744073709551616 by decide)
      omega
    exact tz_walk n _ _ t W (by omega) hand hidx (by omega) (by rw [hT _ hlt, htab]) ht'
end Go.Proofs.YtijndpjdmiljkaaGreatDoor
