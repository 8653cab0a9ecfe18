/- The names of numbers: mix, and back. -/
import Derived.Test.YtdklkofnekacdaaGreatDoorProg
namespace Go.Proofs.YtdklkofnekacdaaGreatDoor
set_option linter.unusedVariables false
/-- 2^64 -/
abbrev M64 : Nat := 18446744073709551616
def xs (k z : Nat) : Nat := z ^^^ (z >>> k)
def ux (k z : Nat) : Nat := z ^^^ (z >>> k) ^^^ (z >>> (2 * k))
theorem xs_lt {k z : Nat} (h : z < M64) : xs k z < M64 := by
  have h' : z < 2 ^ 64 := h
  exact Nat.xor_lt_two_pow (n := 64) h' (Nat.lt_of_le_of_lt (Nat.shiftRight_le _ _) h')
theorem ux_lt {k z : Nat} (h : z < M64) : ux k z < M64 := by
  have h' : z < 2 ^ 64 := h
  exact Nat.xor_lt_two_pow (n := 64) (Nat.xor_lt_two_pow (n := 64) h' (Nat.lt_of_le_of_lt (Nat.shiftRight_le _ _) h')) (Nat.lt_of_le_of_lt (Nat.shiftRight_le _ _) h')
theorem bit_hi {z i : Nat} (h : z < M64) (hi : 64 ≤ i) : z.testBit i = false :=
  Nat.testBit_lt_two_pow (Nat.lt_of_lt_of_le (show z < 2 ^ 64 from h) (Nat.pow_le_pow_right (by decide) hi))
theorem ux_xs {k z : Nat} (h : z < M64) (hk : 64 ≤ 3 * k) : ux k (xs k z) = z := by
  apply Nat.eq_of_testBit_eq
  intro i
  simp only [ux, xs, Nat.testBit_xor, Nat.testBit_shiftRight]
  have h3 : z.testBit (k + (2 * k + i)) = false := bit_hi h (by omega)
  have e : k + (k + i) = 2 * k + i := by omega
  rw [h3, e]
  cases z.testBit i <;> cases z.testBit (k + i) <;> cases z.testBit (2 * k + i) <;> rfl
theorem xs_ux {k z : Nat} (h : z < M64) (hk : 64 ≤ 3 * k) : xs k (ux k z) = z := by
  apply Nat.eq_of_testBit_eq
  intro i
  simp only [ux, xs, Nat.testBit_xor, Nat.testBit_shiftRight]
  have h3 : z.testBit (2 * k + (k + i)) = false := bit_hi h (by omega)
  have e : k + (k + i) = 2 * k + i := by omega
  rw [h3, e]
  cases z.testBit i <;> cases z.testBit (k + i) <;> cases z.testBit (2 * k + i) <;> rfl
theorem mul_back {c d z : Nat} (h : z < M64) (hc : c * d % M64 = 1) : (z * c % M64) * d % M64 = z := by
  rw [Nat.mod_mul_mod, Nat.mul_assoc, Nat.mul_mod, hc, Nat.mul_one, Nat.mod_mod]
  exact Nat.mod_eq_of_lt h
abbrev spread : Nat := 0x9e3779b97f4a7c15
abbrev gather : Nat := 0xf1de83e19937733d
abbrev stir : Nat := 0xbf58476d1ce4e5b9
abbrev unstir : Nat := 0x96de1b173f119089
abbrev blend : Nat := 0x94d049bb133111eb
abbrev unblend : Nat := 0x319642b2d24d8ec3
def mixN (x : Nat) : Nat := xs 31 (xs 27 (xs 30 ((x + 1) * spread % M64) * stir % M64) * blend % M64)
def unmixN (z : Nat) : Nat := (ux 30 (ux 27 (ux 31 z * unblend % M64) * unstir % M64) * gather % M64 + (M64 - 1)) % M64
theorem mod_lt64 (z : Nat) : z % M64 < M64 := Nat.mod_lt _ (by decide)
theorem mixN_lt (x : Nat) : mixN x < M64 := xs_lt (mod_lt64 _)
theorem unmixN_lt (x : Nat) : unmixN x < M64 := mod_lt64 _
theorem unmix_mix {x : Nat} (h : x < M64) : unmixN (mixN x) = x := by
  unfold unmixN mixN
  rw [ux_xs (mod_lt64 _) (by decide), mul_back (xs_lt (mod_lt64 _)) (by decide), ux_xs (mod_lt64 _) (by decide), mul_back (xs_lt (mod_lt64 _)) (by decide), ux_xs (mod_lt64 _) (by decide)]
  have e : (x + 1) * spread % M64 = ((x + 1) % M64) * spread % M64 := by rw [Nat.mod_mul_mod]
  rw [e, mul_back (mod_lt64 _) (by decide)]
  unfold M64 at *
  omega
theorem back1 {y : Nat} (h : y < M64) : ((y + (M64 - 1)) % M64 + 1) % M64 = y := by
  unfold M64 at *
  omega
theorem mix_unmix {z : Nat} (h : z < M64) : mixN (unmixN z) = z := by
  unfold mixN
  have e : (unmixN z + 1) * spread % M64 = ((unmixN z + 1) % M64) * spread % M64 := by rw [Nat.mod_mul_mod]
  have e2 : (unmixN z + 1) % M64 = ux 30 (ux 27 (ux 31 z * unblend % M64) * unstir % M64) * gather % M64 := by
    exact back1 (mod_lt64 _)
  rw [e, e2, mul_back (ux_lt (mod_lt64 _)) (by decide), xs_ux (mod_lt64 _) (by decide), mul_back (ux_lt (mod_lt64 _)) (by decide), xs_ux (mod_lt64 _) (by decide), mul_back (ux_lt h) (by decide), xs_ux h (by decide)]

/-- Eight bytes, the highest first. -/
def be8 (z : Nat) : List UInt8 := (List.range 8).map fun i => UInt8.ofNat (z >>> (8 * (7 - i)))
def val (b : List UInt8) : Nat := b.foldl (fun z x => z * 256 + x.toNat) 0
theorem be8_len (z : Nat) : (be8 z).length = 8 := by simp [be8]
theorem val_lt_aux (b : List UInt8) (z : Nat) : b.foldl (fun z x => z * 256 + x.toNat) z < (z + 1) * 256 ^ b.length := by
  induction b generalizing z with
  | nil => simp
  | cons x t ih =>
    rw [List.foldl_cons, List.length_cons, Nat.pow_succ]
    refine Nat.lt_of_lt_of_le (ih _) ?_
    have hx := x.toNat_lt
    have : (z * 256 + x.toNat + 1) ≤ (z + 1) * 256 := by omega
    calc (z * 256 + x.toNat + 1) * 256 ^ t.length ≤ ((z + 1) * 256) * 256 ^ t.length := Nat.mul_le_mul_right _ this
      _ = (z + 1) * (256 ^ t.length * 256) := by rw [Nat.mul_assoc, Nat.mul_comm 256]
theorem val_lt {b : List UInt8} (h : b.length = 8) : val b < M64 := by
  have := val_lt_aux b 0
  rw [h] at this
  simpa [val] using this
theorem val_be8 {z : Nat} (h : z < M64) : val (be8 z) = z := by
  simp only [be8, val, List.range, List.range.loop, List.map, List.foldl, UInt8.toNat_ofNat', Nat.shiftRight_eq_div_pow]
  simp only [Nat.reduceMul, Nat.reduceSub, Nat.reducePow]
  unfold M64 at h
  omega
theorem list8 {b : List UInt8} (h : b.length = 8) : ∃ a0 a1 a2 a3 a4 a5 a6 a7, b = [a0, a1, a2, a3, a4, a5, a6, a7] := by
  rcases b with _ | ⟨a0, _ | ⟨a1, _ | ⟨a2, _ | ⟨a3, _ | ⟨a4, _ | ⟨a5, _ | ⟨a6, _ | ⟨a7, _ | ⟨a8, t⟩⟩⟩⟩⟩⟩⟩⟩⟩ <;> simp at h
  exact ⟨a0, a1, a2, a3, a4, a5, a6, a7, rfl⟩
theorem be8_val {b : List UInt8} (h : b.length = 8) : be8 (val b) = b := by
  obtain ⟨a0, a1, a2, a3, a4, a5, a6, a7, rfl⟩ := list8 h
  have h0 := a0.toNat_lt
  have h1 := a1.toNat_lt
  have h2 := a2.toNat_lt
  have h3 := a3.toNat_lt
  have h4 := a4.toNat_lt
  have h5 := a5.toNat_lt
  have h6 := a6.toNat_lt
  have h7 := a7.toNat_lt
  simp only [be8, val, List.range, List.range.loop, List.map, List.foldl, Nat.shiftRight_eq_div_pow]
  simp only [Nat.reduceMul, Nat.reduceSub, Nat.reducePow]
  simp only [List.cons.injEq, and_true, ← UInt8.toNat_inj, UInt8.toNat_ofNat']
  refine ⟨?_, ?_, ?_, ?_, ?_, ?_, ?_, ?_⟩ <;> omega

/-- The name of a number. -/
def nameL (n : Nat) : List UInt8 := be8 (mixN (2 * n)) ++ be8 (mixN (2 * n + 1))
theorem nameL_len (n : Nat) : (nameL n).length = 16 := by simp [nameL, be8_len]
/-- Of which number it is the name. -/
def numL (h : List UInt8) : Option Nat :=
  if mixN ((unmixN (val (h.take 8)) + 1) % M64) = val (h.drop 8) ∧ unmixN (val (h.take 8)) % 2 = 0 then some (unmixN (val (h.take 8)) / 2) else none
theorem num_name {n : Nat} (h : n < 9223372036854775808) : numL (nameL n) = some n := by
  unfold numL nameL
  rw [List.take_left' (be8_len _), List.drop_left' (be8_len _), val_be8 (mixN_lt _), val_be8 (mixN_lt _), unmix_mix (by unfold M64; omega)]
  rw [Nat.mod_eq_of_lt (by unfold M64; omega), if_pos ⟨rfl, by omega⟩]
  congr 1
  omega
theorem name_num {h : List UInt8} {n : Nat} (hl : h.length = 16) (hn : numL h = some n) : h = nameL n ∧ n < 9223372036854775808 := by
  unfold numL at hn
  split at hn
  case isFalse => cases hn
  case isTrue hc =>
    obtain ⟨h1, h2⟩ := hc
    have ht : (h.take 8).length = 8 := by simp [hl]
    have hd : (h.drop 8).length = 8 := by simp [hl]
    have hv := val_lt ht
    have hu := unmixN_lt (val (h.take 8))
    have e : mixN (unmixN (val (h.take 8))) = val (h.take 8) := mix_unmix hv
    generalize hx : unmixN (val (h.take 8)) = x at *
    simp only [Option.some.injEq] at hn
    have h2n : 2 * n = x := by omega
    rw [Nat.mod_eq_of_lt (by unfold M64 at *; omega)] at h1
    refine ⟨?_, by unfold M64 at *; omega⟩
    unfold nameL
    rw [h2n, e, h1, be8_val ht, be8_val hd, List.take_append_drop]
theorem name_inj {m n : Nat} (hm : m < 9223372036854775808) (hn : n < 9223372036854775808) (h : nameL m = nameL n) : m = n := by
  have h1 := num_name hm
  rw [h, num_name hn] at h1
  simpa using h1.symm
theorem num_none {h : List UInt8} (hl : h.length = 16) (hn : numL h = none) {n : Nat} (hlt : n < 9223372036854775808) : h ≠ nameL n := by
  rintro rfl
  rw [num_name hlt] at hn
  cases hn
theorem name_ne_zero (n : Nat) (hn : n < 9223372036854775808) : nameL n ≠ List.replicate 16 0 := by
  intro h
  have h1 := num_name hn
  rw [h] at h1
  have : numL (List.replicate 16 0) = none := by decide +kernel
  rw [this] at h1
  cases h1
end Go.Proofs.YtdklkofnekacdaaGreatDoor
