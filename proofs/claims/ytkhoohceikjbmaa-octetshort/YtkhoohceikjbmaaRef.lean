/- What the reference's Short and Whole answer, for every input: contracts. -/
import Derived.Test.YtkhoohceikjbmaaWhole
namespace Go.Proofs.Ytkhoohceikjbmaa
open Go.ChangeShapes Go.WideShapes Go.ChangeAt Go.RowKit
set_option linter.unusedVariables false

theorem names_any (w : World) : Calls Try.prog 9 #[] w fun e w' => e = .returned (.bool true) ∧ w' = w := by
  go_enter Try.func9, Try.ntmps9
  go_wp2
  go_ret
  exact ⟨rfl, rfl⟩

set_option maxRecDepth 10000 in
theorem rshort_yes (a b : Int) (w : World) (h0 : 0 ≤ a) (h1 : a ≤ 4611686018427387903) (h2 : -1 ≤ b) (h3 : b < a) :
    Calls Try.prog 6 #[.int .i64 a, .int .i64 b] w fun e w' => e = .returned (.tuple #[.int .i64 (shN (a - b)), .int .i64 0]) ∧ w' = w := by
  go_enter Try.func6, Try.ntmps6
  go_wp2
  go_loop [6] (fun i => ∃ k : Nat, 1 ≤ k ∧ k ≤ 4 ∧ i = .int .i64 k ∧ (2 ≤ k → 128 ≤ a - b) ∧ (3 ≤ k → 32768 ≤ a - b) ∧ (4 ≤ k → 8388608 ≤ a - b)) (fun i => 4 - (intOf i).toNat)
  case atStart => exact ⟨1, by omega, by omega, rfl, by omega, by omega, by omega⟩
  case round =>
    obtain ⟨k, hk0, hk, rfl, hk1, hk2, hk3⟩ := hrel
    have e7 : wrap64 (2 ^ 7) = 128 := by kernel_rfl
    have e15 : wrap64 (2 ^ 15) = 32768 := by kernel_rfl
    have e23 : wrap64 (2 ^ 23) = 8388608 := by kernel_rfl
    have hc : k = 1 ∨ k = 2 ∨ k = 3 ∨ k = 4 := by omega
    rcases hc with rfl | rfl | rfl | rfl
    · by_cases hd : a - b < 128
      · have HD : Hid (shN (a - b) = 1) := by unfold Hid shN; rw [if_pos hd]
        clear hk1 hk2 hk3
        go_wp2
        go_ret2
        exact ⟨ret_tup2 HD.out.symm, rfl⟩
      · clear hk1 hk2 hk3
        go_wp2
        go_round
        case rel => exact ⟨2, by omega, by omega, by go_num, by omega, by omega, by omega⟩
        case measure => simp [intOf]
    · have hd1 := hk1 (by omega)
      by_cases hd : a - b < 32768
      · have HD : Hid (shN (a - b) = 2) := by unfold Hid shN; rw [if_neg (by omega), if_pos hd]
        clear hk1 hk2 hk3
        go_wp2
        go_ret2
        exact ⟨ret_tup2 HD.out.symm, rfl⟩
      · clear hk1 hk2 hk3
        go_wp2
        go_round
        case rel => exact ⟨3, by omega, by omega, by go_num, by omega, by omega, by omega⟩
        case measure => simp [intOf]
    · have hd1 := hk1 (by omega)
      have hd2 := hk2 (by omega)
      by_cases hd : a - b < 8388608
      · have HD : Hid (shN (a - b) = 3) := by unfold Hid shN; rw [if_neg (by omega), if_neg (by omega), if_pos hd]
        clear hk1 hk2 hk3
        go_wp2
        go_ret2
        exact ⟨ret_tup2 HD.out.symm, rfl⟩
      · clear hk1 hk2 hk3
        go_wp2
        go_round
        case rel => exact ⟨4, by omega, by omega, by go_num, by omega, by omega, by omega⟩
        case measure => simp [intOf]
    · have hd1 := hk1 (by omega)
      have hd2 := hk2 (by omega)
      have hd3 := hk3 (by omega)
      have HD : Hid (shN (a - b) = 4) := by unfold Hid shN; rw [if_neg (by omega), if_neg (by omega), if_neg (by omega)]
      clear hk1 hk2 hk3
      go_wp2
      go_ret2
      exact ⟨ret_tup2 HD.out.symm, rfl⟩

theorem rshort_no (a b : Int) (w : World) (h : a < 0 ∨ 4611686018427387903 < a ∨ b < -1 ∨ a ≤ b) :
    Calls Try.prog 6 #[.int .i64 a, .int .i64 b] w fun e w' => e = .returned (.tuple #[.int .i64 0, .int .i64 2]) ∧ w' = w := by
  have hcs : a < 0 ∨ (0 ≤ a ∧ 4611686018427387903 < a) ∨ (0 ≤ a ∧ a ≤ 4611686018427387903 ∧ b < -1) ∨ (0 ≤ a ∧ a ≤ 4611686018427387903 ∧ -1 ≤ b ∧ a ≤ b) := by omega
  clear h
  rcases hcs with h | ⟨h, h'⟩ | ⟨h, h', h''⟩ | ⟨h, h', h'', h'''⟩
  all_goals
    go_enter Try.func6, Try.ntmps6
    go_wp2
    go_ret2
    exact ⟨rfl, rfl⟩

def wInv (P B W r k b f : Int) : Prop :=
  (k = -1 ∧ b = -1 ∧ f = 0) ∨
  (k = 0 ∧ ((0 ≤ B - P ∧ b = B - P ∧ f = W - (B - P)) ∨ (B - P < 0 ∧ b = -1 ∧ f = 0))) ∨
  (k = 1 ∧ ((B ≤ 4611686018427387903 ∧ (B - P < 0 ∨ 2 * (B - W) ≤ P) ∧ b = B ∧ f = B - W ∧ 0 ≤ B - W) ∨
    (B ≤ 4611686018427387903 ∧ (B - P < 0 ∨ 2 * (B - W) ≤ P) ∧ b = B ∧ f = W - B ∧ 0 < W - B) ∨
    (0 ≤ B - P ∧ (4611686018427387903 < B ∨ P < 2 * (B - W)) ∧ b = B - P ∧ f = W - (B - P)))) ∨
  (k = 2 ∧ b = r)

end Go.Proofs.Ytkhoohceikjbmaa
