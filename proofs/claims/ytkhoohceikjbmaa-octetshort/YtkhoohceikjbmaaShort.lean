/- What octet.Short answers, for every input: contracts. -/
import Derived.Test.YtkhoohceikjbmaaRows
import Derived.Test.YtkhoohceikjbmaaArith
import Derived.WalkKit
import Derived.ProofKit
import Derived.OpenShut
namespace Go.Proofs.Ytkhoohceikjbmaa
open Go.ChangeShapes Go.WideShapes Go.ChangeAt Go.RowKit
set_option linter.unusedVariables false

theorem isVar_yes (v : Int) (w : World) (h0 : 0 ≤ v) (h1 : v ≤ 4611686018427387903) :
    Calls Try.prog 10 #[.int .i64 v] w fun e w' => e = .returned (.bool true) ∧ w' = w := by
  go_enter Try.func10, Try.ntmps10
  go_wp2
  go_ret
  exact ⟨rfl, rfl⟩

theorem isVar_no (v : Int) (w : World) (h : v < 0 ∨ 4611686018427387903 < v) :
    Calls Try.prog 10 #[.int .i64 v] w fun e w' => e = .returned (.bool false) ∧ w' = w := by
  rcases h with h | h
  · go_enter Try.func10, Try.ntmps10
    go_wp2
    go_ret
    exact ⟨rfl, rfl⟩
  · have h0 : 0 ≤ v := by omega
    have h1 : decide (v ≤ 4611686018427387903) = false := by simp; omega
    go_enter Try.func10, Try.ntmps10
    go_wp2
    go_ret
    exact ⟨by simp, rfl⟩

theorem ret_tup2 {a a' : Int} (h : a = a') : Ending.returned (.tuple #[.int .i64 a, .int .i64 0]) = .returned (.tuple #[.int .i64 a', .int .i64 0]) := by rw [h]

set_option maxRecDepth 10000 in
theorem short_yes (a b : Int) (w : World) (h0 : 0 ≤ a) (h1 : a ≤ 4611686018427387903) (h2 : -1 ≤ b) (h3 : b < a) :
    Calls Try.prog 5 #[.int .i64 a, .int .i64 b] w fun e w' => e = .returned (.tuple #[.int .i64 (shN (a - b)), .int .i64 0]) ∧ w' = w := by
  go_enter Try.func5, Try.ntmps5
  go_wp2_with (go_at_call 10; refine (isVar_yes _ _ h0 h1).mono ?_; rintro e w' ⟨rfl, rfl⟩)
  go_loop [24] (fun i => ∃ k : Nat, k ≤ 3 ∧ i = .int .i64 k ∧ (1 ≤ k → 128 ≤ a - b) ∧ (2 ≤ k → 32768 ≤ a - b) ∧ (3 ≤ k → 8388608 ≤ a - b)) (fun i => 3 - (intOf i).toNat)
  case atStart => exact ⟨0, by omega, rfl, by omega, by omega, by omega⟩
  case round =>
    obtain ⟨k, hk, rfl, hk1, hk2, hk3⟩ := hrel
    have e7 : wrap64 (2 ^ 7) = 128 := by kernel_rfl
    have e15 : wrap64 (2 ^ 15) = 32768 := by kernel_rfl
    have e23 : wrap64 (2 ^ 23) = 8388608 := by kernel_rfl
    have hc : k = 0 ∨ k = 1 ∨ k = 2 ∨ k = 3 := by omega
    rcases hc with rfl | rfl | rfl | rfl
    · by_cases hd : a - b < 128
      · have HD : Hid (shN (a - b) = 1) := by unfold Hid shN; rw [if_pos hd]
        clear hk1 hk2 hk3
        go_wp2
        go_ret2
        exact ⟨ret_tup2 HD.out.symm, rfl⟩
      · clear hk1 hk2 hk3
        go_wp2
        go_round
        case rel => exact ⟨1, by omega, by go_num, by omega, by omega, by omega⟩
        case measure => simp [intOf]
    · have hd1 := hk1 (by omega)
      by_cases hd : a - b < 32768
      · have HD : Hid (shN (a - b) = 2) := by unfold Hid shN; rw [if_neg (by omega), if_pos hd]
        clear hk1 hk2 hk3
        go_wp2
        go_ret2
        exact ⟨ret_tup2 HD.out.symm, rfl⟩
      · clear hk1 hk2 hk3
        go_wp2
        go_round
        case rel => exact ⟨2, by omega, by go_num, by omega, by omega, by omega⟩
        case measure => simp [intOf]
    · have hd1 := hk1 (by omega)
      have hd2 := hk2 (by omega)
      by_cases hd : a - b < 8388608
      · have HD : Hid (shN (a - b) = 3) := by unfold Hid shN; rw [if_neg (by omega), if_neg (by omega), if_pos hd]
        clear hk1 hk2 hk3
        go_wp2
        go_ret2
        exact ⟨ret_tup2 HD.out.symm, rfl⟩
      · clear hk1 hk2 hk3
        go_wp2
        go_round
        case rel => exact ⟨3, by omega, by go_num, by omega, by omega, by omega⟩
        case measure => simp [intOf]
    · have hd1 := hk1 (by omega)
      have hd2 := hk2 (by omega)
      have hd3 := hk3 (by omega)
      have HD : Hid (shN (a - b) = 4) := by unfold Hid shN; rw [if_neg (by omega), if_neg (by omega), if_neg (by omega)]
      clear hk1 hk2 hk3
      go_wp2
      go_ret2
      exact ⟨ret_tup2 HD.out.symm, rfl⟩

theorem short_no (a b : Int) (w : World) (h : a < 0 ∨ 4611686018427387903 < a ∨ b < -1 ∨ a ≤ b) :
    Calls Try.prog 5 #[.int .i64 a, .int .i64 b] w fun e w' => e = .returned (.tuple #[.int .i64 0, .int .i64 2]) ∧ w' = w := by
  by_cases hv : a < 0 ∨ 4611686018427387903 < a
  · go_enter Try.func5, Try.ntmps5
    go_wp2_with (go_at_call 10; refine (isVar_no _ _ hv).mono ?_; rintro e w' ⟨rfl, rfl⟩)
    go_ret2
    exact ⟨rfl, rfl⟩
  · have h0 : 0 ≤ a := by omega
    have h1 : a ≤ 4611686018427387903 := by omega
    by_cases hb : b < -1
    · clear h hv
      go_enter Try.func5, Try.ntmps5
      go_wp2_with (go_at_call 10; refine (isVar_yes _ _ h0 h1).mono ?_; rintro e w' ⟨rfl, rfl⟩)
      go_ret2
      exact ⟨rfl, rfl⟩
    · have hb' : -1 ≤ b := by omega
      have hab : a ≤ b := by omega
      clear h hv hb
      go_enter Try.func5, Try.ntmps5
      go_wp2_with (go_at_call 10; refine (isVar_yes _ _ h0 h1).mono ?_; rintro e w' ⟨rfl, rfl⟩)
      go_ret2
      exact ⟨rfl, rfl⟩
end Go.Proofs.Ytkhoohceikjbmaa
