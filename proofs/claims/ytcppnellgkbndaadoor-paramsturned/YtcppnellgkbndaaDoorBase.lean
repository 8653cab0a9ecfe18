/- What the small functions of octet answer, for every input: contracts. -/
import Derived.Test.YtcppnellgkbndaaDoorRows
import Derived.WalkKit
import Derived.ProofKit
import Derived.OpenShut
namespace Go.Proofs.YtcppnellgkbndaaDoor
open Go.ChangeShapes Go.WideShapes Go.ChangeAt Go.RowKit
set_option linter.unusedVariables false

/-- The table of widths as it lies. -/
def Tb (w : World) : Prop := w.cell? ⟨0, 0, none⟩ = some (.int .i64 1) ∧ w.cell? ⟨0, 1, none⟩ = some (.int .i64 2) ∧ w.cell? ⟨0, 2, none⟩ = some (.int .i64 4) ∧ w.cell? ⟨0, 3, none⟩ = some (.int .i64 8)

def fitB (v P : Int) : Bool := decide (0 ≤ v ∧ v < P)
theorem fitB_yes {v P : Int} (h : 0 ≤ v ∧ v < P) : fitB v P = true := decide_eq_true h
theorem fitB_no {v P : Int} (h : v < 0 ∨ P ≤ v) : fitB v P = false := decide_eq_false (by omega)
def mV (n : Int) : Int := if n = 1 then 0 else if n = 2 then 1 else if n = 4 then 2 else if n = 8 then 3 else 0
def mB (n : Int) : Bool := decide (n = 1 ∨ n = 2 ∨ n = 4 ∨ n = 8)
def szN (v : Int) : Int := if v < 64 then 1 else if v < 16384 then 2 else if v < 1073741824 then 4 else 8
theorem ret_bool {a b : Bool} (h : a = b) : Ending.returned (.bool a) = .returned (.bool b) := by rw [h]
theorem ret_ib {a a' : Int} {b b' : Bool} (h : a = a') (h' : b = b') : Ending.returned (.tuple #[.int .i64 a, .bool b]) = .returned (.tuple #[.int .i64 a', .bool b']) := by rw [h, h']
theorem ret_ii {a a' b b' : Int} (h : a = a') (h' : b = b') : Ending.returned (.tuple #[.int .i64 a, .int .i64 b]) = .returned (.tuple #[.int .i64 a', .int .i64 b']) := by rw [h, h']

theorem ix_0 (w : World) : Sem.run Tryd.prog (Instr.index 121 (.agg #[.int .i64 1, .int .i64 2, .int .i64 4, .int .i64 8]) (.int .i64 0)) w = .ok (.int .i64 1) w := by kernel_rfl
theorem ix_1 (w : World) : Sem.run Tryd.prog (Instr.index 121 (.agg #[.int .i64 1, .int .i64 2, .int .i64 4, .int .i64 8]) (.int .i64 1)) w = .ok (.int .i64 2) w := by kernel_rfl
theorem ix_2 (w : World) : Sem.run Tryd.prog (Instr.index 121 (.agg #[.int .i64 1, .int .i64 2, .int .i64 4, .int .i64 8]) (.int .i64 2)) w = .ok (.int .i64 4) w := by kernel_rfl
theorem ix_3 (w : World) : Sem.run Tryd.prog (Instr.index 121 (.agg #[.int .i64 1, .int .i64 2, .int .i64 4, .int .i64 8]) (.int .i64 3)) w = .ok (.int .i64 8) w := by kernel_rfl

theorem isVar_yes (v : Int) (w : World) (h0 : 0 ≤ v) (h1 : v ≤ 4611686018427387903) :
    Calls Tryd.prog 57 #[.int .i64 v] w fun e w' => e = .returned (.bool true) ∧ w' = w := by
  go_enter Tryd.func57, Tryd.ntmps57
  go_wp2
  go_ret
  exact ⟨rfl, rfl⟩

theorem isVar_no (v : Int) (w : World) (h : v < 0 ∨ 4611686018427387903 < v) :
    Calls Tryd.prog 57 #[.int .i64 v] w fun e w' => e = .returned (.bool false) ∧ w' = w := by
  rcases h with h | h
  · go_enter Tryd.func57, Tryd.ntmps57
    go_wp2
    go_ret
    exact ⟨rfl, rfl⟩
  · have h0 : 0 ≤ v := by omega
    have h1 : decide (v ≤ 4611686018427387903) = false := by simp; omega
    go_enter Tryd.func57, Tryd.ntmps57
    go_wp2
    go_ret
    exact ⟨by simp, rfl⟩

theorem room_any (n : Int) (w : World) (h0 : 0 ≤ n) (h1 : n ≤ 8) :
    Calls Tryd.prog 53 #[.int .i64 n] w fun e w' => e = .returned (.int .i64 (8 * n - 2)) ∧ w' = w := by
  go_enter Tryd.func53, Tryd.ntmps53
  go_wp2
  go_ret
  exact ⟨rfl, rfl⟩

theorem fits_1 (v : Int) (w : World) :
    Calls Tryd.prog 55 #[.int .i64 v, .int .i64 1] w fun e w' => e = .returned (.bool (fitB v 64)) ∧ w' = w := by
  go_enter Tryd.func55, Tryd.ntmps55
  go_wp2_with fail
  refine (room_any _ _ (by omega) (by omega)).mono ?_
  rintro e w' ⟨rfl, rfl⟩
  go_wp2
  go_ret
  exact ⟨ret_bool (by unfold fitB; rw [Bool.eq_iff_iff]; simp; omega), rfl⟩

theorem fits_2 (v : Int) (w : World) :
    Calls Tryd.prog 55 #[.int .i64 v, .int .i64 2] w fun e w' => e = .returned (.bool (fitB v 16384)) ∧ w' = w := by
  go_enter Tryd.func55, Tryd.ntmps55
  go_wp2_with fail
  refine (room_any _ _ (by omega) (by omega)).mono ?_
  rintro e w' ⟨rfl, rfl⟩
  go_wp2
  go_ret
  exact ⟨ret_bool (by unfold fitB; rw [Bool.eq_iff_iff]; simp; omega), rfl⟩

theorem fits_4 (v : Int) (w : World) :
    Calls Tryd.prog 55 #[.int .i64 v, .int .i64 4] w fun e w' => e = .returned (.bool (fitB v 1073741824)) ∧ w' = w := by
  go_enter Tryd.func55, Tryd.ntmps55
  go_wp2_with fail
  refine (room_any _ _ (by omega) (by omega)).mono ?_
  rintro e w' ⟨rfl, rfl⟩
  go_wp2
  go_ret
  exact ⟨ret_bool (by unfold fitB; rw [Bool.eq_iff_iff]; simp; omega), rfl⟩

theorem fits_8 (v : Int) (w : World) :
    Calls Tryd.prog 55 #[.int .i64 v, .int .i64 8] w fun e w' => e = .returned (.bool (fitB v 4611686018427387904)) ∧ w' = w := by
  go_enter Tryd.func55, Tryd.ntmps55
  go_wp2_with fail
  refine (room_any _ _ (by omega) (by omega)).mono ?_
  rintro e w' ⟨rfl, rfl⟩
  go_wp2
  go_ret
  exact ⟨ret_bool (by unfold fitB; rw [Bool.eq_iff_iff]; simp; omega), rfl⟩

set_option maxRecDepth 10000 in
theorem mark_any (n : Int) (w : World) (ht : Tb w) :
    Calls Tryd.prog 56 #[.int .i64 n] w fun e w' => e = .returned (.tuple #[.int .i64 (mV n), .bool (mB n)]) ∧ w' = w := by
  obtain ⟨t0, t1, t2, t3⟩ := ht
  go_enter Tryd.func56, Tryd.ntmps56
  go_wp2
  have x0 := ix_0
  have x1 := ix_1
  have x2 := ix_2
  have x3 := ix_3
  go_loop [7] (fun i => ∃ k : Nat, k ≤ 4 ∧ i = .int .i64 k ∧ (1 ≤ k → n ≠ 1) ∧ (2 ≤ k → n ≠ 2) ∧ (3 ≤ k → n ≠ 4) ∧ (4 ≤ k → n ≠ 8)) (fun i => 4 - (intOf i).toNat)
  case atStart => exact ⟨0, by omega, rfl, by omega, by omega, by omega, by omega⟩
  case round =>
    obtain ⟨k, hk, rfl, hk1, hk2, hk3, hk4⟩ := hrel
    have hc : k = 0 ∨ k = 1 ∨ k = 2 ∨ k = 3 ∨ k = 4 := by omega
    rcases hc with rfl | rfl | rfl | rfl | rfl
    · clear hk1 hk2 hk3 hk4 t0 t1 t2 t3
      by_cases hn : n = 1
      · subst hn
        go_wp2
        go_ret2
        exact ⟨ret_ib (by decide) (by decide), rfl⟩
      · go_wp2
        go_round
        case rel => exact ⟨1, by omega, by go_num, by omega, by omega, by omega, by omega⟩
        case measure => simp [intOf]
    · have n1 : n ≠ 1 := hk1 (by omega)
      clear hk1 hk2 hk3 hk4 t0 t1 t2 t3
      by_cases hn : n = 2
      · subst hn
        go_wp2
        go_ret2
        exact ⟨ret_ib (by decide) (by decide), rfl⟩
      · go_wp2
        go_round
        case rel => exact ⟨2, by omega, by go_num, by omega, by omega, by omega, by omega⟩
        case measure => simp [intOf]
    · have n1 : n ≠ 1 := hk1 (by omega)
      have n2 : n ≠ 2 := hk2 (by omega)
      clear hk1 hk2 hk3 hk4 t0 t1 t2 t3
      by_cases hn : n = 4
      · subst hn
        go_wp2
        go_ret2
        exact ⟨ret_ib (by decide) (by decide), rfl⟩
      · go_wp2
        go_round
        case rel => exact ⟨3, by omega, by go_num, by omega, by omega, by omega, by omega⟩
        case measure => simp [intOf]
    · have n1 : n ≠ 1 := hk1 (by omega)
      have n2 : n ≠ 2 := hk2 (by omega)
      have n4 : n ≠ 4 := hk3 (by omega)
      clear hk1 hk2 hk3 hk4 t0 t1 t2 t3
      by_cases hn : n = 8
      · subst hn
        go_wp2
        go_ret2
        exact ⟨ret_ib (by decide) (by decide), rfl⟩
      · go_wp2
        go_round
        case rel => exact ⟨4, by omega, by go_num, by omega, by omega, by omega, by omega⟩
        case measure => simp [intOf]
    · have n1 : n ≠ 1 := hk1 (by omega)
      have n2 : n ≠ 2 := hk2 (by omega)
      have n4 : n ≠ 4 := hk3 (by omega)
      have n8 : n ≠ 8 := hk4 (by omega)
      have HD : Hid (mV n = 0) := by unfold Hid mV; rw [if_neg n1, if_neg n2, if_neg n4, if_neg n8]
      have HB : Hid (mB n = false) := by unfold Hid mB; exact decide_eq_false (by omega)
      clear hk1 hk2 hk3 hk4 t0 t1 t2 t3 n1 n2 n4 n8
      go_wp2
      go_ret2
      exact ⟨ret_ib HD.out.symm HB.out.symm, rfl⟩

set_option maxRecDepth 10000 in
theorem size_yes (v : Int) (w : World) (ht : Tb w) (h0 : 0 ≤ v) (h1 : v ≤ 4611686018427387903) :
    Calls Tryd.prog 46 #[.int .i64 v] w fun e w' => e = .returned (.tuple #[.int .i64 (szN v), .int .i64 0]) ∧ w' = w := by
  obtain ⟨t0, t1, t2, t3⟩ := ht
  go_enter Tryd.func46, Tryd.ntmps46
  go_wp2
  have x0 := ix_0
  have x1 := ix_1
  have x2 := ix_2
  have x3 := ix_3
  go_loop [7] (fun i => ∃ k : Nat, k ≤ 3 ∧ i = .int .i64 k ∧ (1 ≤ k → 64 ≤ v) ∧ (2 ≤ k → 16384 ≤ v) ∧ (3 ≤ k → 1073741824 ≤ v)) (fun i => 4 - (intOf i).toNat)
  case atStart => exact ⟨0, by omega, rfl, by omega, by omega, by omega⟩
  case round =>
    obtain ⟨k, hk, rfl, hk1, hk2, hk3⟩ := hrel
    have hc : k = 0 ∨ k = 1 ∨ k = 2 ∨ k = 3 := by omega
    rcases hc with rfl | rfl | rfl | rfl
    · clear hk1 hk2 hk3 t0 t1 t2 t3
      by_cases hd : v < 64
      · have HD : Hid (szN v = 1) := by unfold Hid szN; rw [if_pos hd]
        have hf := fitB_yes (v := v) (P := 64) ⟨h0, hd⟩
        go_wp2_with fail
        refine (fits_1 _ _).mono ?_
        rintro e w' ⟨rfl, rfl⟩
        go_wp2
        go_ret2
        exact ⟨ret_ii HD.out.symm rfl, rfl⟩
      · have hf := fitB_no (v := v) (P := 64) (by omega)
        go_wp2_with fail
        refine (fits_1 _ _).mono ?_
        rintro e w' ⟨rfl, rfl⟩
        go_wp2
        go_round
        case rel => exact ⟨1, by omega, by go_num, by omega, by omega, by omega⟩
        case measure => simp [intOf]
    · have n1 := hk1 (by omega)
      clear hk1 hk2 hk3 t0 t1 t2 t3
      by_cases hd : v < 16384
      · have HD : Hid (szN v = 2) := by unfold Hid szN; rw [if_neg (by omega), if_pos hd]
        have hf := fitB_yes (v := v) (P := 16384) ⟨h0, hd⟩
        go_wp2_with fail
        refine (fits_2 _ _).mono ?_
        rintro e w' ⟨rfl, rfl⟩
        go_wp2
        go_ret2
        exact ⟨ret_ii HD.out.symm rfl, rfl⟩
      · have hf := fitB_no (v := v) (P := 16384) (by omega)
        go_wp2_with fail
        refine (fits_2 _ _).mono ?_
        rintro e w' ⟨rfl, rfl⟩
        go_wp2
        go_round
        case rel => exact ⟨2, by omega, by go_num, by omega, by omega, by omega⟩
        case measure => simp [intOf]
    · have n1 := hk1 (by omega)
      have n2 := hk2 (by omega)
      clear hk1 hk2 hk3 t0 t1 t2 t3
      by_cases hd : v < 1073741824
      · have HD : Hid (szN v = 4) := by unfold Hid szN; rw [if_neg (by omega), if_neg (by omega), if_pos hd]
        have hf := fitB_yes (v := v) (P := 1073741824) ⟨h0, hd⟩
        go_wp2_with fail
        refine (fits_4 _ _).mono ?_
        rintro e w' ⟨rfl, rfl⟩
        go_wp2
        go_ret2
        exact ⟨ret_ii HD.out.symm rfl, rfl⟩
      · have hf := fitB_no (v := v) (P := 1073741824) (by omega)
        go_wp2_with fail
        refine (fits_4 _ _).mono ?_
        rintro e w' ⟨rfl, rfl⟩
        go_wp2
        go_round
        case rel => exact ⟨3, by omega, by go_num, by omega, by omega, by omega⟩
        case measure => simp [intOf]
    · have n1 := hk1 (by omega)
      have n2 := hk2 (by omega)
      have n3 := hk3 (by omega)
      clear hk1 hk2 hk3 t0 t1 t2 t3
      have HD : Hid (szN v = 8) := by unfold Hid szN; rw [if_neg (by omega), if_neg (by omega), if_neg (by omega)]
      have hf := fitB_yes (v := v) (P := 4611686018427387904) (by omega)
      go_wp2_with fail
      refine (fits_8 _ _).mono ?_
      rintro e w' ⟨rfl, rfl⟩
      go_wp2
      go_ret2
      exact ⟨ret_ii HD.out.symm rfl, rfl⟩

set_option maxRecDepth 10000 in
theorem size_no (v : Int) (w : World) (ht : Tb w) (h : v < 0 ∨ 4611686018427387903 < v) :
    Calls Tryd.prog 46 #[.int .i64 v] w fun e w' => e = .returned (.tuple #[.int .i64 0, .int .i64 2]) ∧ w' = w := by
  obtain ⟨t0, t1, t2, t3⟩ := ht
  have f1 := fitB_no (v := v) (P := 64) (by omega)
  have f2 := fitB_no (v := v) (P := 16384) (by omega)
  have f4 := fitB_no (v := v) (P := 1073741824) (by omega)
  have f8 := fitB_no (v := v) (P := 4611686018427387904) (by omega)
  clear h
  go_enter Tryd.func46, Tryd.ntmps46
  go_wp2
  have x0 := ix_0
  have x1 := ix_1
  have x2 := ix_2
  have x3 := ix_3
  go_loop [7] (fun i => ∃ k : Nat, k ≤ 4 ∧ i = .int .i64 k) (fun i => 4 - (intOf i).toNat)
  case atStart => exact ⟨0, by omega, rfl⟩
  case round =>
    obtain ⟨k, hk, rfl⟩ := hrel
    have hc : k = 0 ∨ k = 1 ∨ k = 2 ∨ k = 3 ∨ k = 4 := by omega
    clear t0 t1 t2 t3
    rcases hc with rfl | rfl | rfl | rfl | rfl
    · go_wp2_with fail
      refine (fits_1 _ _).mono ?_
      rintro e w' ⟨rfl, rfl⟩
      go_wp2
      go_round
      case rel => exact ⟨1, by omega, by go_num⟩
      case measure => simp [intOf]
    · go_wp2_with fail
      refine (fits_2 _ _).mono ?_
      rintro e w' ⟨rfl, rfl⟩
      go_wp2
      go_round
      case rel => exact ⟨2, by omega, by go_num⟩
      case measure => simp [intOf]
    · go_wp2_with fail
      refine (fits_4 _ _).mono ?_
      rintro e w' ⟨rfl, rfl⟩
      go_wp2
      go_round
      case rel => exact ⟨3, by omega, by go_num⟩
      case measure => simp [intOf]
    · go_wp2_with fail
      refine (fits_8 _ _).mono ?_
      rintro e w' ⟨rfl, rfl⟩
      go_wp2
      go_round
      case rel => exact ⟨4, by omega, by go_num⟩
      case measure => simp [intOf]
    · go_wp2
      go_ret2
      exact ⟨rfl, rfl⟩
end Go.Proofs.YtcppnellgkbndaaDoor
