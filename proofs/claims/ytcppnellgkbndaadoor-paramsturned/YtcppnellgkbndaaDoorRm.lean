/- params: the reference: numbers, which may be. -/
import Derived.Test.YtcppnellgkbndaaDoorMz
import Derived.Great.BuildSlice
import Derived.Great.FillDense
namespace Go.Proofs.YtcppnellgkbndaaDoor
open Go.ChangeShapes Go.WideShapes Go.ChangeAt Go.RowKit
set_option linter.unusedVariables false
set_option maxRecDepth 100000

theorem names_c (w : World) : Calls Tryd.prog 16 #[] w fun e w' => e = .returned (.bool true) ∧ w' = w := by
  go_enter Tryd.func16, Tryd.ntmps16
  go_wp2
  go_ret
  exact ⟨rfl, rfl⟩
theorem still_c (b : Bool) (w : World) : Calls Tryd.prog 25 #[.bool b] w fun e w' => e = .returned (.int .i64 (if b then 1 else 0)) ∧ w' = w := by
  cases b <;> {
    go_enter Tryd.func25, Tryd.ntmps25
    go_wp2
    go_ret
    exact ⟨rfl, rfl⟩ }
/-- Those whose value is a number. -/
def numsL : List Int := [1, 3, 4, 5, 6, 7, 8, 9, 10, 11, 14, 32]
/-- A number's value may be. -/
def mayR (k v : Int) : Bool := decide (0 ≤ v ∧ v ≤ 4611686018427387903) && (if k = 3 then decide (1200 ≤ v) else if k = 8 ∨ k = 9 then decide (v ≤ 1152921504606846976) else if k = 10 then decide (v ≤ 20) else if k = 11 then decide (v < 16384) else if k = 14 then decide (2 ≤ v) else true)
set_option maxHeartbeats 1000000 in
theorem may_c (k v : Int) (hk : k ∈ numsL) (w : World) : Calls Tryd.prog 30 #[.int .i64 k, .int .i64 v] w fun e w' => e = .returned (.bool (mayR k v)) ∧ w' = w := by
  simp only [numsL, List.mem_cons, List.not_mem_nil, or_false] at hk
  by_cases h0 : v < 0
  · have hm : mayR k v = false := by unfold mayR; rw [decide_eq_false (by omega), Bool.false_and]
    rw [hm]
    clear hk hm
    have hd : decide (v < 0) = true := decide_eq_true h0
    go_enter Tryd.func30, Tryd.ntmps30
    go_wp2
    go_ret
    exact ⟨rfl, rfl⟩
  · have hd : decide (v < 0) = false := decide_eq_false h0
    by_cases h1 : 4611686018427387903 < v
    · have hm : mayR k v = false := by unfold mayR; rw [decide_eq_false (by omega), Bool.false_and]
      rw [hm]
      clear hk hm
      have hd1 : decide (4611686018427387903 < v) = true := decide_eq_true h1
      go_enter Tryd.func30, Tryd.ntmps30
      go_wp2
      go_ret
      exact ⟨rfl, rfl⟩
    · have hd1 : decide (4611686018427387903 < v) = false := decide_eq_false h1
      have hb : decide (0 ≤ v ∧ v ≤ 4611686018427387903) = true := decide_eq_true (by omega)
      unfold mayR
      rw [hb, Bool.true_and]
      clear hb
      rcases hk with rfl | rfl | rfl | rfl | rfl | rfl | rfl | rfl | rfl | rfl | rfl | rfl
      all_goals
        go_enter Tryd.func30, Tryd.ntmps30
        go_wp2
        go_ret
        exact ⟨by simp, rfl⟩
def numsA : Array Value := #[.int .i64 1, .int .i64 3, .int .i64 4, .int .i64 5, .int .i64 6, .int .i64 7, .int .i64 8, .int .i64 9, .int .i64 10, .int .i64 11, .int .i64 14, .int .i64 32]
theorem numbers_c (w : World) : Calls Tryd.prog 29 #[] w fun e w' => e = .returned (.slice (some ⟨w.heap.size, 0, none⟩) 12 12) ∧ w' = w.alloc (.cells numsA 3) := by
  go_enter Tryd.func29, Tryd.ntmps29
  go_wp2
  go_ret
  exact ⟨rfl, rfl⟩
theorem nums_cell (w : World) (k : Nat) (h : k < numsL.length) : (w.alloc (.cells numsA 3)).cell? ⟨w.heap.size, k, none⟩ = some (.int .i64 numsL[k]) := by
  refine cell_new w _ 3 k _ ?_
  match k, h with
  | 0, _ => rfl
  | 1, _ => rfl
  | 2, _ => rfl
  | 3, _ => rfl
  | 4, _ => rfl
  | 5, _ => rfl
  | 6, _ => rfl
  | 7, _ => rfl
  | 8, _ => rfl
  | 9, _ => rfl
  | 10, _ => rfl
  | 11, _ => rfl
  | k + 12, h => exact absurd h (by simp [numsL])
end Go.Proofs.YtcppnellgkbndaaDoor
