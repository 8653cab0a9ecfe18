/- cubic: Root, the program's and the reference's. -/
import Derived.Test.YtphkgijimbkgeaaNob
import Derived.LoopTactic
namespace Go.Proofs.Ytphkgijimbkgeaa
open Go.RowKit
set_option linter.unusedVariables false

theorem wrp (x : Int) (h0 : -9223372036854775808 ≤ x) (h1 : x ≤ 9223372036854775807) : IntKind.i64.wrap x = x := by rw [IntKind.wrap_i64]; omega
/-- The bits of a root, from the greatest on. -/
def bitv : Nat → Int
  | 0 => 0
  | k + 1 => 2 ^ k
theorem bitv_half (k : Nat) : (bitv (k + 1)).tdiv 2 = bitv k := by
  cases k with
  | zero => decide
  | succ k =>
    show ((2 : Int) ^ (k + 1)).tdiv 2 = 2 ^ k
    rw [Int.pow_succ, Int.mul_tdiv_cancel _ (by decide)]
theorem bitv_pos (k : Nat) : 0 < bitv (k + 1) := by
  show (0 : Int) < 2 ^ k
  exact Int.pow_pos (by decide)
/-- A root, bit by bit. -/
def rootF (n : Int) : Nat → Int → Int
  | 0, r => r
  | k + 1, r => rootF n k (if (r + bitv (k + 1)) * (r + bitv (k + 1)) * (r + bitv (k + 1)) ≤ n then r + bitv (k + 1) else r)
def root (n : Int) : Int := rootF n 21 0
theorem cube_le (x : Int) (h0 : 0 ≤ x) (h1 : x ≤ 2097151) : 0 ≤ x * x ∧ x * x ≤ 4398042316801 ∧ 0 ≤ x * x * x ∧ x * x * x ≤ 9223358842721533951 := by
  have a0 : 0 ≤ x * x := Int.mul_nonneg h0 h0
  have a1 : x * x ≤ 2097151 * 2097151 := Int.mul_le_mul h1 h1 h0 (by decide)
  have b0 : 0 ≤ x * x * x := Int.mul_nonneg a0 h0
  have b1 : x * x * x ≤ 2097151 * 2097151 * 2097151 := Int.mul_le_mul a1 h1 h0 (by decide)
  refine ⟨a0, by omega, b0, by omega⟩
/-- The reference's test is the same. -/
theorem cube_div (n x : Int) (h : 1 ≤ x) : x ≤ (n.tdiv x).tdiv x ↔ x * x * x ≤ n := by
  by_cases hn : 0 ≤ n
  · rw [Int.tdiv_eq_ediv_of_nonneg hn, Int.tdiv_eq_ediv_of_nonneg (Int.ediv_nonneg hn (by omega)), Int.ediv_ediv_of_nonneg (by omega), Int.le_ediv_iff_mul_le (Int.mul_pos (by omega) (by omega)), Int.mul_assoc]
  · have h1 : n.tdiv x ≤ 0 := by
      have := Int.tdiv_nonneg (a := -n) (b := x) (by omega) (by omega)
      rw [Int.neg_tdiv] at this
      omega
    have h2 : (n.tdiv x).tdiv x ≤ 0 := by
      have := Int.tdiv_nonneg (a := -(n.tdiv x)) (b := x) (by omega) (by omega)
      rw [Int.neg_tdiv] at this
      omega
    have h3 : 0 < x * x * x := Int.mul_pos (Int.mul_pos (by omega) (by omega)) (by omega)
    omega
theorem rootF_le (n : Int) (k : Nat) (r : Int) (h : r + 2 * bitv k ≤ 2097152) (h1 : r ≤ 2097151) : r ≤ rootF n k r ∧ rootF n k r ≤ 2097151 := by
  induction k generalizing r with
  | zero => exact ⟨Int.le_refl _, h1⟩
  | succ k ih =>
    have hp := bitv_pos k
    have hh := bitv_half k
    rw [Int.tdiv_eq_ediv_of_nonneg (by omega)] at hh
    unfold rootF
    split
    · obtain ⟨a, b⟩ := ih (r + bitv (k + 1)) (by omega) (by omega)
      exact ⟨by omega, b⟩
    · exact ih r (by omega) h1
theorem root_le (n : Int) : 0 ≤ root n ∧ root n ≤ 2097151 := rootF_le n 21 0 (by decide) (by decide)
theorem rootF_pos (n : Int) (hn : 1 ≤ n) (k : Nat) (r : Int) (hr : 0 ≤ r) (h : r + 2 * bitv (k + 1) ≤ 2097152) : 1 ≤ rootF n (k + 1) r := by
  induction k generalizing r with
  | zero =>
    have e1 : bitv (0 + 1) = 1 := by decide
    simp only [rootF, e1]
    by_cases h0 : r = 0
    · subst h0
      rw [if_pos (by omega)]
      omega
    · split <;> omega
  | succ k ih =>
    have hp := bitv_pos (k + 1)
    have hh := bitv_half (k + 1)
    rw [Int.tdiv_eq_ediv_of_nonneg (by omega)] at hh
    unfold rootF
    refine ih _ (by split <;> omega) (by split <;> omega)
theorem rootF_zero (n : Int) (hn : n < 1) (k : Nat) (r : Int) (hr : 0 ≤ r) : rootF n k r = r := by
  induction k with
  | zero => rfl
  | succ k ih =>
    have hp := bitv_pos k
    have hc : ¬ (r + bitv (k + 1)) * (r + bitv (k + 1)) * (r + bitv (k + 1)) ≤ n := by
      have : 0 < (r + bitv (k + 1)) * (r + bitv (k + 1)) * (r + bitv (k + 1)) := Int.mul_pos (Int.mul_pos (by omega) (by omega)) (by omega)
      omega
    unfold rootF
    rw [if_neg hc, ih]
theorem root_zero (n : Int) (hn : n < 1) : root n = 0 := rootF_zero n hn 21 0 (by decide)
theorem root_pos (n : Int) (hn : 1 ≤ n) : 1 ≤ root n := rootF_pos n hn 20 0 (by decide) (by decide)

set_option maxRecDepth 100000 in
/-- The closure of Root. -/
theorem fits_c (n x : Int) (b : Nat) (w : World) (h : w.cell? ⟨b, 0, none⟩ = some (.int .i64 n)) (h0 : 0 ≤ x) (h1 : x ≤ 2097151) : Calls Try.prog 28 #[.int .i64 x, .pointer (some ⟨b, 0, none⟩)] w fun e w' => e = .returned (.bool (decide (x * x * x ≤ n))) ∧ w' = w := by
  obtain ⟨a0, a1, b0, b1⟩ := cube_le x h0 h1
  have i1 : IntKind.i64.wrap (x * x) = x * x := wrp _ (by omega) (by omega)
  have i2 : IntKind.i64.wrap (x * x * x) = x * x * x := wrp _ (by omega) (by omega)
  go_enter Try.func28, Try.ntmps28
  go_wp2
  go_ret
  exact ⟨rfl, rfl⟩

set_option maxRecDepth 100000 in
set_option maxHeartbeats 1000000 in
theorem root_c (n : Int) (w : World) : Calls Try.prog 18 #[.int .i64 n] w fun e w' => e = .returned (.int .i64 (root n)) ∧ Below w.heap.size w w' := by
  have hmf : ∀ (fn : Fn) (first cap : Array Value) (w : World), (Instr.makeFunc fn first cap).run Try.prog w = .ok (.func fn first cap) w := fun _ _ _ _ => rfl
  obtain ⟨W0, hW0⟩ : ∃ W0, w.alloc (.cells #[.int .i64 n] 3) = W0 := ⟨_, rfl⟩
  have hc : W0.cell? ⟨w.heap.size, 0, none⟩ = some (.int .i64 n) := by rw [← hW0]; simp [go_sem]
  have HB : Aside (Below w.heap.size w W0) := by rw [← hW0]; exact bel1 w _
  have HC : Aside _ := hc
  have HE : Aside (root n = rootF n 21 0) := rfl
  generalize root n = R at *
  clear hc
  go_enter Try.func18, Try.ntmps18
  go_wp2
  try rw [hW0]
  clear hW0
  go_loopg [4, 5] 21 (fun kx s4 s5 wr => ∃ (k : Nat) (r : Int), s4 = .int .i64 r ∧ s5 = .int .i64 (bitv k) ∧ k ≤ kx ∧ 0 ≤ r ∧ r + 2 * bitv k ≤ 2097152 ∧ Aside (R = rootF n k r) ∧ wr = W0)
  case atStart => exact ⟨21, 0, rfl, rfl, by omega, by omega, by decide, HE.out, rfl⟩
  case round =>
    obtain ⟨k, r, rfl, rfl, hk, hr0, hr1, HI, hw⟩ := hrel
    subst hw
    cases k with
    | zero =>
      have hz : bitv 0 = 0 := rfl
      rw [hz]
      have HF : Aside (R = r) := HI.out
      go_wp2
      go_ret
      exact ⟨by rw [HF.out]; rfl, HB.out⟩
    | succ k =>
      have hp := bitv_pos k
      have hh := bitv_half k
      have hw2 : IntKind.i64.wrap (r + bitv (k + 1)) = r + bitv (k + 1) := wrp _ (by omega) (by omega)
      have hq := bitv_half k
      rw [Int.tdiv_eq_ediv_of_nonneg (by omega)] at hq
      have hw3 : IntKind.i64.wrap (bitv k) = bitv k := wrp _ (by omega) (by omega)
      have hfit := fits_c n (r + bitv (k + 1)) _ _ HC.out (by omega) (by omega)
      have HN : Aside (R = rootF n k (if (r + bitv (k + 1)) * (r + bitv (k + 1)) * (r + bitv (k + 1)) ≤ n then r + bitv (k + 1) else r)) := HI.out
      have HX : Aside (bitv k * 2 ≤ bitv (k + 1)) := by show _ ≤ _; omega
      clear HI hq
      generalize bitv (k + 1) = B at *
      obtain ⟨B', HB'⟩ : ∃ B', Aside (bitv k = B') := ⟨_, rfl⟩
      have e' : bitv k = B' := HB'.out
      rw [e'] at hh hw3 HX
      clear e'
      by_cases hcu : (r + B) * (r + B) * (r + B) ≤ n
      · rw [decide_eq_true hcu] at hfit
        rw [if_pos hcu] at HN
        clear hcu
        go_wp2_with fail
        refine hfit.mono ?_
        rintro e w' ⟨rfl, hw'⟩
        subst w'
        clear hfit
        go_wp2
        go_roundg k
        case measure => omega
        case rel => exact ⟨k, r + B, rfl, congrArg _ HB'.out.symm, by omega, by omega, by have := HX.out; have := HB'.out; omega, HN.out, rfl⟩
      · rw [decide_eq_false hcu] at hfit
        rw [if_neg hcu] at HN
        clear hcu
        go_wp2_with fail
        refine hfit.mono ?_
        rintro e w' ⟨rfl, hw'⟩
        subst w'
        clear hfit
        go_wp2
        go_roundg k
        case measure => omega
        case rel => exact ⟨k, r, rfl, congrArg _ HB'.out.symm, by omega, by omega, by have := HX.out; have := HB'.out; omega, HN.out, rfl⟩
end Go.Proofs.Ytphkgijimbkgeaa
