/- cubic: the reference's Root; CubicRoots' walk. -/
import Derived.Test.YtphkgijimbkgeaaRo
namespace Go.Proofs.Ytphkgijimbkgeaa
open Go.RowKit
set_option linter.unusedVariables false

/-- Division by a number of at least 1 goes towards 0. -/
theorem td_in (n x : Int) (h : 1 ≤ x) : (0 ≤ n → 0 ≤ n.tdiv x ∧ n.tdiv x ≤ n) ∧ (n ≤ 0 → n ≤ n.tdiv x ∧ n.tdiv x ≤ 0) := by
  have key : ∀ m : Int, 0 ≤ m → 0 ≤ m.tdiv x ∧ m.tdiv x ≤ m := by
    intro m hm
    rw [Int.tdiv_eq_ediv_of_nonneg hm]
    exact ⟨Int.ediv_nonneg hm (by omega), Int.ediv_le_self x hm⟩
  refine ⟨key n, fun hn => ?_⟩
  have := key (-n) (by omega)
  rw [Int.neg_tdiv] at this
  omega
set_option maxRecDepth 100000 in
set_option maxHeartbeats 1000000 in
theorem rroot_c (n : Int) (hn0 : -9223372036854775808 ≤ n) (hn1 : n ≤ 9223372036854775807) (w : World) : Calls Try.prog 19 #[.int .i64 n] w fun e w' => e = .returned (.int .i64 (root n)) ∧ w' = w := by
  have HE : Aside (root n = rootF n 21 0) := rfl
  generalize root n = R at *
  go_enter Try.func19, Try.ntmps19
  go_wp2
  go_loopg [3, 4] 21 (fun kx s4 s5 wr => ∃ (k : Nat) (r : Int), s4 = .int .i64 r ∧ s5 = .int .i64 (bitv k) ∧ k ≤ kx ∧ 0 ≤ r ∧ r + 2 * bitv k ≤ 2097152 ∧ Aside (R = rootF n k r) ∧ wr = w)
  case atStart => exact ⟨21, 0, rfl, rfl, by omega, by omega, by decide, HE.out, rfl⟩
  case round =>
    obtain ⟨k, r, rfl, rfl, hk, hr0, hr1, HI, hw⟩ := hrel
    subst hw
    cases k with
    | zero =>
      have hz : bitv 0 = 0 := rfl
      rw [hz]
      have HF : Aside (R = r) := HI.out
      go_wp2
      go_ret
      exact ⟨by rw [HF.out]; rfl, rfl⟩
    | succ k =>
      have hp := bitv_pos k
      have hh := bitv_half k
      have hw2 : IntKind.i64.wrap (r + bitv (k + 1)) = r + bitv (k + 1) := wrp _ (by omega) (by omega)
      have hq := bitv_half k
      rw [Int.tdiv_eq_ediv_of_nonneg (by omega)] at hq
      have hw3 : IntKind.i64.wrap (bitv k) = bitv k := wrp _ (by omega) (by omega)
      have hcd := cube_div n (r + bitv (k + 1)) (by omega)
      have HN : Aside (R = rootF n k (if (r + bitv (k + 1)) * (r + bitv (k + 1)) * (r + bitv (k + 1)) ≤ n then r + bitv (k + 1) else r)) := HI.out
      have HX : Aside (bitv k * 2 ≤ bitv (k + 1)) := by show _ ≤ _; omega
      clear HI hq
      generalize bitv (k + 1) = B at *
      obtain ⟨B', HB'⟩ : ∃ B', Aside (bitv k = B') := ⟨_, rfl⟩
      have e' : bitv k = B' := HB'.out
      rw [e'] at hh hw3 HX
      clear e'
      obtain ⟨X, hX⟩ : ∃ X, r + B = X := ⟨_, rfl⟩
      rw [hX] at hw2 hcd HN
      have x1 : 1 ≤ X := by omega
      have x0 : X ≠ 0 := by omega
      have x2 : X + B ≤ 2097152 := by omega
      have x3 : r ≤ X := by omega
      have w4 : IntKind.i64.wrap (n.tdiv X) = n.tdiv X := by
        have g1 := td_in n X (by omega)
        exact wrp _ (by omega) (by omega)
      have w5 : IntKind.i64.wrap ((n.tdiv X).tdiv X) = (n.tdiv X).tdiv X := by
        have g1 := td_in n X (by omega)
        have g2 := td_in (n.tdiv X) X (by omega)
        exact wrp _ (by omega) (by omega)
      by_cases hcu : X * X * X ≤ n
      · rw [if_pos hcu] at HN
        have hcc := hcd.2 hcu
        clear hcu hcd
        go_wp2
        go_roundg k
        case measure => omega
        case rel => exact ⟨k, X, rfl, congrArg _ HB'.out.symm, by omega, by omega, by have := HX.out; have := HB'.out; omega, HN.out, rfl⟩
      · rw [if_neg hcu] at HN
        have hcc : ¬ X ≤ (n.tdiv X).tdiv X := fun h => hcu (hcd.1 h)
        clear hcu hcd
        go_wp2
        go_roundg k
        case measure => omega
        case rel => exact ⟨k, r, rfl, congrArg _ HB'.out.symm, by omega, by omega, by have := HX.out; have := HB'.out; omega, HN.out, rfl⟩
set_option maxRecDepth 100000 in
theorem roots_walk (n : Int) (hn0 : -9223372036854775808 ≤ n) (hn1 : n ≤ 9223372036854775807) (w : World) : Calls Try.prog 4 #[.int .i64 n] w fun e w' => e = .returned (.bool true) ∧ Below w.heap.size w w' := by
  have h1 := root_c n w
  have HR : Aside (∀ W, Calls Try.prog 19 #[.int .i64 n] W fun e w' => e = .returned (.int .i64 (root n)) ∧ w' = W) := fun W => rroot_c n hn0 hn1 W
  by_cases hn : n < 1
  · rw [root_zero n hn] at h1 HR
    go_enter Try.func4, Try.ntmps4
    go_wp2_with fail
    refine h1.mono ?_
    rintro e w1 ⟨rfl, hb⟩
    have HB : Aside _ := hb
    have h2 := HR.out w1
    clear hb h1
    go_wp2_with fail
    refine h2.mono ?_
    rintro e w2 ⟨rfl, hw⟩
    subst w2
    go_wp2
    go_ret
    exact ⟨rfl, HB.out⟩
  · have hr := root_pos n (by omega)
    have hn' : 1 ≤ n := by omega
    generalize root n = R at *
    go_enter Try.func4, Try.ntmps4
    go_wp2_with fail
    refine h1.mono ?_
    rintro e w1 ⟨rfl, hb⟩
    have HB : Aside _ := hb
    have h2 := HR.out w1
    clear hb h1
    go_wp2_with fail
    refine h2.mono ?_
    rintro e w2 ⟨rfl, hw⟩
    subst w2
    go_wp2
    go_ret
    exact ⟨rfl, HB.out⟩
theorem wf_i64 {x : Int} (h : (Lit.int .i64 x).wf = true) : -9223372036854775808 ≤ x ∧ x ≤ 9223372036854775807 := by
  simp only [Lit.wf, IntKind.min, IntKind.max, IntKind.signed, IntKind.bits, Bool.and_eq_true, decide_eq_true_eq, if_true] at h
  omega
end Go.Proofs.Ytphkgijimbkgeaa
