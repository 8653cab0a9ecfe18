/- rtt's reference: New, Wait, Late. -/
import Derived.Test.YthjfhckpgindfaaSb
import Derived.LoopTactic
namespace Go.Proofs.Ythjfhckpgindfaa
open Go.RowKit
set_option linter.unusedVariables false

set_option maxRecDepth 100000 in
theorem rnew_no (m : Int) (w : World) (h : m < 0 ∨ 1125899906842624 < m) : Calls Try.prog 8 #[.int .i64 m] w fun e w' => e = .returned (.tuple #[.pointer none, .int .i64 2]) ∧ w' = w := by
  by_cases h0 : m < 0
  · go_enter Try.func8, Try.ntmps8
    go_wp2
    go_ret2
    exact ⟨rfl, rfl⟩
  · have h1 : 1125899906842624 < m := by omega
    go_enter Try.func8, Try.ntmps8
    go_wp2
    go_ret2
    exact ⟨rfl, rfl⟩
set_option maxRecDepth 100000 in
theorem rnew_c (m : Int) (w : World) (h0 : 0 ≤ m) (h1 : m ≤ 1125899906842624) : Calls Try.prog 8 #[.int .i64 m] w fun e w' => e = .returned (.tuple #[.pointer (some ⟨w.heap.size, 0, none⟩), .int .i64 0]) ∧ Rt 34 w' w.heap.size (rv0 m) ∧ Below w.heap.size w w' := by
  have n0 : ¬ m < 0 := by omega
  have n1 : ¬ 1125899906842624 < m := by omega
  go_enter Try.func8, Try.ntmps8
  go_wp2
  go_ret2
  exact ⟨rfl, heap_alloc_new w _, bel1 w _⟩
set_option maxRecDepth 100000 in
theorem rlate_c (b : Nat) (v : Rv) (w : World) (h : Rt 34 w b v) (ho : v.ok) : Calls Try.prog 14 #[.pointer (some ⟨b, 0, none⟩)] w fun e w' => e = .returned (.int .i64 v.late) ∧ w' = w := by
  obtain ⟨c0, c1, c2, c3, c4, c5⟩ := h.cells
  obtain ⟨m0, m1, a0, a1, l0, l1, s0, s1, y0, y1, al⟩ := ho
  obtain ⟨M, hM⟩ : ∃ M, max v.s v.a = M := ⟨_, rfl⟩
  have i2 : IntKind.i64.wrap (9 * M) = 9 * M := wrp _ (by omega) (by omega)
  have i3 : (9 * M).tdiv 8 = 9 * M / 8 := Int.tdiv_eq_ediv_of_nonneg (by omega)
  have i4 : IntKind.i64.wrap (9 * M / 8) = 9 * M / 8 := wrp _ (by omega) (by omega)
  have HL : Aside (v.late = max (9 * M / 8) 1000) := by show v.late = _; unfold Rv.late; rw [hM]
  have hd : v.s < v.a ∧ v.a = M ∨ ¬ v.s < v.a ∧ v.s = M := by omega
  clear h hM
  rcases hd with ⟨d, e⟩ | ⟨d, e⟩ <;> by_cases d2 : 9 * M / 8 < 1000
  all_goals
    go_enter Try.func14, Try.ntmps14
    go_wp2
    go_ret
    refine ⟨?_, rfl⟩
    rw [HL.out]
    refine congrArg (fun z => Ending.returned (.int .i64 z)) (?_ : _ = max (9 * M / 8) 1000)
    omega
set_option maxRecDepth 100000 in
set_option maxHeartbeats 1000000 in
theorem rwait_c (b : Nat) (v : Rv) (t : Int) (d : Bool) (w : World) (h : Rt 34 w b v) (ho : v.ok) : Calls Try.prog 12 #[.pointer (some ⟨b, 0, none⟩), .int .i64 t, .bool d] w fun e w' => e = .returned (.int .i64 (v.wait t d)) ∧ w' = w := by
  obtain ⟨c0, c1, c2, c3, c4, c5⟩ := h.cells
  obtain ⟨K, hK, hK10⟩ : ∃ K : Nat, min (max t 0) 10 = (K : Int) ∧ K ≤ 10 := ⟨(min (max t 0) 10).toNat, by omega, by omega⟩
  obtain ⟨X, hX, hX0, hX1⟩ : ∃ X, v.base d = X ∧ 0 ≤ X ∧ X ≤ 7000000000000000 := ⟨_, rfl, (ho.base0 d).1, (ho.base0 d).2⟩
  have HR : Aside (v.wait t d = X * 2 ^ K) := by
    show v.wait t d = _
    unfold Rv.wait
    rw [hX, hK]
    rfl
  obtain ⟨m0, m1, a0, a1, l0, l1, s0, s1, y0, y1, al⟩ := ho
  have i2 : IntKind.i64.wrap (4 * v.y) = 4 * v.y := wrp _ (by omega) (by omega)
  have HK : Aside _ := hK
  clear h hK
  have HLOOP : Aside (∀ i : Nat, i ≤ K → ((i : Int) < t ∧ (i : Int) < 10 ∧ i < K) ∨ (¬ (i : Int) < t ∧ i = K) ∨ ((i : Int) < t ∧ ¬ (i : Int) < 10 ∧ i = K)) := by
    intro i hi
    have := HK.out
    omega
  by_cases hc : 4 * v.y < 1000 <;> cases d
  · skip
    have e1 : IntKind.i64.wrap (1000 + v.s) = X := by rw [← hX]; simp only [Rv.base]; rw [wrp _ (by omega) (by omega)]; simp; omega
    clear hX
    go_enter Try.func12, Try.ntmps12
    go_wp2
    go_loopg [7, 8] K (fun kx s7 s8 wr => ∃ (i : Nat), s7 = .int .i64 (X * 2 ^ i) ∧ s8 = .int .i64 (i : Int) ∧ i ≤ K ∧ K - i ≤ kx ∧ wr = w)
    case atStart => exact ⟨0, by simp, rfl, by omega, by omega, rfl⟩
    case round =>
      obtain ⟨i, rfl, rfl, hi, hk, hw⟩ := hrel
      subst hw
      have hp := mul_pow X i (by omega) hX0 hX1
      rcases HLOOP.out i hi with ⟨p1, p2, p3⟩ | ⟨p1, rfl⟩ | ⟨p1, p2, rfl⟩
      · have hp2 := mul_pow X (i + 1) (by omega) hX0 hX1
        have hs : 2 * (X * 2 ^ i) = X * 2 ^ (i + 1) := by rw [Int.pow_succ, Int.mul_comm 2 (X * 2 ^ i), Int.mul_assoc]
        have q1 : IntKind.i64.wrap (2 * (X * 2 ^ i)) = X * 2 ^ (i + 1) := by rw [hs]; exact wrp _ (by omega) (by omega)
        have q2 : IntKind.i64.wrap ((i : Int) + 1) = (i : Int) + 1 := wrp _ (by omega) (by omega)
        clear hs hp hp2
        go_wp2
        go_roundg (K - (i + 1))
        case measure => omega
        case rel => exact ⟨i + 1, rfl, rfl, by omega, Nat.le_refl _, rfl⟩
      · go_wp2
        go_ret
        exact ⟨by rw [HR.out]; rfl, rfl⟩
      · go_wp2
        go_ret
        exact ⟨by rw [HR.out]; rfl, rfl⟩
  · skip
    have e1 : IntKind.i64.wrap (1000 + v.s) = 1000 + v.s := wrp _ (by omega) (by omega)
    have e2 : IntKind.i64.wrap (1000 + v.s + v.m) = X := by rw [← hX]; simp only [Rv.base]; rw [wrp _ (by omega) (by omega)]; simp; omega
    clear hX
    go_enter Try.func12, Try.ntmps12
    go_wp2
    go_loopg [7, 8] K (fun kx s7 s8 wr => ∃ (i : Nat), s7 = .int .i64 (X * 2 ^ i) ∧ s8 = .int .i64 (i : Int) ∧ i ≤ K ∧ K - i ≤ kx ∧ wr = w)
    case atStart => exact ⟨0, by simp, rfl, by omega, by omega, rfl⟩
    case round =>
      obtain ⟨i, rfl, rfl, hi, hk, hw⟩ := hrel
      subst hw
      have hp := mul_pow X i (by omega) hX0 hX1
      rcases HLOOP.out i hi with ⟨p1, p2, p3⟩ | ⟨p1, rfl⟩ | ⟨p1, p2, rfl⟩
      · have hp2 := mul_pow X (i + 1) (by omega) hX0 hX1
        have hs : 2 * (X * 2 ^ i) = X * 2 ^ (i + 1) := by rw [Int.pow_succ, Int.mul_comm 2 (X * 2 ^ i), Int.mul_assoc]
        have q1 : IntKind.i64.wrap (2 * (X * 2 ^ i)) = X * 2 ^ (i + 1) := by rw [hs]; exact wrp _ (by omega) (by omega)
        have q2 : IntKind.i64.wrap ((i : Int) + 1) = (i : Int) + 1 := wrp _ (by omega) (by omega)
        clear hs hp hp2
        go_wp2
        go_roundg (K - (i + 1))
        case measure => omega
        case rel => exact ⟨i + 1, rfl, rfl, by omega, Nat.le_refl _, rfl⟩
      · go_wp2
        go_ret
        exact ⟨by rw [HR.out]; rfl, rfl⟩
      · go_wp2
        go_ret
        exact ⟨by rw [HR.out]; rfl, rfl⟩
  · skip
    have e1 : IntKind.i64.wrap (4 * v.y + v.s) = X := by rw [← hX]; simp only [Rv.base]; rw [wrp _ (by omega) (by omega)]; simp; omega
    clear hX
    go_enter Try.func12, Try.ntmps12
    go_wp2
    go_loopg [7, 8] K (fun kx s7 s8 wr => ∃ (i : Nat), s7 = .int .i64 (X * 2 ^ i) ∧ s8 = .int .i64 (i : Int) ∧ i ≤ K ∧ K - i ≤ kx ∧ wr = w)
    case atStart => exact ⟨0, by simp, rfl, by omega, by omega, rfl⟩
    case round =>
      obtain ⟨i, rfl, rfl, hi, hk, hw⟩ := hrel
      subst hw
      have hp := mul_pow X i (by omega) hX0 hX1
      rcases HLOOP.out i hi with ⟨p1, p2, p3⟩ | ⟨p1, rfl⟩ | ⟨p1, p2, rfl⟩
      · have hp2 := mul_pow X (i + 1) (by omega) hX0 hX1
        have hs : 2 * (X * 2 ^ i) = X * 2 ^ (i + 1) := by rw [Int.pow_succ, Int.mul_comm 2 (X * 2 ^ i), Int.mul_assoc]
        have q1 : IntKind.i64.wrap (2 * (X * 2 ^ i)) = X * 2 ^ (i + 1) := by rw [hs]; exact wrp _ (by omega) (by omega)
        have q2 : IntKind.i64.wrap ((i : Int) + 1) = (i : Int) + 1 := wrp _ (by omega) (by omega)
        clear hs hp hp2
        go_wp2
        go_roundg (K - (i + 1))
        case measure => omega
        case rel => exact ⟨i + 1, rfl, rfl, by omega, Nat.le_refl _, rfl⟩
      · go_wp2
        go_ret
        exact ⟨by rw [HR.out]; rfl, rfl⟩
      · go_wp2
        go_ret
        exact ⟨by rw [HR.out]; rfl, rfl⟩
  · skip
    have e1 : IntKind.i64.wrap (4 * v.y + v.s) = 4 * v.y + v.s := wrp _ (by omega) (by omega)
    have e2 : IntKind.i64.wrap (4 * v.y + v.s + v.m) = X := by rw [← hX]; simp only [Rv.base]; rw [wrp _ (by omega) (by omega)]; simp; omega
    clear hX
    go_enter Try.func12, Try.ntmps12
    go_wp2
    go_loopg [7, 8] K (fun kx s7 s8 wr => ∃ (i : Nat), s7 = .int .i64 (X * 2 ^ i) ∧ s8 = .int .i64 (i : Int) ∧ i ≤ K ∧ K - i ≤ kx ∧ wr = w)
    case atStart => exact ⟨0, by simp, rfl, by omega, by omega, rfl⟩
    case round =>
      obtain ⟨i, rfl, rfl, hi, hk, hw⟩ := hrel
      subst hw
      have hp := mul_pow X i (by omega) hX0 hX1
      rcases HLOOP.out i hi with ⟨p1, p2, p3⟩ | ⟨p1, rfl⟩ | ⟨p1, p2, rfl⟩
      · have hp2 := mul_pow X (i + 1) (by omega) hX0 hX1
        have hs : 2 * (X * 2 ^ i) = X * 2 ^ (i + 1) := by rw [Int.pow_succ, Int.mul_comm 2 (X * 2 ^ i), Int.mul_assoc]
        have q1 : IntKind.i64.wrap (2 * (X * 2 ^ i)) = X * 2 ^ (i + 1) := by rw [hs]; exact wrp _ (by omega) (by omega)
        have q2 : IntKind.i64.wrap ((i : Int) + 1) = (i : Int) + 1 := wrp _ (by omega) (by omega)
        clear hs hp hp2
        go_wp2
        go_roundg (K - (i + 1))
        case measure => omega
        case rel => exact ⟨i + 1, rfl, rfl, by omega, Nat.le_refl _, rfl⟩
      · go_wp2
        go_ret
        exact ⟨by rw [HR.out]; rfl, rfl⟩
      · go_wp2
        go_ret
        exact ⟨by rw [HR.out]; rfl, rfl⟩
end Go.Proofs.Ythjfhckpgindfaa
