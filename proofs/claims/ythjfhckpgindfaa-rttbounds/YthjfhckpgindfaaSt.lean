/- RttSteady: the walk. -/
import Derived.Test.YthjfhckpgindfaaSb
import Derived.LoopTactic
namespace Go.Proofs.Ythjfhckpgindfaa
open Go.RowKit
set_option linter.unusedVariables false

theorem i64_and24 (n : Int) : bits .and .i64 n 16777215 = n % 16777216 := by
  have h127 : (BitVec.ofInt 64 16777215).toNat = 2 ^ 24 - 1 := by decide
  have key : (BitVec.ofInt 64 n &&& BitVec.ofInt 64 16777215).toNat = (n % ((2 ^ 64 : Nat) : Int)).toNat % 2 ^ 24 := by
    rw [BitVec.toNat_and, BitVec.toNat_ofInt, h127, Nat.and_two_pow_sub_one_eq_mod]
  show IntKind.i64.wrap ((BitVec.ofInt 64 n &&& BitVec.ofInt 64 16777215).toNat : Nat) = n % 16777216
  rw [key, IntKind.wrap_i64]
  omega
theorem i64_and6 (n : Int) : bits .and .i64 n 63 = n % 64 := by
  have h127 : (BitVec.ofInt 64 63).toNat = 2 ^ 6 - 1 := by decide
  have key : (BitVec.ofInt 64 n &&& BitVec.ofInt 64 63).toNat = (n % ((2 ^ 64 : Nat) : Int)).toNat % 2 ^ 6 := by
    rw [BitVec.toNat_and, BitVec.toNat_ofInt, h127, Nat.and_two_pow_sub_one_eq_mod]
  show IntKind.i64.wrap ((BitVec.ofInt 64 n &&& BitVec.ofInt 64 63).toNat : Nat) = n % 64
  rw [key, IntKind.wrap_i64]
  omega
theorem i64_and3 (n : Int) : bits .and .i64 n 7 = n % 8 := by
  have h127 : (BitVec.ofInt 64 7).toNat = 2 ^ 3 - 1 := by decide
  have key : (BitVec.ofInt 64 n &&& BitVec.ofInt 64 7).toNat = (n % ((2 ^ 64 : Nat) : Int)).toNat % 2 ^ 3 := by
    rw [BitVec.toNat_and, BitVec.toNat_ofInt, h127, Nat.and_two_pow_sub_one_eq_mod]
  show IntKind.i64.wrap ((BitVec.ofInt 64 n &&& BitVec.ofInt 64 7).toNat : Nat) = n % 8
  rw [key, IntKind.wrap_i64]
  omega

/-- Between two rounds of RttSteady: nothing came yet, or all that came was alike; y: how much they vary. -/
def SyI (w : World) (b : Nat) (T : Int) (i : Nat) (y : Int) (W : World) : Prop :=
  ∃ v : Rv, Rt 43 W b v ∧ v.ok ∧ Below w.heap.size w W ∧ w.heap.size ≤ b ∧ v.m = 0 ∧ ((i = 0 ∧ v = rv0 0 ∧ y = 1125899906842624) ∨ (1 ≤ i ∧ v = ⟨0, true, T, T, T, y⟩))
theorem SyI.fine {w : World} {b : Nat} {T : Int} {i : Nat} {y : Int} {W : World} (h : SyI w b T (i + 1) y W) : Rv.ok ⟨0, true, T, T, T, y⟩ := by
  obtain ⟨v, q1, q2, q3, q4, q5, q6⟩ := h
  rcases q6 with ⟨q, _⟩ | ⟨_, rfl⟩
  · omega
  · exact q2
theorem SyI.lies {w : World} {b : Nat} {T : Int} {i : Nat} {y : Int} {W : World} (h : SyI w b T (i + 1) y W) : Rt 43 W b ⟨0, true, T, T, T, y⟩ ∧ Below w.heap.size w W := by
  obtain ⟨v, q1, q2, q3, q4, q5, q6⟩ := h
  rcases q6 with ⟨q, _⟩ | ⟨_, rfl⟩
  · omega
  · exact ⟨q1, q3⟩
theorem SyI.sample {w : World} {b : Nat} {T : Int} {i : Nat} {y : Int} {W : World} (h : SyI w b T i y W) (h0 : 0 ≤ T) (h1 : T ≤ 16777215) :
    ∃ y' : Int, 0 ≤ y' ∧ y' ≤ y ∧ y' ≤ 1125899906842624 ∧ Calls Try.prog 15 #[.pointer (some ⟨b, 0, none⟩), .int .i64 T, .int .i64 0, .bool true] W fun e w' => e = .returned (.int .i64 0) ∧ SyI w b T (i + 1) y' w' ∧ Rt 43 w' b ⟨0, true, T, T, T, y'⟩ := by
  obtain ⟨v, hr, ho, hb, hs, hm, hv⟩ := h
  have hc := sample_c b v T 0 true W hr ho h0 (by omega) (by omega) (by omega)
  have hok := v.samp_ok T 0 true ho h0 (by omega) (by omega)
  obtain ⟨y', hy, q0, q1⟩ : ∃ y', v.samp T 0 true = ⟨0, true, T, T, T, y'⟩ ∧ 0 ≤ y' ∧ y' ≤ y := by
    rcases hv with ⟨_, rfl, rfl⟩ | ⟨_, rfl⟩
    · refine ⟨T / 2, by simp [Rv.samp, rv0], by omega, by omega⟩
    · have hy0 := ho.y0
      dsimp only at hy0
      have ow : Rv.own ⟨0, true, T, T, T, y⟩ T 0 true = T := by simp [Rv.own]
      refine ⟨3 * y / 4, ?_, by omega, by omega⟩
      unfold Rv.samp
      rw [if_pos rfl, ow]
      simp only [Rv.mk.injEq, true_and]
      refine ⟨by omega, by omega, by congr 1; omega⟩
  rw [hy] at hc hok
  refine ⟨y', q0, q1, hok.y1, hc.mono ?_⟩
  rintro e w' ⟨rfl, hr', ht⟩
  exact ⟨rfl, ⟨_, hr', hok, hb.trans (ht.toBelow hb.size hs), hs, rfl, .inr ⟨by omega, rfl⟩⟩, hr'⟩

set_option maxRecDepth 100000 in
set_option maxHeartbeats 1000000 in
theorem steady_walk (t n : Int) (w : World) : Calls Try.prog 6 #[.int .i64 t, .int .i64 n] w fun e w' => e = .returned (.bool true) ∧ Below w.heap.size w w' := by
  obtain ⟨T, hT⟩ : ∃ T, t % 16777216 = T := ⟨_, rfl⟩
  obtain ⟨N, hN⟩ : ∃ N : Nat, n % 64 = (N : Int) := ⟨(n % 64).toNat, by omega⟩
  have hT0 : 0 ≤ T := by omega
  have hT1 : T ≤ 16777215 := by omega
  have hN1 : N ≤ 63 := by omega
  have e24 : bits .and .i64 t 16777215 = T := by rw [i64_and24, hT]
  have e6 : bits .and .i64 n 63 = (N : Int) := by rw [i64_and6, hN]
  clear hT hN
  go_enter Try.func6, Try.ntmps6
  go_wp2_with fail
  refine (new_c 0 w (by omega) (by omega)).mono ?_
  rintro e w1 ⟨b, rfl, hr, hs, hb⟩
  have HI : Aside (SyI w b T 0 1125899906842624 w1) := ⟨_, hr, rv0_ok 0 (by omega) (by omega), hb, hs, rfl, .inl ⟨rfl, rfl, rfl⟩⟩
  clear hr hs hb e24
  go_wp2
  go_loopg [7, 8] (N + 1) (fun kx s7 s8 wr => ∃ (y : Int) (i : Nat), s7 = .int .i64 y ∧ s8 = .int .i64 (i : Int) ∧ i ≤ N + 1 ∧ N + 1 - i ≤ kx ∧ Aside (SyI w b T i y wr))
  case atStart => exact ⟨1125899906842624, 0, rfl, rfl, by omega, by omega, HI.out⟩
  case round =>
    obtain ⟨y, i, rfl, rfl, hi, hk, HR⟩ := hrel
    clear HI
    by_cases hlt : i ≤ N
    · obtain ⟨y', q0, q1, q2, hc⟩ := SyI.sample HR.out hT0 hT1
      have c1 : (i : Int) ≤ (N : Int) := by omega
      go_wp2_with fail
      refine hc.mono ?_
      rintro e w2 ⟨rfl, hI, hr⟩
      have HI2 : Aside _ := hI
      have ht := told_c b _ w2 hr hI.fine
      dsimp only at ht
      clear hI hr hc
      go_wp2_with fail
      refine ht.mono ?_
      rintro e w3 ⟨rfl, hb3⟩
      have HI3 : Aside (SyI w b T (i + 1) y' w3) := by
        obtain ⟨v, r1, r2, r3, r4, r5, r6⟩ := HI2.out
        exact ⟨v, r1.below hb3, r2, r3.trans (hb3.mono r3.size), r4, r5, r6⟩
      clear hb3 ht
      have n1 : ¬ y < y' := by omega
      go_wp2
      go_roundg (N + 1 - (i + 1))
      case measure => omega
      case rel => exact ⟨y', i + 1, rfl, by rw [show (i : Int) + 1 = ((i + 1 : Nat) : Int) by omega], by omega, Nat.le_refl _, HI3.out⟩
    · obtain rfl : i = N + 1 := by omega
      have c1 : ¬ ((N + 1 : Nat) : Int) ≤ (N : Int) := by omega
      obtain ⟨hr, hb⟩ := SyI.lies HR.out
      have hok := SyI.fine HR.out
      obtain ⟨X, hX⟩ : ∃ X, Rv.wait ⟨0, true, T, T, T, y⟩ 0 true = X := ⟨_, rfl⟩
      have hX' : Rv.wait ⟨0, true, T, T, T, y⟩ 0 false = X := by rw [← hX]; simp [Rv.wait, Rv.base]
      obtain ⟨L, hL⟩ : ∃ L, Rv.late ⟨0, true, T, T, T, y⟩ = L := ⟨_, rfl⟩
      have hL0 : max 1000 T ≤ L := by rw [← hL]; simp only [Rv.late]; omega
      have hL1 : L ≤ max 1000 (T + T / 8) := by rw [← hL]; simp only [Rv.late]; omega
      have w1c := wait_c b _ 0 true wr hr hok
      rw [hX] at w1c
      have i1 := max_if 1000 T
      have i2 := max_if 1000 (T + T / 8)
      have i3 : T.tdiv 8 = T / 8 := Int.tdiv_eq_ediv_of_nonneg hT0
      have i4 : IntKind.i64.wrap (T / 8) = T / 8 := wrp _ (by omega) (by omega)
      have i5 : IntKind.i64.wrap (T + T / 8) = T + T / 8 := wrp _ (by omega) (by omega)
      have HB0 : Aside _ := hb
      have HR0 : Aside (Rt 43 wr b _) := hr
      clear hr hb
      go_wp2_with fail
      refine w1c.mono ?_
      rintro e u1 ⟨rfl, hb1⟩
      have w2c := wait_c b _ 0 false u1 (Rt.below HR0.out hb1) hok
      rw [hX'] at w2c
      have HB1 : Aside _ := hb1
      clear w1c hb1
      go_wp2_with fail
      refine w2c.mono ?_
      rintro e u2 ⟨rfl, hb2⟩
      have l1c := late_c b _ u2 (Rt.below (Rt.below HR0.out HB1.out) hb2) hok
      rw [hL] at l1c
      have HB2 : Aside _ := hb2
      clear w2c hb2
      go_wp2_with fail
      refine l1c.mono ?_
      rintro e u3 ⟨rfl, hb3⟩
      have l2c := late_c b _ u3 (Rt.below (Rt.below (Rt.below HR0.out HB1.out) HB2.out) hb3) hok
      rw [hL] at l2c
      have HB3 : Aside _ := hb3
      clear l1c hb3
      go_wp2_with fail
      refine l2c.mono ?_
      rintro e u4 ⟨rfl, hb4⟩
      have HB4 : Aside _ := hb4
      clear l2c hb4 hX hX' hL
      go_wp2
      go_ret
      exact ⟨rfl, HB0.out.trans ((bel_trans HB1.out (bel_trans HB2.out (bel_trans HB3.out HB4.out))).mono HB0.out.size)⟩
end Go.Proofs.Ythjfhckpgindfaa
