/- PacerRate: the walk. -/
import Derived.Test.YtogoifaoblbejaaEn
import Derived.LoopTactic
namespace Go.Proofs.Ytogoifaoblbejaa
open Go.RowKit
set_option linter.unusedVariables false

theorem and16 (n : Int) : bits .and .i64 n 65535 = n % 65536 := by
  have h127 : (BitVec.ofInt 64 65535).toNat = 2 ^ 16 - 1 := by decide
  have key : (BitVec.ofInt 64 n &&& BitVec.ofInt 64 65535).toNat = (n % ((2 ^ 64 : Nat) : Int)).toNat % 2 ^ 16 := by
    rw [BitVec.toNat_and, BitVec.toNat_ofInt, h127, Nat.and_two_pow_sub_one_eq_mod]
  show IntKind.i64.wrap ((BitVec.ofInt 64 n &&& BitVec.ofInt 64 65535).toNat : Nat) = n % 65536
  rw [key, IntKind.wrap_i64]
  omega
theorem div_sum (a b c : Int) (h : 0 < c) : a / c + b / c ≤ (a + b) / c := by
  refine Int.le_ediv_of_mul_le h ?_
  have h1 := Int.ediv_mul_le a (b := c) (by omega)
  have h2 := Int.ediv_mul_le b (b := c) (by omega)
  rw [Int.add_mul]
  omega
/-- A step: what is let go, and what is left. -/
theorem rate_step (v : Pv) (s W R : Int) (ho : v.ok) (hz : v.z = 12000) (t1 : v.t ≤ 32767500) (s0 : 0 ≤ s) (s1 : s ≤ 65535) (W0 : 0 ≤ W) (W1 : W ≤ 66735) (R0 : 1 ≤ R) (R1 : R ≤ 66535) :
    0 ≤ v.bud (v.t + s) W R ∧ v.bud (v.t + s) W R ≤ 12000 ∧ v.snt (v.bud (v.t + s) W R) (v.t + s) W R = (0, ⟨12000, 0, v.t + s⟩) ∧ (⟨12000, 0, v.t + s⟩ : Pv).bud (v.t + s) W R = 0 ∧ v.bud (v.t + s) W R + v.t * W * 5 / (4 * R) ≤ v.b + (v.t + s) * W * 5 / (4 * R) := by
  obtain ⟨b1, b2⟩ := v.bud_b (v.t + s) W R ho
  rw [hz] at b2
  have t0 := ho.t0
  refine ⟨b1, b2, ?_, ?_, ?_⟩
  · unfold Pv.snt
    rw [if_neg (by omega)]
    simp only [hz, Prod.mk.injEq, Pv.mk.injEq, true_and]
    omega
  · unfold Pv.bud
    rw [if_neg (by omega)]
    have : inn (v.t + s) (v.t + s) W R = 0 := by
      unfold inn
      rw [show cl (v.t + s - (v.t + s)) 0 1073741824 = 0 by unfold cl; omega]
      simp
    simp only
    omega
  · have h1 : v.bud (v.t + s) W R ≤ v.b + inn v.t (v.t + s) W R := by
      unfold Pv.bud
      rw [if_neg (by omega)]
      omega
    have h2 : inn v.t (v.t + s) W R = s * W * 5 / (4 * R) := by
      unfold inn pt rd
      rw [show cl (v.t + s - v.t) 0 1073741824 = s by unfold cl; omega, show min W 1073741824 = W by omega, show cl R 1 1125899906842624 = R by unfold cl; omega, Int.mul_comm 5 W, ← Int.mul_assoc]
    have h3 := div_sum (v.t * W * 5) (s * W * 5) (4 * R) (by omega)
    rw [← Int.add_mul, ← Int.add_mul] at h3
    omega
/-- Between two steps. -/
structure Rk (w : World) (b : Nat) (v : Pv) (W : World) : Prop where
  p : Rt W b v
  o : v.ok
  b0 : w.heap.size ≤ b
  u : Below w.heap.size w W
theorem Rk.budget {w : World} {b : Nat} {v : Pv} {W : World} (h : Rk w b v W) (t x r B : Int) (t1 : t ≤ 9223372036854775807) (hB : v.bud t x r = B) : Calls Try.prog 14 #[.pointer (some ⟨b, 0, none⟩), .int .i64 t, .int .i64 x, .int .i64 r] W fun e w' => e = .returned (.int .i64 B) ∧ Rk w b v w' := by
  have := budget_c b v t x r W h.p h.o t1
  rw [hB] at this
  exact this.mono (by rintro e w' ⟨rfl, hb⟩; exact ⟨rfl, h.p.below hb, h.o, h.b0, h.u.trans (hb.mono h.u.size)⟩)
theorem Rk.sent {w : World} {b : Nat} {v v' : Pv} {W : World} (h : Rk w b v W) (n t x r E : Int) (n1 : n ≤ 9223372036854775807) (t1 : t ≤ 9223372036854775807) (he : v.snt n t x r = (E, v')) : Calls Try.prog 10 #[.pointer (some ⟨b, 0, none⟩), .int .i64 n, .int .i64 t, .int .i64 x, .int .i64 r] W fun e w' => e = .returned (.int .i64 E) ∧ Rk w b v' w' := by
  have hok := v.snt_ok n t x r h.o
  have := sent_c b v n t x r W h.p h.o n1 t1
  rw [he] at this hok
  exact this.mono (by rintro e w' ⟨rfl, hr, ht⟩; exact ⟨rfl, hr, hok, h.b0, h.u.trans (ht.toBelow h.u.size h.b0)⟩)

set_option maxRecDepth 100000 in
set_option maxHeartbeats 2000000 in
theorem rate_walk (x r : Int) (la : Option Addr) (n c : Nat) (Z : Nat → Int) (w : World) (hZ : ∀ i, i < n → ∃ ad, la = some ad ∧ w.cell? (ad.add i) = some (.int .i64 (Z i))) :
    Calls Try.prog 6 #[.int .i64 x, .int .i64 r, .slice la n c] w fun e w' => e = .returned (.bool true) ∧ Below w.heap.size w w' := by
  have HZ : Aside _ := hZ
  clear hZ
  have e1 := and16 x
  have e2 := and16 r
  have g0 : 0 ≤ x % 65536 := by omega
  have g1 : x % 65536 ≤ 65535 := by omega
  have g2 : 0 ≤ r % 65536 := by omega
  have g3 : r % 65536 ≤ 65535 := by omega
  generalize x % 65536 = X at *
  generalize r % 65536 = Y at *
  obtain ⟨V, hV⟩ : ∃ V, 1200 + X = V := ⟨_, rfl⟩
  obtain ⟨R, hR⟩ : ∃ R, 1000 + Y = R := ⟨_, rfl⟩
  have e3 : IntKind.i64.wrap (1200 + X) = V := by rw [hV]; exact wrp _ (by omega) (by omega)
  have e4 : IntKind.i64.wrap (1000 + Y) = R := by rw [hR]; exact wrp _ (by omega) (by omega)
  have V0 : 1200 ≤ V := by omega
  have V1 : V ≤ 66735 := by omega
  have R0 : 1000 ≤ R := by omega
  have R1 : R ≤ 66535 := by omega
  clear g0 g1 g2 g3 hV hR
  have hnew := new_c 1200 w (by decide) (by decide)
  have i4 : IntKind.i64.wrap (4 * R) = 4 * R := wrp _ (by omega) (by omega)
  have i5 : ¬ 4 * R = 0 := by omega
  have i6 : (4 * R == 0) = false := by simpa using i5
  go_enter Try.func6, Try.ntmps6
  go_wp2_with fail
  refine hnew.mono ?_
  rintro e w1 ⟨rfl, hr1, hb1⟩
  have H0 : Aside (Rk w w.heap.size (pv0 1200) w1) := ⟨hr1, pv0_ok 1200 (by decide) (by decide), Nat.le_refl _, hb1⟩
  generalize hb : w.heap.size = b at H0 ⊢
  have hbu := H0.out.budget 0 V R 12000 (by decide) (pv0_bud V R (by omega) (by omega))
  clear hr1 hb1 hnew H0
  go_wp2_with fail
  refine hbu.mono ?_
  rintro e w2 ⟨rfl, h2⟩
  have H2 : Aside (Rk w b (pv0 1200) w2) := h2
  clear h2 hbu e1 e2 e3 e4
  go_wp2
  go_loopg [9, 10, 11, 12] n (fun kx s9 s10 s11 s12 wr => ∃ (i : Nat) (T S : Int) (v : Pv), s9 = .int .i64 T ∧ s10 = .int .i64 S ∧ s11 = .int .i64 (i : Int) ∧ i ≤ n ∧ i ≤ 500 ∧ 0 ≤ T ∧ T ≤ 65535 * (i : Int) ∧ 0 ≤ S ∧ S ≤ 12000 * (i : Int) ∧ v.z = 12000 ∧ v.t = T ∧ S + v.b ≤ 12000 + T * V * 5 / (4 * R) ∧ n - i ≤ kx ∧ Aside (Rk w b v wr))
  case atStart => exact ⟨0, 0, 0, pv0 1200, rfl, rfl, rfl, by omega, by omega, by omega, by omega, by omega, by omega, rfl, rfl, by simp [pv0], by omega, H2.out⟩
  case round =>
    obtain ⟨i, T, S, v, rfl, rfl, rfl, hi, hi1, hT0, hT1, hS0, hS1, hz, ht, hin, hm, HI⟩ := hrel
    clear H2
    by_cases hlt : i < n ∧ i < 500
    · obtain ⟨hl1, hl2⟩ := hlt
      have d1 : (i : Int) < (n : Int) := by omega
      have d2 : (i : Int) < 500 := by omega
      obtain ⟨ad, hla, hcz⟩ := HZ.out i hl1
      subst hla
      have hbw : Below w.heap.size w wr := HI.out.u
      have czr : wr.cell? (ad.add i) = some (.int .i64 (Z i)) := (hbw.cell (World.block_lt_of_cell? _ _ hcz)).trans hcz
      clear hcz hbw
      generalize Z i = z at czr
      have e3 := and16 z
      have q0 : 0 ≤ z % 65536 := by omega
      have q1 : z % 65536 ≤ 65535 := by omega
      generalize z % 65536 = y at *
      obtain ⟨k1, k2, k3, k4, k5⟩ := rate_step v y V R HI.out.o hz (by omega) q0 q1 (by omega) V1 (by omega) R1
      rw [ht] at k1 k2 k3 k4 k5
      obtain ⟨B, hB⟩ : ∃ B, v.bud (T + y) V R = B := ⟨_, rfl⟩
      rw [hB] at k1 k2 k3 k5
      obtain ⟨T2, hT2⟩ : ∃ T2, T + y = T2 := ⟨_, rfl⟩
      rw [hT2] at hB k3 k4 k5
      have i1 : IntKind.i64.wrap (T + y) = T2 := by rw [hT2]; exact wrp _ (by omega) (by omega)
      have hc1 := HI.out.budget T2 V R B (by omega) hB
      have n7 : IntKind.i64.wrap ((i : Int) + 1) = (i : Int) + 1 := wrp _ (by omega) (by omega)
      have i2 : IntKind.i64.wrap (S + B) = S + B := wrp _ (by omega) (by omega)
      have p1 : 0 ≤ T2 * V := Int.mul_nonneg (by omega) (by omega)
      have p2 : T2 * V ≤ 32767500 * 66735 := Int.mul_le_mul (by omega) V1 (by omega) (by decide)
      have i7 : IntKind.i64.wrap (T2 * V) = T2 * V := wrp _ (by omega) (by omega)
      have i8 : IntKind.i64.wrap (T2 * V * 5) = T2 * V * 5 := wrp _ (by omega) (by omega)
      have i9 : (T2 * V * 5).tdiv (4 * R) = T2 * V * 5 / (4 * R) := Int.tdiv_eq_ediv_of_nonneg (by omega)
      have p3 : 0 ≤ T2 * V * 5 / (4 * R) := Int.ediv_nonneg (by omega) (by omega)
      have p4 : T2 * V * 5 / (4 * R) ≤ T2 * V * 5 := Int.ediv_le_self _ (by omega)
      have i10 : IntKind.i64.wrap (T2 * V * 5 / (4 * R)) = T2 * V * 5 / (4 * R) := wrp _ (by omega) (by omega)
      have i11 : IntKind.i64.wrap (12000 + T2 * V * 5 / (4 * R)) = 12000 + T2 * V * 5 / (4 * R) := wrp _ (by omega) (by omega)
      have n1 : ¬ B < 0 := by omega
      have n2 : ¬ 12000 < B := by omega
      have n3 : ¬ 12000 + T2 * V * 5 / (4 * R) < S + B := by omega
      have HX : Aside (S + B ≤ 12000 + T2 * V * 5 / (4 * R) ∧ 0 ≤ T2 ∧ T2 ≤ 65535 * ((i + 1 : Nat) : Int) ∧ 0 ≤ S + B ∧ S + B ≤ 12000 * ((i + 1 : Nat) : Int)) := ⟨by omega, by omega, by omega, by omega, by omega⟩
      have HK3 : Aside _ := k3
      have HK4 : Aside _ := k4
      clear k1 k2 k3 k4 k5 hin hB p1 p2 p3 p4 hS0 hS1 hz ht
      have HT2 : Aside (T2 ≤ 9000000000000 ∧ B ≤ 9000000000000) := ⟨by omega, by omega⟩
      clear hT2 q0 q1 hT0 hT1
      go_wp2_with fail
      refine hc1.mono ?_
      rintro e w3 ⟨rfl, h3⟩
      have hc2 := h3.sent B T2 V R 0 (by have := HT2.out.2; omega) (by have := HT2.out.1; omega) HK3.out
      clear h3 hc1 czr
      go_wp2_with fail
      refine hc2.mono ?_
      rintro e w4 ⟨rfl, h4⟩
      have hc3 := h4.budget T2 V R 0 (by have := HT2.out.1; omega) HK4.out
      clear h4 hc2
      go_wp2_with fail
      refine hc3.mono ?_
      rintro e w5 ⟨rfl, h5⟩
      have H5 : Aside (Rk w b ⟨12000, 0, T2⟩ w5) := h5
      clear h5 hc3 HI
      go_wp2
      go_roundg (n - (i + 1))
      case measure => omega
      case rel => exact ⟨i + 1, T2, S + B, ⟨12000, 0, T2⟩, rfl, rfl, rfl, by omega, by omega, HX.out.2.1, HX.out.2.2.1, HX.out.2.2.2.1, HX.out.2.2.2.2, rfl, rfl, by have := HX.out.1; simp only; omega, Nat.le_refl _, H5.out⟩
    · have hc1 := HI.out.sent (-1) T V R 2 (by decide) (by omega) (show v.snt (-1) T V R = (2, v) by unfold Pv.snt; rw [if_pos (by left; omega)])
      have hd : ¬ (i : Int) < (n : Int) ∨ ((i : Int) < (n : Int) ∧ ¬ (i : Int) < 500) := by omega
      clear hlt
      rcases hd with d1 | ⟨d1, d2⟩
      all_goals
        go_wp2_with fail
        refine hc1.mono ?_
        rintro e w3 ⟨rfl, h3⟩
        have H3 : Aside (Below w.heap.size w w3) := h3.u
        clear h3
        go_wp2
        go_ret
        exact ⟨rfl, H3.out⟩
end Go.Proofs.Ytogoifaoblbejaa
