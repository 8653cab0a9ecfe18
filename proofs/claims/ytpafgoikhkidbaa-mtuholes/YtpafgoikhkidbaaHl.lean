/- MtuHoles: the walk. -/
import Derived.Test.YtpafgoikhkidbaaFi
namespace Go.Proofs.Ytpafgoikhkidbaa
open Go.RowKit
set_option linter.unusedVariables false

theorem and7 (n : Int) : bits .and .i64 n 7 = n % 8 := by
  have h7 : (BitVec.ofInt 64 7).toNat = 2 ^ 3 - 1 := by decide
  have key : (BitVec.ofInt 64 n &&& BitVec.ofInt 64 7).toNat = (n % ((2 ^ 64 : Nat) : Int)).toNat % 2 ^ 3 := by
    rw [BitVec.toNat_and, BitVec.toNat_ofInt, h7, Nat.and_two_pow_sub_one_eq_mod]
  show IntKind.i64.wrap ((BitVec.ofInt 64 n &&& BitVec.ofInt 64 7).toNat : Nat) = n % 8
  rw [key, IntKind.wrap_i64]
  omega
/-- An arrival. -/
theorem Mv.ack_on {v : Mv} (hon : v.on = true) : v.ack v.prb = (0, { v with s := v.prb, l := 0 }) := by
  have hw : v.wr v.prb = false := by simp [Mv.wr, hon]
  unfold Mv.ack
  rw [hw]
  rfl
/-- How far a search has come behind i arrivals: its base and its ceiling stay. -/
structure Hi (b c : Int) (i : Nat) (v : Mv) : Prop where
  o : v.ok
  eb : v.b = b
  ec : v.c = c
  hl : v.c - v.s ≤ halv i
  kk : i ≤ 12
theorem Hi.ack {b c : Int} {i : Nat} {v : Mv} (h : Hi b c i v) (hon : v.on = true) : Hi b c (i + 1) { v with s := v.prb, l := 0 } := by
  have hd := of_decide_eq_true hon
  have hok := v.ack_ok v.prb h.o
  rw [Mv.ack_on hon] at hok
  have hprb : v.prb = (v.s + v.c + 1) / 2 := by unfold Mv.prb; rw [if_neg (by omega)]
  have h1 := h.hl
  have h11 := halv_on (k := i) (by omega)
  refine ⟨hok, h.eb, h.ec, ?_, by omega⟩
  show v.c - v.prb ≤ halv i / 2
  omega
theorem hi0 {v : Mv} (ho : v.ok) : Hi v.b v.hole.c 0 v.hole := by
  have h := v.hole_ok ho
  refine ⟨h, rfl, rfl, ?_, by omega⟩
  have := h.c1
  have := h.b0
  have := h.s0
  show v.hole.c - v.hole.s ≤ 65536
  omega
theorem Mv.hole_c (v : Mv) : v.hole.c = max v.b (v.s - 1) := by
  show max (v.s - 1) v.b = _
  omega

set_option maxRecDepth 100000 in
theorem holes_no (b m p : Int) (w : World) (h : may b m = false) : Calls Try.prog 6 #[.int .i64 b, .int .i64 m, .int .i64 p] w fun e w' => e = .returned (.bool true) ∧ Below w.heap.size w w' := by
  have h1 := new_no b m w h
  have h2 := new_c 1200 1500 w may1
  clear h
  go_enter Try.func6, Try.ntmps6
  go_wp2_with fail
  refine h1.mono ?_
  rintro e w1 ⟨rfl, hw⟩
  subst w1
  clear h1
  go_wp2_with fail
  refine h2.mono ?_
  rintro e w1 ⟨rfl, hr, hb⟩
  have h3 := size_c _ _ w1 hr (mv0_ok may1)
  have HB : Aside (Below w.heap.size w w1) := hb
  rw [show (mv0 1200 1500).s = 1200 from rfl] at h3
  clear h2 hr hb
  generalize w.heap.size = s at h3 ⊢
  go_wp2_with fail
  refine h3.mono ?_
  rintro e w2 ⟨rfl, hw⟩
  subst w2
  go_wp2
  go_ret
  exact ⟨rfl, HB.out⟩
set_option maxRecDepth 100000 in
set_option maxHeartbeats 2000000 in
theorem holes_yes (b m q : Int) (w : World) (h : may b m = true) : Calls Try.prog 6 #[.int .i64 b, .int .i64 m, .int .i64 q] w fun e w' => e = .returned (.bool true) ∧ Below w.heap.size w w' := by
  have h1 := new_c b m w h
  have HN : Aside (∀ X, Calls Try.prog 7 #[.int .i64 1200, .int .i64 1500] X fun e w' => e = .returned (.tuple #[.pointer (some ⟨X.heap.size, 0, none⟩), .int .i64 0]) ∧ Rt 42 w' X.heap.size (mv0 1200 1500) ∧ Below X.heap.size X w') := fun X => new_c 1200 1500 X may1
  have i1 := and7 q
  have HV : Aside ((mv0 b m).ok) := mv0_ok h
  have HVb : Aside ((mv0 b m).b = b) := rfl
  have HQ8 : Aside (0 ≤ q % 8 ∧ q % 8 < 8) := ⟨by omega, by omega⟩
  clear h
  generalize q % 8 = p at *
  generalize mv0 b m = v0 at *
  go_enter Try.func6, Try.ntmps6
  go_wp2_with fail
  refine h1.mono ?_
  rintro e w1 ⟨rfl, hr1, hb1⟩
  have h2 := HN.out w1
  have HO : Aside (∀ X, Below w1.heap.size w1 X → Ow w w.heap.size v0 X) := fun X hX => ⟨hr1.below hX, HV.out, Nat.le_refl _, hb1.trans (hX.mono hb1.size)⟩
  clear h1 hr1 hb1 HN
  go_wp2_with fail
  refine h2.mono ?_
  rintro e w2 ⟨rfl, hr2, hb2⟩
  have h3 := size_c _ _ w2 hr2 (mv0_ok may1)
  rw [show (mv0 1200 1500).s = 1200 from rfl] at h3
  have HQ0 : Aside (Ow w w.heap.size v0 w2) := HO.out w2 hb2
  clear h2 hr2 hb2 HO
  generalize w1.heap.size = s1 at h3 ⊢
  generalize hs : w.heap.size = s at HQ0 ⊢
  go_wp2_with fail
  refine h3.mono ?_
  rintro e w3 ⟨rfl, hw⟩
  subst w3
  clear h3
  go_wp2
  go_loopg [11] 9 (fun kx s11 wr => ∃ (i : Nat) (v : Mv), s11 = .int .i64 (i : Int) ∧ (i : Int) ≤ p ∧ 9 - i ≤ kx ∧ Aside (v.b = b) ∧ Aside (Ow w s v wr))
  case atStart => exact ⟨0, v0, rfl, by have := HQ8.out.1; omega, by omega, HVb.out, HQ0.out⟩
  case round =>
    obtain ⟨i, v, rfl, hip, hk, HB, HQ⟩ := hrel
    clear HQ0 HVb HV
    have h8 := HQ8.out.2
    have n7 : IntKind.i64.wrap ((i : Int) + 1) = (i : Int) + 1 := wrp _ (by omega) (by omega)
    by_cases hlt : (i : Int) < p
    · have h1 := HQ.out.probe
      go_wp2_with fail
      refine h1.mono ?_
      rintro e w4 ⟨rfl, hp⟩
      clear h1
      have HQ4 : Aside (Ow w s v w4) := hp
      have HA := hp.acked v.prb
      clear hp HQ
      cases hon : v.on
      · clear HA
        go_wp2
        go_roundg (9 - (i + 1))
        case measure => omega
        case rel => exact ⟨i + 1, v, rfl, by omega, Nat.le_refl _, HB.out, HQ4.out⟩
      · rw [Mv.ack_on hon] at HA
        dsimp only at HA
        generalize v.prb = P at *
        clear hon
        go_wp2_with fail
        refine HA.mono ?_
        rintro e w5 ⟨rfl, hp⟩
        have HQ5 : Aside (Ow w s { v with s := P, l := 0 } w5) := hp
        clear HA hp
        go_wp2
        go_roundg (9 - (i + 1))
        case measure => omega
        case rel => exact ⟨i + 1, { v with s := P, l := 0 }, rfl, by omega, Nat.le_refl _, HB.out, HQ5.out⟩
    · have h1 := HQ.out.size
      have h2 := HQ.out.hole
      have HI : Aside (Hi b v.hole.c 0 v.hole) := by have := hi0 HQ.out.o; rw [HB.out] at this; exact this
      have HSb : Aside (v.hole.s = b) := HB.out
      have HC : Aside (v.hole.c = max b (v.s - 1)) := by have := v.hole_c; rw [HB.out] at this; exact this
      have HVS : Aside (b ≤ v.s ∧ v.s ≤ 65527) := ⟨by have := HQ.out.o.s0; rw [HB.out] at this; exact this, by have := HQ.out.o.c0; have := HQ.out.o.c1; omega⟩
      have HBB : Aside (1200 ≤ b) := by have := HQ.out.o.b0; rw [HB.out] at this; exact this
      clear HQ HB
      generalize v.hole = v1 at *
      generalize v.s = SZ at *
      go_wp2_with fail
      refine h1.mono ?_
      rintro e w4 ⟨rfl, hw⟩
      subst w4
      clear h1
      go_wp2_with fail
      refine h2.mono ?_
      rintro e w4 ⟨rfl, hp⟩
      have h3 := hp.size
      rw [HSb.out] at h3
      have HQ4 : Aside (Ow w s v1 w4) := hp
      clear h2 hp
      go_wp2_with fail
      refine h3.mono ?_
      rintro e w5 ⟨rfl, hw⟩
      subst w5
      clear h3 n7 hlt hip hk h8 i1
      generalize v1.c = C at *
      go_wp2
      go_loopg [15] 31 (fun kx s15 wr => ∃ (j : Nat) (v : Mv), s15 = .int .i64 (j : Int) ∧ 31 - j ≤ kx ∧ Aside (Hi b C j v) ∧ Aside (Ow w s v wr))
      case atStart => exact ⟨0, v1, rfl, by omega, HI.out, HQ4.out⟩
      case round =>
        obtain ⟨j, v, rfl, hk, HJ, HQ⟩ := hrel
        clear HI HQ4 HSb
        have hj : (j : Int) < 30 := by have := HJ.out.kk; omega
        have n7 : IntKind.i64.wrap ((j : Int) + 1) = (j : Int) + 1 := wrp _ (by omega) (by omega)
        have h1 := HQ.out.probe
        go_wp2_with fail
        refine h1.mono ?_
        rintro e w6 ⟨rfl, hp⟩
        clear h1
        have HQ6 : Aside (Ow w s v w6) := hp
        clear hp HQ
        cases hon : v.on
        · have h5 := HQ6.out.size
          have hd := of_decide_eq_false hon
          have c0 := HQ6.out.o.c0
          rw [HJ.out.ec] at hd c0
          have HBl : Aside (Below w.heap.size w w6) := HQ6.out.b
          have x1 := max_if b (SZ - 1)
          have x2 : IntKind.i64.wrap (SZ - 1) = SZ - 1 := wrp _ (by have := HBB.out; have := HVS.out; omega) (by have := HVS.out; omega)
          rw [← HC.out] at x1
          have x3 : IntKind.i64.wrap (C - 20) = C - 20 := wrp _ (by have := HC.out; have := HBB.out; omega) (by have := HC.out; have := HVS.out; have := HBB.out; omega)
          clear HQ6 HJ hon HC HVS HBB
          generalize v.s = S at *
          have g2 : decide (S ≤ C) = true := decide_eq_true c0
          have g3 : decide (C - 20 < S) = true := decide_eq_true (by omega)
          go_wp2_with fail
          refine h5.mono ?_
          rintro e w7 ⟨rfl, hw⟩
          subst w7
          go_wp2_with fail
          refine h5.mono ?_
          rintro e w7 ⟨rfl, hw⟩
          subst w7
          go_wp2
          go_ret
          exact ⟨rfl, HBl.out⟩
        · have HA := HQ6.out.acked v.prb
          rw [Mv.ack_on hon] at HA
          have HJ2 := HJ.out.ack hon
          have hlt : v.prb < SZ := by
            have hb := v.prb_b HJ.out.o hon
            have e1 := HJ.out.ec
            have e2 := HJ.out.eb
            have e3 := HC.out
            have e4 := HJ.out.o.s0
            omega
          have hge : decide (SZ ≤ v.prb) = false := decide_eq_false (by omega)
          dsimp only at HA
          have HJ3 : Aside _ := HJ2
          clear HJ2 HJ hon
          generalize v.prb = P at *
          go_wp2_with fail
          refine HA.mono ?_
          rintro e w7 ⟨rfl, hp⟩
          have HQ7 : Aside (Ow w s { v with s := P, l := 0 } w7) := hp
          clear HA hp
          go_wp2
          go_roundg (31 - (j + 1))
          case measure => omega
          case rel => exact ⟨j + 1, _, rfl, Nat.le_refl _, HJ3.out, HQ7.out⟩
theorem holes_walk (b m p : Int) (w : World) : Calls Try.prog 6 #[.int .i64 b, .int .i64 m, .int .i64 p] w fun e w' => e = .returned (.bool true) ∧ Below w.heap.size w w' := by
  cases h : may b m
  · exact holes_no b m p w h
  · exact holes_yes b m p w h
end Go.Proofs.Ytpafgoikhkidbaa
