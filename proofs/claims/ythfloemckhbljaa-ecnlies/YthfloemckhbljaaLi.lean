/- EcnLies: the walk. -/
import Derived.Test.YthfloemckhbljaaAl
import Derived.Deep.CutRange
import Derived.Deep.DeepCutAuto
import Derived.Deep.CutBlock
import Derived.Deep.LoopGhost
namespace Go.Proofs.Ythfloemckhbljaa
open Go.RowKit
set_option linter.unusedVariables false

theorem and8 (n : Int) : bits .and .i64 n 255 = n % 256 := by
  have h127 : (BitVec.ofInt 64 255).toNat = 2 ^ 8 - 1 := by decide
  have key : (BitVec.ofInt 64 n &&& BitVec.ofInt 64 255).toNat = (n % ((2 ^ 64 : Nat) : Int)).toNat % 2 ^ 8 := by
    rw [BitVec.toNat_and, BitVec.toNat_ofInt, h127, Nat.and_two_pow_sub_one_eq_mod]
  show IntKind.i64.wrap ((BitVec.ofInt 64 n &&& BitVec.ofInt 64 255).toNat : Nat) = n % 256
  rw [key, IntKind.wrap_i64]
  omega
theorem tm9 (n : Int) : -9 < n.tmod 9 ∧ n.tmod 9 < 9 := by
  by_cases h : 0 ≤ n
  · rw [Int.tmod_eq_emod_of_nonneg h]; omega
  · have e : n = -(-n) := by omega
    rw [e, Int.neg_tmod, Int.tmod_eq_emod_of_nonneg (by omega)]; omega
theorem max_if (a b : Int) : (if a < b then b else a) = max a b := by omega
/-- A validation of one's own, and nothing older turned. -/
structure Li (w : World) (s : Nat) (v : Ev) (W : World) : Prop where
  p : Rt 43 W s v
  o : v.ok
  s0 : w.heap.size ≤ s
  b : Below w.heap.size w W
theorem Li.bl {w : World} {s : Nat} {v : Ev} {W W' : World} (h : Li w s v W) (hb : Below W.heap.size W W') : Li w s v W' := ⟨h.p.below hb, h.o, h.s0, h.b.trans (hb.mono h.b.size)⟩
theorem Li.tn {w : World} {s : Nat} {v v' : Ev} {W W' : World} (h : Li w s v W) (ht : Tn s W W') (hr : Rt 43 W' s v') (ho : v'.ok) : Li w s v' W' := ⟨hr, ho, h.s0, h.b.trans (ht.toBelow h.b.size h.s0)⟩
theorem Li.new {w W : World} (h : Below w.heap.size w W) : Calls Try.prog 7 #[] W fun e w' => e = .returned (.pointer (some ⟨W.heap.size, 0, none⟩)) ∧ Li w W.heap.size ev0 w' :=
  (new_c W).mono (by rintro e w' ⟨rfl, hr, hb⟩; exact ⟨rfl, hr, ev0_ok, h.size, h.trans (hb.mono h.size)⟩)
theorem Li.sent {w : World} {s : Nat} {v : Ev} {W : World} (h : Li w s v W) (hn : v.n < 4611686018427387904) : Calls Try.prog 11 #[.pointer (some ⟨s, 0, none⟩)] W fun e w' => e = .returned (.bool v.snt.1) ∧ Li w s v.snt.2 w' :=
  (sent_c s v W h.p h.o hn).mono (by rintro e w' ⟨rfl, hr, ht⟩; exact ⟨rfl, h.tn ht hr (v.snt_ok h.o hn)⟩)
theorem Li.state {w : World} {s : Nat} {v : Ev} {W : World} (h : Li w s v W) : Calls Try.prog 9 #[.pointer (some ⟨s, 0, none⟩)] W fun e w' => e = .returned (.int .i64 v.s) ∧ w' = W := state_c s v W h.p h.o
theorem Li.acked {w : World} {s : Nat} {v : Ev} {W : World} (h : Li w s v W) (m x y z : Int) (f : Bool) : Calls Try.prog 15 #[.pointer (some ⟨s, 0, none⟩), .int .i64 m, .agg #[.int .i64 x, .int .i64 y, .int .i64 z], .bool f] W fun e w' => e = .returned (.tuple #[.bool (v.ack m x y z f).1, .int .i64 (v.ack m x y z f).2.1]) ∧ Li w s (v.ack m x y z f).2.2 w' :=
  (acked_c s v m x y z f W h.p h.o).mono (by rintro e w' ⟨rfl, hr, ht⟩; exact ⟨rfl, h.tn ht hr (v.ack_ok m x y z f h.o)⟩)
theorem Li.lost {w : World} {s : Nat} {v : Ev} {W : World} (h : Li w s v W) (m : Int) : Calls Try.prog 13 #[.pointer (some ⟨s, 0, none⟩), .int .i64 m] W fun e w' => e = .returned (.int .i64 (v.lst m).1) ∧ Li w s (v.lst m).2 w' :=
  (lost_c s v m W h.p h.o).mono (by rintro e w' ⟨rfl, hr, ht⟩; exact ⟨rfl, h.tn ht hr (v.lst_ok m h.o)⟩)

theorem lie_ack (K x y z : Int) (k1 : 1 ≤ K) (k9 : K ≤ 9) (hc : cnts x y z) (hw : x + z < K ∨ K < x + z ∨ 0 < y) : (Ev.mk 1 K 0 0 0 0 0).ack K x y z true = (false, 0, ⟨3, K, 0, 0 + K, 0, 0, 0⟩) := by
  unfold Ev.ack
  rw [if_neg, if_neg, if_pos]
  · right
    unfold Ev.wrg
    simp only
    omega
  · rintro (h | ⟨h, -⟩)
    · exact absurd (show (1 : Int) = 3 from h) (by decide)
    · omega
  · intro h
    exact h ⟨⟨by omega, by show K ≤ K - 0 - 0; omega⟩, hc⟩
theorem snt3 (K h : Int) : (Ev.mk 3 K 0 h 0 0 0).snt = (false, ⟨3, K, 0, h, 0, 0, 0⟩) := by simp [Ev.snt]
theorem true_ack (K : Int) (k1 : 1 ≤ K) (k9 : K ≤ 9) : (Ev.mk 1 K 0 0 0 0 0).ack K K 0 0 true = (false, 0, ⟨4, K, 0, 0 + K, K, 0, 0⟩) := by
  unfold Ev.ack
  rw [if_neg, if_neg, if_neg]
  · simp only
    rw [if_pos (by omega)]
    rfl
  · rintro (h | h)
    · cases h
    · unfold Ev.wrg at h
      simp only at h
      omega
  · rintro (h | ⟨h, -⟩)
    · exact absurd (show (1 : Int) = 3 from h) (by decide)
    · omega
  · intro h
    exact h ⟨⟨by omega, by show K ≤ K - 0 - 0; omega⟩, ⟨by omega, by omega⟩, ⟨by omega, by omega⟩, ⟨by omega, by omega⟩⟩

set_option maxRecDepth 100000 in
set_option maxHeartbeats 2000000 in
theorem lies_walk (n lie : Int) (w : World) (hn0 : -9223372036854775808 ≤ n) (hn1 : n ≤ 9223372036854775807) : Calls Try.prog 6 #[.int .i64 n, .int .i64 lie] w fun e w' => e = .returned (.bool true) ∧ Below w.heap.size w w' := by
  obtain ⟨T, hT⟩ : ∃ T, n.tmod 9 = T := ⟨_, rfl⟩
  obtain ⟨hT0, hT1⟩ : -9 < T ∧ T < 9 := by rw [← hT]; exact tm9 n
  have i1 : IntKind.i64.wrap (1 + T) = 1 + T := wrp _ (by omega) (by omega)
  have hL := and8 lie
  obtain ⟨M, hM⟩ : ∃ M, lie % 256 = M := ⟨_, rfl⟩
  have m0 : 0 ≤ M := by rw [← hM]; omega
  have m1 : M < 256 := by rw [← hM]; omega
  rw [hM] at hL
  have i2 : IntKind.i64.wrap (1 + M) = 1 + M := wrp _ (by omega) (by omega)
  clear hM
  go_enter Try.func6, Try.ntmps6
  go_upto_if 20 with fail
  go_cut [0] (fun s0 wx => ∃ K : Int, s0 = .int .i64 K ∧ 1 ≤ K ∧ K ≤ 9 ∧ Aside (wx = w))
  case first =>
    by_cases hlt : 1 + T < 1
    · go_wp2
      go_meet
      case rel => exact ⟨1, rfl, by omega, by omega, rfl⟩
    · go_wp2
      go_meet
      case rel => exact ⟨1 + T, rfl, by omega, by omega, rfl⟩
  obtain ⟨K, rfl, k1, k9, HW⟩ := hcut
  clear hT0 hT1 hT i1 hn0 hn1
  have hw : wc = w := HW.out
  subst wc
  have HB0 : Aside (Below w.heap.size w w) := Below.refl _ _
  go_wp2
  go_loopg [5] 5 (fun kx s5 wr => ∃ j : Nat, s5 = .int .i64 (j : Int) ∧ j ≤ 4 ∧ 5 - j ≤ kx ∧ Aside (Below w.heap.size w wr))
  case atStart => exact ⟨0, rfl, by omega, by omega, HB0.out⟩
  case round =>
    obtain ⟨j, rfl, hj, hk, HB⟩ := hrel
    clear HB0
    have h1 := Li.new HB.out
    generalize wr.heap.size = sb at *
    have h1' : Calls Try.prog 7 #[] wr fun e w' => e = .returned (.pointer (some ⟨sb, 0, none⟩)) ∧ Li w sb ev0 w' := h1
    by_cases hlt : j < 4
    rotate_left
    · obtain rfl : j = 4 := by omega
      clear hlt
      go_wp2_with fail
      refine h1.mono ?_
      rintro e w1 ⟨rfl, hL1⟩
      have HL1 : Aside (Li w sb ⟨1, 0, 0, 0, 0, 0, 0⟩ w1) := hL1
      clear h1 h1' hL1 HB
      go_wp2
      go_loopg [13] 11 (fun kx s13 wr => ∃ k : Nat, s13 = .int .i64 (k : Int) ∧ (k : Int) ≤ K ∧ 11 - k ≤ kx ∧ Aside (Li w sb ⟨1, k, 0, 0, 0, 0, 0⟩ wr))
      case atStart => exact ⟨0, rfl, by omega, by omega, HL1.out⟩
      case round =>
        obtain ⟨k, rfl, hkk, hg, HI⟩ := hrel
        by_cases hl2 : (k : Int) < K
        · have n8 : IntKind.i64.wrap ((k : Int) + 1) = (k : Int) + 1 := wrp _ (by omega) (by omega)
          have h2 := HI.out.sent (by show (k : Int) < _; omega)
          rw [show (Ev.mk 1 k 0 0 0 0 0).snt = (true, ⟨1, (k : Int) + 1, 0, 0, 0, 0, 0⟩) by unfold Ev.snt; rw [if_pos rfl]; simp only; rw [if_neg (by omega)]] at h2
          dsimp only at h2
          go_wp2_with fail
          refine h2.mono ?_
          rintro e w2 ⟨rfl, h3⟩
          have HN : Aside (Li w sb ⟨1, ((k + 1 : Nat) : Int), 0, 0, 0, 0, 0⟩ w2) := h3
          clear h2 h3
          go_wp2
          go_roundg (11 - (k + 1))
          case measure => omega
          case rel => exact ⟨k + 1, by simp, by omega, Nat.le_refl _, HN.out⟩
        · have hkK : (k : Int) = K := by omega
          have HI2 : Aside (Li w sb ⟨1, K, 0, 0, 0, 0, 0⟩ wr) := by rw [← hkK]; exact HI.out
          have h2 := HI2.out.acked K K 0 0 true
          rw [true_ack K k1 k9] at h2
          dsimp only at h2
          clear hkK HI HL1 HI2
          go_wp2_with fail
          refine h2.mono ?_
          rintro e w2 ⟨rfl, h3⟩
          have h4 := h3.state
          have HB6 : Aside (Below w.heap.size w w2) := h3.b
          dsimp only at h4
          clear h2 h3
          go_wp2_with fail
          refine h4.mono ?_
          rintro e w3 ⟨rfl, hw3⟩
          subst w3
          go_wp2
          go_ret
          exact ⟨rfl, HB6.out⟩
    · have c3 : (j : Int) < 4 := by omega
      have n7 : IntKind.i64.wrap ((j : Int) + 1) = (j : Int) + 1 := wrp _ (by omega) (by omega)
      go_wp2_with fail
      refine h1.mono ?_
      rintro e w1 ⟨rfl, hL1⟩
      have HL1 : Aside (Li w sb ⟨1, 0, 0, 0, 0, 0, 0⟩ w1) := hL1
      clear h1 h1' hL1 HB
      go_wp2
      go_loopg [7] 11 (fun kx s7 wr => ∃ k : Nat, s7 = .int .i64 (k : Int) ∧ (k : Int) ≤ K ∧ 11 - k ≤ kx ∧ Aside (Li w sb ⟨1, k, 0, 0, 0, 0, 0⟩ wr))
      case atStart => exact ⟨0, rfl, by omega, by omega, HL1.out⟩
      case round =>
        obtain ⟨k, rfl, hkk, hg, HI⟩ := hrel
        by_cases hl2 : (k : Int) < K
        · have n8 : IntKind.i64.wrap ((k : Int) + 1) = (k : Int) + 1 := wrp _ (by omega) (by omega)
          have h2 := HI.out.sent (by show (k : Int) < _; omega)
          rw [show (Ev.mk 1 k 0 0 0 0 0).snt = (true, ⟨1, (k : Int) + 1, 0, 0, 0, 0, 0⟩) by unfold Ev.snt; rw [if_pos rfl]; simp only; rw [if_neg (by omega)]] at h2
          dsimp only at h2
          go_wp2_with fail
          refine h2.mono ?_
          rintro e w2 ⟨rfl, h3⟩
          have HN : Aside (Li w sb ⟨1, ((k + 1 : Nat) : Int), 0, 0, 0, 0, 0⟩ w2) := h3
          clear h2 h3
          go_wp2
          go_roundg (11 - (k + 1))
          case measure => omega
          case rel => exact ⟨k + 1, by simp, by omega, Nat.le_refl _, HN.out⟩
        · have hkK : (k : Int) = K := by omega
          have HI2 : Aside (Li w sb ⟨1, K, 0, 0, 0, 0, 0⟩ wr) := by rw [← hkK]; exact HI.out
          clear hkK HI HL1
          go_upto_region 16 with fail
          have i3 : IntKind.i64.wrap (K - (1 + M)) = K - (1 + M) := wrp _ (by omega) (by omega)
          have i4 : IntKind.i64.wrap (K + (1 + M)) = K + (1 + M) := wrp _ (by omega) (by omega)
          by_cases hm : 0 < K - (1 + M)
          · skip
            have hj4 : j = 0 ∨ j = 1 ∨ j = 2 ∨ j = 3 := by omega
            rcases hj4 with rfl | rfl | rfl | rfl
            · have HAK : Aside (∀ X, Li w sb ⟨1, K, 0, 0, 0, 0, 0⟩ X → Calls Try.prog 15 #[.pointer (some ⟨sb, 0, none⟩), .int .i64 K, .agg #[.int .i64 (K - (1 + M)), .int .i64 (0), .int .i64 (0)], .bool true] X fun e w' => e = .returned (.tuple #[.bool false, .int .i64 0]) ∧ Li w sb ⟨3, K, 0, 0 + K, 0, 0, 0⟩ w') := fun X h => by
                have := h.acked K (K - (1 + M)) (0) (0) true
                rwa [lie_ack K _ _ _ k1 k9 ⟨⟨by omega, by omega⟩, ⟨by omega, by omega⟩, ⟨by omega, by omega⟩⟩ (by omega)] at this
              go_wp2_with fail
              refine Calls.mono (HAK.out _ (HI2.out.bl (bel_trans (bel1 _ _) (bel1 _ _)))) ?_
              rintro e w2 ⟨rfl, h3⟩
              have h4 := h3.state
              have h5 := h3.sent (by show K < _; omega)
              rw [snt3] at h5
              dsimp only at h4 h5
              clear h3 HAK HI2
              go_wp2_with fail
              refine h4.mono ?_
              rintro e w3 ⟨rfl, hw3⟩
              subst w3
              go_wp2_with fail
              refine h5.mono ?_
              rintro e w3 ⟨rfl, h6⟩
              have HB6 : Aside (Below w.heap.size w w3) := h6.b
              clear h4 h5 h6
              go_wp2
              go_roundg (5 - (0 + 1))
              case measure => omega
              case rel => exact ⟨0 + 1, rfl, by omega, Nat.le_refl _, HB6.out⟩
            · have HAK : Aside (∀ X, Li w sb ⟨1, K, 0, 0, 0, 0, 0⟩ X → Calls Try.prog 15 #[.pointer (some ⟨sb, 0, none⟩), .int .i64 K, .agg #[.int .i64 (K + (1 + M)), .int .i64 (0), .int .i64 (0)], .bool true] X fun e w' => e = .returned (.tuple #[.bool false, .int .i64 0]) ∧ Li w sb ⟨3, K, 0, 0 + K, 0, 0, 0⟩ w') := fun X h => by
                have := h.acked K (K + (1 + M)) (0) (0) true
                rwa [lie_ack K _ _ _ k1 k9 ⟨⟨by omega, by omega⟩, ⟨by omega, by omega⟩, ⟨by omega, by omega⟩⟩ (by omega)] at this
              go_wp2_with fail
              refine Calls.mono (HAK.out _ (HI2.out.bl (bel_trans (bel1 _ _) (bel1 _ _)))) ?_
              rintro e w2 ⟨rfl, h3⟩
              have h4 := h3.state
              have h5 := h3.sent (by show K < _; omega)
              rw [snt3] at h5
              dsimp only at h4 h5
              clear h3 HAK HI2
              go_wp2_with fail
              refine h4.mono ?_
              rintro e w3 ⟨rfl, hw3⟩
              subst w3
              go_wp2_with fail
              refine h5.mono ?_
              rintro e w3 ⟨rfl, h6⟩
              have HB6 : Aside (Below w.heap.size w w3) := h6.b
              clear h4 h5 h6
              go_wp2
              go_roundg (5 - (1 + 1))
              case measure => omega
              case rel => exact ⟨1 + 1, rfl, by omega, Nat.le_refl _, HB6.out⟩
            · have HAK : Aside (∀ X, Li w sb ⟨1, K, 0, 0, 0, 0, 0⟩ X → Calls Try.prog 15 #[.pointer (some ⟨sb, 0, none⟩), .int .i64 K, .agg #[.int .i64 (K), .int .i64 (1 + M), .int .i64 (0)], .bool true] X fun e w' => e = .returned (.tuple #[.bool false, .int .i64 0]) ∧ Li w sb ⟨3, K, 0, 0 + K, 0, 0, 0⟩ w') := fun X h => by
                have := h.acked K (K) (1 + M) (0) true
                rwa [lie_ack K _ _ _ k1 k9 ⟨⟨by omega, by omega⟩, ⟨by omega, by omega⟩, ⟨by omega, by omega⟩⟩ (by omega)] at this
              go_wp2_with fail
              refine Calls.mono (HAK.out _ (HI2.out.bl (bel_trans (bel1 _ _) (bel1 _ _)))) ?_
              rintro e w2 ⟨rfl, h3⟩
              have h4 := h3.state
              have h5 := h3.sent (by show K < _; omega)
              rw [snt3] at h5
              dsimp only at h4 h5
              clear h3 HAK HI2
              go_wp2_with fail
              refine h4.mono ?_
              rintro e w3 ⟨rfl, hw3⟩
              subst w3
              go_wp2_with fail
              refine h5.mono ?_
              rintro e w3 ⟨rfl, h6⟩
              have HB6 : Aside (Below w.heap.size w w3) := h6.b
              clear h4 h5 h6
              go_wp2
              go_roundg (5 - (2 + 1))
              case measure => omega
              case rel => exact ⟨2 + 1, rfl, by omega, Nat.le_refl _, HB6.out⟩
            · have HAK : Aside (∀ X, Li w sb ⟨1, K, 0, 0, 0, 0, 0⟩ X → Calls Try.prog 15 #[.pointer (some ⟨sb, 0, none⟩), .int .i64 K, .agg #[.int .i64 (K), .int .i64 (0), .int .i64 (1 + M)], .bool true] X fun e w' => e = .returned (.tuple #[.bool false, .int .i64 0]) ∧ Li w sb ⟨3, K, 0, 0 + K, 0, 0, 0⟩ w') := fun X h => by
                have := h.acked K (K) (0) (1 + M) true
                rwa [lie_ack K _ _ _ k1 k9 ⟨⟨by omega, by omega⟩, ⟨by omega, by omega⟩, ⟨by omega, by omega⟩⟩ (by omega)] at this
              go_wp2_with fail
              refine Calls.mono (HAK.out _ (HI2.out.bl (bel_trans (bel1 _ _) (bel1 _ _)))) ?_
              rintro e w2 ⟨rfl, h3⟩
              have h4 := h3.state
              have h5 := h3.sent (by show K < _; omega)
              rw [snt3] at h5
              dsimp only at h4 h5
              clear h3 HAK HI2
              go_wp2_with fail
              refine h4.mono ?_
              rintro e w3 ⟨rfl, hw3⟩
              subst w3
              go_wp2_with fail
              refine h5.mono ?_
              rintro e w3 ⟨rfl, h6⟩
              have HB6 : Aside (Below w.heap.size w w3) := h6.b
              clear h4 h5 h6
              go_wp2
              go_roundg (5 - (3 + 1))
              case measure => omega
              case rel => exact ⟨3 + 1, rfl, by omega, Nat.le_refl _, HB6.out⟩
          · skip
            have hj4 : j = 0 ∨ j = 1 ∨ j = 2 ∨ j = 3 := by omega
            rcases hj4 with rfl | rfl | rfl | rfl
            · have HAK : Aside (∀ X, Li w sb ⟨1, K, 0, 0, 0, 0, 0⟩ X → Calls Try.prog 15 #[.pointer (some ⟨sb, 0, none⟩), .int .i64 K, .agg #[.int .i64 (0), .int .i64 (0), .int .i64 (0)], .bool true] X fun e w' => e = .returned (.tuple #[.bool false, .int .i64 0]) ∧ Li w sb ⟨3, K, 0, 0 + K, 0, 0, 0⟩ w') := fun X h => by
                have := h.acked K (0) (0) (0) true
                rwa [lie_ack K _ _ _ k1 k9 ⟨⟨by omega, by omega⟩, ⟨by omega, by omega⟩, ⟨by omega, by omega⟩⟩ (by omega)] at this
              go_wp2_with fail
              refine Calls.mono (HAK.out _ (HI2.out.bl (bel_trans (bel1 _ _) (bel1 _ _)))) ?_
              rintro e w2 ⟨rfl, h3⟩
              have h4 := h3.state
              have h5 := h3.sent (by show K < _; omega)
              rw [snt3] at h5
              dsimp only at h4 h5
              clear h3 HAK HI2
              go_wp2_with fail
              refine h4.mono ?_
              rintro e w3 ⟨rfl, hw3⟩
              subst w3
              go_wp2_with fail
              refine h5.mono ?_
              rintro e w3 ⟨rfl, h6⟩
              have HB6 : Aside (Below w.heap.size w w3) := h6.b
              clear h4 h5 h6
              go_wp2
              go_roundg (5 - (0 + 1))
              case measure => omega
              case rel => exact ⟨0 + 1, rfl, by omega, Nat.le_refl _, HB6.out⟩
            · have HAK : Aside (∀ X, Li w sb ⟨1, K, 0, 0, 0, 0, 0⟩ X → Calls Try.prog 15 #[.pointer (some ⟨sb, 0, none⟩), .int .i64 K, .agg #[.int .i64 (K + (1 + M)), .int .i64 (0), .int .i64 (0)], .bool true] X fun e w' => e = .returned (.tuple #[.bool false, .int .i64 0]) ∧ Li w sb ⟨3, K, 0, 0 + K, 0, 0, 0⟩ w') := fun X h => by
                have := h.acked K (K + (1 + M)) (0) (0) true
                rwa [lie_ack K _ _ _ k1 k9 ⟨⟨by omega, by omega⟩, ⟨by omega, by omega⟩, ⟨by omega, by omega⟩⟩ (by omega)] at this
              go_wp2_with fail
              refine Calls.mono (HAK.out _ (HI2.out.bl (bel_trans (bel1 _ _) (bel1 _ _)))) ?_
              rintro e w2 ⟨rfl, h3⟩
              have h4 := h3.state
              have h5 := h3.sent (by show K < _; omega)
              rw [snt3] at h5
              dsimp only at h4 h5
              clear h3 HAK HI2
              go_wp2_with fail
              refine h4.mono ?_
              rintro e w3 ⟨rfl, hw3⟩
              subst w3
              go_wp2_with fail
              refine h5.mono ?_
              rintro e w3 ⟨rfl, h6⟩
              have HB6 : Aside (Below w.heap.size w w3) := h6.b
              clear h4 h5 h6
              go_wp2
              go_roundg (5 - (1 + 1))
              case measure => omega
              case rel => exact ⟨1 + 1, rfl, by omega, Nat.le_refl _, HB6.out⟩
            · have HAK : Aside (∀ X, Li w sb ⟨1, K, 0, 0, 0, 0, 0⟩ X → Calls Try.prog 15 #[.pointer (some ⟨sb, 0, none⟩), .int .i64 K, .agg #[.int .i64 (K), .int .i64 (1 + M), .int .i64 (0)], .bool true] X fun e w' => e = .returned (.tuple #[.bool false, .int .i64 0]) ∧ Li w sb ⟨3, K, 0, 0 + K, 0, 0, 0⟩ w') := fun X h => by
                have := h.acked K (K) (1 + M) (0) true
                rwa [lie_ack K _ _ _ k1 k9 ⟨⟨by omega, by omega⟩, ⟨by omega, by omega⟩, ⟨by omega, by omega⟩⟩ (by omega)] at this
              go_wp2_with fail
              refine Calls.mono (HAK.out _ (HI2.out.bl (bel_trans (bel1 _ _) (bel1 _ _)))) ?_
              rintro e w2 ⟨rfl, h3⟩
              have h4 := h3.state
              have h5 := h3.sent (by show K < _; omega)
              rw [snt3] at h5
              dsimp only at h4 h5
              clear h3 HAK HI2
              go_wp2_with fail
              refine h4.mono ?_
              rintro e w3 ⟨rfl, hw3⟩
              subst w3
              go_wp2_with fail
              refine h5.mono ?_
              rintro e w3 ⟨rfl, h6⟩
              have HB6 : Aside (Below w.heap.size w w3) := h6.b
              clear h4 h5 h6
              go_wp2
              go_roundg (5 - (2 + 1))
              case measure => omega
              case rel => exact ⟨2 + 1, rfl, by omega, Nat.le_refl _, HB6.out⟩
            · have HAK : Aside (∀ X, Li w sb ⟨1, K, 0, 0, 0, 0, 0⟩ X → Calls Try.prog 15 #[.pointer (some ⟨sb, 0, none⟩), .int .i64 K, .agg #[.int .i64 (K), .int .i64 (0), .int .i64 (1 + M)], .bool true] X fun e w' => e = .returned (.tuple #[.bool false, .int .i64 0]) ∧ Li w sb ⟨3, K, 0, 0 + K, 0, 0, 0⟩ w') := fun X h => by
                have := h.acked K (K) (0) (1 + M) true
                rwa [lie_ack K _ _ _ k1 k9 ⟨⟨by omega, by omega⟩, ⟨by omega, by omega⟩, ⟨by omega, by omega⟩⟩ (by omega)] at this
              go_wp2_with fail
              refine Calls.mono (HAK.out _ (HI2.out.bl (bel_trans (bel1 _ _) (bel1 _ _)))) ?_
              rintro e w2 ⟨rfl, h3⟩
              have h4 := h3.state
              have h5 := h3.sent (by show K < _; omega)
              rw [snt3] at h5
              dsimp only at h4 h5
              clear h3 HAK HI2
              go_wp2_with fail
              refine h4.mono ?_
              rintro e w3 ⟨rfl, hw3⟩
              subst w3
              go_wp2_with fail
              refine h5.mono ?_
              rintro e w3 ⟨rfl, h6⟩
              have HB6 : Aside (Below w.heap.size w w3) := h6.b
              clear h4 h5 h6
              go_wp2
              go_roundg (5 - (3 + 1))
              case measure => omega
              case rel => exact ⟨3 + 1, rfl, by omega, Nat.le_refl _, HB6.out⟩
end Go.Proofs.Ythfloemckhbljaa
