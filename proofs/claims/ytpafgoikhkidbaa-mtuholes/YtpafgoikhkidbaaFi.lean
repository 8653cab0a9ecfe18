/- MtuFinds: how far a search has come; the walk. -/
import Derived.Test.YtpafgoikhkidbaaHo
namespace Go.Proofs.Ytpafgoikhkidbaa
open Go.RowKit
set_option linter.unusedVariables false

/-- What is left to search behind k steps. -/
def halv : Nat → Int
  | 0 => 65536
  | k + 1 => halv k / 2
theorem halv_le (k : Nat) : halv (12 + k) ≤ 16 := by
  induction k with
  | zero => decide
  | succ k ih => show halv (12 + k) / 2 ≤ 16; omega
theorem halv_on {k : Nat} (h : 20 ≤ halv k) : k ≤ 11 := by
  by_cases hk : k ≤ 11
  · exact hk
  · have := halv_le (k - 12)
    rw [show 12 + (k - 12) = k by omega] at this
    omega
/-- How far a search has come behind i rounds, of a path that lets through p. -/
structure Fi (m p : Int) (k : Nat) (i : Int) (v : Mv) : Prop where
  o : v.ok
  sp : v.s ≤ p
  cm : v.c ≤ m
  pc : p ≤ v.c ∨ m ≤ v.c
  hl : v.c - v.s ≤ halv k
  kk : k ≤ 12
  ik : i ≤ 3 * k + v.l
  lp : v.l = 0 ∨ p < v.prb
/-- What comes through. -/
theorem Fi.ack {m p : Int} {k : Nat} {i : Int} {v : Mv} (h : Fi m p k i v) (hon : v.on = true) (hp : v.prb ≤ p) : (v.ack v.prb) = (0, { v with s := v.prb, l := 0 }) ∧ Fi m p (k + 1) (i + 1) { v with s := v.prb, l := 0 } := by
  have hw : v.wr v.prb = false := by simp [Mv.wr, hon]
  have ha : v.ack v.prb = (0, { v with s := v.prb, l := 0 }) := by unfold Mv.ack; rw [hw]; rfl
  refine ⟨ha, ?_⟩
  have hok := v.ack_ok v.prb h.o
  rw [ha] at hok
  have hl0 := h.lp.resolve_right (by omega)
  have hd := of_decide_eq_true hon
  have hprb : v.prb = (v.s + v.c + 1) / 2 := by unfold Mv.prb; rw [if_neg (by omega)]
  have h11 := halv_on (k := k) (by have := h.hl; omega)
  have h1 := h.hl
  have h2 := h.ik
  refine ⟨hok, hp, h.cm, h.pc, ?_, by omega, ?_, .inl rfl⟩
  · show v.c - v.prb ≤ halv k / 2
    omega
  · show i + 1 ≤ 3 * ((k + 1 : Nat) : Int) + 0
    omega
/-- One is lost now and then, and then one comes through. -/
theorem Fi.spare {m p : Int} {k : Nat} {i : Int} {v : Mv} (h : Fi m p k i v) (hon : v.on = true) (hp : v.prb ≤ p) : (v.lose v.prb) = (0, { v with l := 1 }) ∧ ({ v with l := 1 } : Mv).ack v.prb = (0, { v with s := v.prb, l := 0 }) := by
  have hw : v.wr v.prb = false := by simp [Mv.wr, hon]
  have hl0 := h.lp.resolve_right (by omega)
  refine ⟨?_, ?_⟩
  · unfold Mv.lose
    rw [hw, hl0]
    simp
  · have hw' : ({ v with l := 1 } : Mv).wr v.prb = false := hw
    unfold Mv.ack
    rw [hw']
    rfl
/-- What does not come through. -/
theorem Fi.lose {m p : Int} {k : Nat} {i : Int} {v : Mv} (h : Fi m p k i v) (hon : v.on = true) (hp : p < v.prb) : (v.lose v.prb).1 = 0 ∧ ((v.lose v.prb).2.ack (v.prb + 1)) = (2, (v.lose v.prb).2) ∧ ∃ k', Fi m p k' (i + 1) (v.lose v.prb).2 := by
  have hw : v.wr v.prb = false := by simp [Mv.wr, hon]
  have hok := v.lose_ok v.prb h.o
  have hd := of_decide_eq_true hon
  have hprb : v.prb = (v.s + v.c + 1) / 2 := by unfold Mv.prb; rw [if_neg (by omega)]
  have h11 := halv_on (k := k) (by have := h.hl; omega)
  have h1 := h.hl
  have h2 := h.ik
  have h3 := h.o.l0
  have h4 := h.o.l1
  have h5 := h.o.b0
  have h6 := h.o.s0
  by_cases hl : v.l = 2
  · have ha : v.lose v.prb = (0, { v with c := v.prb - 1, l := 0 }) := by unfold Mv.lose; rw [hw, if_pos hl]; rfl
    rw [ha] at hok ⊢
    refine ⟨rfl, ?_, k + 1, hok, h.sp, ?_, .inl (by show p ≤ v.prb - 1; omega), ?_, by omega, ?_, .inl rfl⟩
    · have : ({ v with c := v.prb - 1, l := 0 } : Mv).wr (v.prb + 1) = true := by
        have hb : ({ v with c := v.prb - 1, l := 0 } : Mv).prb ≤ v.prb := by
          unfold Mv.prb
          split
          · simp only; omega
          · simp only at *; omega
        simp [Mv.wr]
        right
        omega
      unfold Mv.ack
      rw [this]
      rfl
    · show v.prb - 1 ≤ m
      have := h.cm
      omega
    · show v.prb - 1 - v.s ≤ halv k / 2
      omega
    · show i + 1 ≤ 3 * ((k + 1 : Nat) : Int) + 0
      omega
  · have ha : v.lose v.prb = (0, { v with l := v.l + 1 }) := by unfold Mv.lose; rw [hw, if_neg hl]; rfl
    rw [ha] at hok ⊢
    refine ⟨rfl, ?_, k, hok, h.sp, h.cm, h.pc, h1, h.kk, ?_, .inr hp⟩
    · have : ({ v with l := v.l + 1 } : Mv).wr (v.prb + 1) = true := by
        have hb : ({ v with l := v.l + 1 } : Mv).prb = v.prb := rfl
        simp [Mv.wr, hb]
        right
        omega
      unfold Mv.ack
      rw [this]
      rfl
    · show i + 1 ≤ 3 * (k : Int) + (v.l + 1)
      omega
theorem Fi.off {m p : Int} {k : Nat} {i : Int} {v : Mv} (h : Fi m p k i v) (hon : v.on = false) : v.prb = 0 ∧ v.s ≤ min p m ∧ min p m - 20 < v.s := by
  have hd := of_decide_eq_false hon
  have h1 := h.sp
  have h2 := h.cm
  have h3 := h.pc
  have h4 := h.o.c0
  refine ⟨by unfold Mv.prb; rw [if_pos (by omega)], by omega, by omega⟩
theorem Fi.few {m p : Int} {k : Nat} {i : Int} {v : Mv} (h : Fi m p k i v) : i < 200 := by
  have h1 := h.ik
  have h2 := h.kk
  have h3 := h.o.l1
  omega
theorem fi0 {b m p : Int} (h : may b m = true) (hp : b ≤ p) : Fi m p 0 0 (mv0 b m) := by
  have ho := mv0_ok h
  have h1 := ho.b0
  have h2 := ho.c1
  simp only [may, Bool.and_eq_true, decide_eq_true_eq] at h
  refine ⟨ho, hp, Int.le_refl _, .inr (Int.le_refl _), ?_, by omega, by simp [mv0], .inl rfl⟩
  show m - b ≤ 65536
  omega
/-- A search of one's own, and nothing older turned. -/
structure Ow (w : World) (s : Nat) (v : Mv) (W : World) : Prop where
  p : Rt 42 W s v
  o : v.ok
  s0 : w.heap.size ≤ s
  b : Below w.heap.size w W
theorem Ow.bl {w : World} {s : Nat} {v : Mv} {W W' : World} (h : Ow w s v W) (hb : Below W.heap.size W W') : Ow w s v W' := ⟨h.p.below hb, h.o, h.s0, h.b.trans (hb.mono h.b.size)⟩
theorem Ow.tn {w : World} {s : Nat} {v v' : Mv} {W W' : World} (h : Ow w s v W) (ht : Tn s W W') (hr : Rt 42 W' s v') (ho : v'.ok) : Ow w s v' W' := ⟨hr, ho, h.s0, h.b.trans (ht.toBelow h.b.size h.s0)⟩
theorem Ow.size {w : World} {s : Nat} {v : Mv} {W : World} (h : Ow w s v W) : Calls Try.prog 12 #[.pointer (some ⟨s, 0, none⟩)] W fun e w' => e = .returned (.int .i64 v.s) ∧ w' = W := size_c s v W h.p h.o
theorem Ow.probe {w : World} {s : Nat} {v : Mv} {W : World} (h : Ow w s v W) : Calls Try.prog 10 #[.pointer (some ⟨s, 0, none⟩)] W fun e w' => e = .returned (.tuple #[.int .i64 v.prb, .bool v.on]) ∧ Ow w s v w' :=
  (probe_c s v W h.p h.o).mono (by rintro e w' ⟨rfl, hb⟩; exact ⟨rfl, h.bl hb⟩)
theorem Ow.acked {w : World} {s : Nat} {v : Mv} {W : World} (h : Ow w s v W) (n : Int) : Calls Try.prog 13 #[.pointer (some ⟨s, 0, none⟩), .int .i64 n] W fun e w' => e = .returned (.int .i64 (v.ack n).1) ∧ Ow w s (v.ack n).2 w' :=
  (acked_c s v n W h.p h.o).mono (by rintro e w' ⟨rfl, hr, ht⟩; exact ⟨rfl, h.tn ht hr (v.ack_ok n h.o)⟩)
theorem Ow.lost {w : World} {s : Nat} {v : Mv} {W : World} (h : Ow w s v W) (n : Int) : Calls Try.prog 15 #[.pointer (some ⟨s, 0, none⟩), .int .i64 n] W fun e w' => e = .returned (.int .i64 (v.lose n).1) ∧ Ow w s (v.lose n).2 w' :=
  (lost_c s v n W h.p h.o).mono (by rintro e w' ⟨rfl, hr, ht⟩; exact ⟨rfl, h.tn ht hr (v.lose_ok n h.o)⟩)
theorem Ow.hole {w : World} {s : Nat} {v : Mv} {W : World} (h : Ow w s v W) : Calls Try.prog 17 #[.pointer (some ⟨s, 0, none⟩)] W fun e w' => e = .returned (.tuple #[]) ∧ Ow w s v.hole w' :=
  (hole_c s v W h.p h.o).mono (by rintro e w' ⟨rfl, hr, ht⟩; exact ⟨rfl, h.tn ht hr (v.hole_ok h.o)⟩)
theorem may1 : may 1200 1500 = true := by decide

set_option maxRecDepth 100000 in
theorem finds_no (b m p : Int) (w : World) (h : may b m = false) : Calls Try.prog 5 #[.int .i64 b, .int .i64 m, .int .i64 p] w fun e w' => e = .returned (.bool true) ∧ Below w.heap.size w w' := by
  have h1 := new_no b m w h
  have h2 := new_c 1200 1500 w may1
  clear h
  go_enter Try.func5, Try.ntmps5
  go_wp2_with fail
  refine h1.mono ?_
  rintro e w1 ⟨rfl, hw⟩
  subst w1
  clear h1
  go_wp2_with fail
  refine h2.mono ?_
  rintro e w1 ⟨rfl, hr, hb⟩
  have h3 := size_c _ _ w1 hr (mv0_ok may1)
  have HB : Aside (Below w.heap.size w w1) := hb
  rw [show (mv0 1200 1500).s = 1200 from rfl] at h3
  clear h2 hr hb
  generalize w.heap.size = s at h3 ⊢
  go_wp2_with fail
  refine h3.mono ?_
  rintro e w2 ⟨rfl, hw⟩
  subst w2
  go_wp2
  go_ret
  exact ⟨rfl, HB.out⟩
set_option maxRecDepth 100000 in
set_option maxHeartbeats 2000000 in
theorem finds_yes (b m q : Int) (w : World) (h : may b m = true) : Calls Try.prog 5 #[.int .i64 b, .int .i64 m, .int .i64 q] w fun e w' => e = .returned (.bool true) ∧ Below w.heap.size w w' := by
  have h1 := new_c b m w h
  have HN : Aside (∀ X, Calls Try.prog 7 #[.int .i64 1200, .int .i64 1500] X fun e w' => e = .returned (.tuple #[.pointer (some ⟨X.heap.size, 0, none⟩), .int .i64 0]) ∧ Rt 42 w' X.heap.size (mv0 1200 1500) ∧ Below X.heap.size X w') := fun X => new_c 1200 1500 X may1
  have i1 := max_if q b
  have HF : Aside (Fi m (max q b) 0 0 (mv0 b m)) := fi0 h (by omega)
  have HM : Aside (m ≤ 65527) := (mv0_ok h).c1
  have HB0 : Aside (1200 ≤ b) := (mv0_ok h).b0
  have i9 := min_if (max q b) m
  have HP : Aside (b ≤ max q b) := by show b ≤ max q b; omega
  clear h
  generalize max q b = p at *
  generalize mv0 b m = v0 at *
  go_enter Try.func5, Try.ntmps5
  go_wp2_with fail
  refine h1.mono ?_
  rintro e w1 ⟨rfl, hr1, hb1⟩
  have h2 := HN.out w1
  have HO : Aside (∀ X, Below w1.heap.size w1 X → Ow w w.heap.size v0 X) := fun X hX => ⟨hr1.below hX, HF.out.o, Nat.le_refl _, hb1.trans (hX.mono hb1.size)⟩
  clear h1 hr1 hb1 HN
  go_wp2_with fail
  refine h2.mono ?_
  rintro e w2 ⟨rfl, hr2, hb2⟩
  have h3 := size_c _ _ w2 hr2 (mv0_ok may1)
  rw [show (mv0 1200 1500).s = 1200 from rfl] at h3
  have HQ0 : Aside (Ow w w.heap.size v0 w2) := HO.out w2 hb2
  clear h2 hr2 hb2 HO
  generalize w1.heap.size = s1 at h3 ⊢
  generalize hs : w.heap.size = s at HQ0 ⊢
  go_wp2_with fail
  refine h3.mono ?_
  rintro e w3 ⟨rfl, hw⟩
  subst w3
  clear h3
  go_wp2
  go_loopg [11] 201 (fun kx s11 wr => ∃ (i : Nat) (k : Nat) (v : Mv), s11 = .int .i64 (i : Int) ∧ 201 - i ≤ kx ∧ Aside (Fi m p k (i : Int) v) ∧ Aside (Ow w s v wr))
  case atStart => exact ⟨0, 0, v0, rfl, by omega, HF.out, HQ0.out⟩
  case round =>
    obtain ⟨i, k, v, rfl, hk, HI, HQ⟩ := hrel
    clear HF HQ0
    have hi : (i : Int) < 200 := HI.out.few
    have h1 := HQ.out.probe
    go_wp2_with fail
    refine h1.mono ?_
    rintro e w4 ⟨rfl, hp⟩
    clear h1
    have HQ4 : Aside (Ow w s v w4) := hp
    clear hp HQ
    cases hon : v.on
    · obtain ⟨f1, f2, f3⟩ := HI.out.off hon
      rw [f1]
      have h5 := HQ4.out.size
      have HB : Aside (Below w.heap.size w w4) := HQ4.out.b
      have i2 : IntKind.i64.wrap (min p m - 20) = min p m - 20 := wrp _ (by have := HI.out.o.b0; have := HI.out.o.s0; omega) (by have := HM.out; omega)
      clear HI HQ4 f1 hon
      generalize v.s = S at *
      generalize min p m = M at *
      have g2 : decide (S ≤ M) = true := decide_eq_true f2
      have g3 : decide (M - 20 < S) = true := decide_eq_true f3
      go_wp2_with fail
      refine h5.mono ?_
      rintro e w5 ⟨rfl, hw⟩
      subst w5
      go_wp2_with fail
      refine h5.mono ?_
      rintro e w5 ⟨rfl, hw⟩
      subst w5
      go_wp2
      go_ret
      exact ⟨rfl, HB.out⟩
    · have h5 := HQ4.out.size
      have HA : Aside (v.prb ≤ p → v.ack v.prb = (0, { v with s := v.prb, l := 0 }) ∧ v.lose v.prb = (0, { v with l := 1 }) ∧ ({ v with l := 1 } : Mv).ack v.prb = (0, { v with s := v.prb, l := 0 }) ∧ Fi m p (k + 1) ((i : Int) + 1) { v with s := v.prb, l := 0 }) := fun hx => ⟨(HI.out.ack hon hx).1, (HI.out.spare hon hx).1, (HI.out.spare hon hx).2, (HI.out.ack hon hx).2⟩
      have HL : Aside (p < v.prb → (v.lose v.prb).1 = 0 ∧ ((v.lose v.prb).2.ack (v.prb + 1)) = (2, (v.lose v.prb).2) ∧ ∃ k', Fi m p k' ((i : Int) + 1) (v.lose v.prb).2) := fun hx => HI.out.lose hon hx
      have HPB := v.prb_b HI.out.o hon
      have HCM := HI.out.cm
      have HK : Aside (∀ X n, Ow w s v X → Calls Try.prog 13 #[.pointer (some ⟨s, 0, none⟩), .int .i64 n] X fun e w' => e = .returned (.int .i64 (v.ack n).1) ∧ Ow w s (v.ack n).2 w') := fun X n h => h.acked n
      have hLo := HQ4.out.lost v.prb
      have hAk := HQ4.out.acked v.prb
      have e1 : ¬ v.prb ≤ v.s := by omega
      have e2 : ¬ m < v.prb := by omega
      have n7 : IntKind.i64.wrap ((i : Int) + 1) = (i : Int) + 1 := wrp _ (by omega) (by omega)
      have n8 : IntKind.i64.wrap (v.prb + 1) = v.prb + 1 := wrp _ (by have := HI.out.o.b0; have := HI.out.o.s0; omega) (by omega)
      have HSB : Aside (∀ X n l, Ow w s { v with s := n, l := l } X → Calls Try.prog 12 #[.pointer (some ⟨s, 0, none⟩)] X fun e w' => e = .returned (.int .i64 n) ∧ w' = X) := fun X n l h => h.size
      clear HI hon HPB HCM
      generalize v.prb = P at *
      by_cases hpp : P ≤ p
      · obtain ⟨a1, a2, a3, a4⟩ := HA.out hpp
        rw [a1] at hAk
        rw [a2] at hLo
        dsimp only at hAk hLo
        have A3 : Aside _ := a3
        have A4 : Aside _ := a4
        clear a1 a2 a3 a4 HA HL
        by_cases hm : (i : Int).tmod 3 = 0
        · clear hAk
          go_wp2_with fail
          refine h5.mono ?_
          rintro e w5 ⟨rfl, hw⟩
          subst w5
          clear h5
          go_wp2_with fail
          refine hLo.mono ?_
          rintro e w5 ⟨rfl, hp5⟩
          have h6 := hp5.acked P
          rw [A3.out] at h6
          dsimp only at h6
          clear hp5 hLo
          go_wp2_with fail
          refine h6.mono ?_
          rintro e w6 ⟨rfl, hp6⟩
          have h7 := HSB.out _ _ _ hp6
          have HQ6 : Aside (Ow w s { v with s := P, l := 0 } w6) := hp6
          clear hp6 h6
          go_wp2_with fail
          refine h7.mono ?_
          rintro e w7 ⟨rfl, hw⟩
          subst w7
          go_wp2
          go_roundg (201 - (i + 1))
          case measure => omega
          case rel => exact ⟨i + 1, k + 1, _, rfl, Nat.le_refl _, A4.out, HQ6.out⟩
        · clear hLo
          have hm' : ((i : Int).tmod 3 == 0) = false := by simpa using hm
          go_wp2_with fail
          refine h5.mono ?_
          rintro e w5 ⟨rfl, hw⟩
          subst w5
          clear h5
          go_wp2_with fail
          refine hAk.mono ?_
          rintro e w6 ⟨rfl, hp6⟩
          have h7 := HSB.out _ _ _ hp6
          have HQ6 : Aside (Ow w s { v with s := P, l := 0 } w6) := hp6
          clear hp6 hAk
          go_wp2_with fail
          refine h7.mono ?_
          rintro e w7 ⟨rfl, hw⟩
          subst w7
          go_wp2
          go_roundg (201 - (i + 1))
          case measure => omega
          case rel => exact ⟨i + 1, k + 1, _, rfl, Nat.le_refl _, A4.out, HQ6.out⟩
      · obtain ⟨a1, a2, k', a3⟩ := HL.out (by omega)
        rw [a1] at hLo
        have A2 : Aside _ := a2
        have A3 : Aside _ := a3
        clear a1 a2 a3 HA HL hAk
        generalize (v.lose P).2 = v' at *
        go_wp2_with fail
        refine h5.mono ?_
        rintro e w5 ⟨rfl, hw⟩
        subst w5
        clear h5
        go_wp2_with fail
        refine hLo.mono ?_
        rintro e w5 ⟨rfl, hp5⟩
        have h6 := hp5.acked (P + 1)
        rw [A2.out] at h6
        dsimp only at h6
        clear hp5 hLo
        go_wp2_with fail
        refine h6.mono ?_
        rintro e w6 ⟨rfl, hp6⟩
        have HQ6 : Aside (Ow w s v' w6) := hp6
        clear hp6 h6
        go_wp2
        go_roundg (201 - (i + 1))
        case measure => omega
        case rel => exact ⟨i + 1, k', v', rfl, Nat.le_refl _, A3.out, HQ6.out⟩
theorem finds_walk (b m p : Int) (w : World) : Calls Try.prog 5 #[.int .i64 b, .int .i64 m, .int .i64 p] w fun e w' => e = .returned (.bool true) ∧ Below w.heap.size w w' := by
  cases h : may b m
  · exact finds_no b m p w h
  · exact finds_yes b m p w h
end Go.Proofs.Ytpafgoikhkidbaa
