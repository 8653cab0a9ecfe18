/- rtt's reference: Sample. -/
import Derived.Test.YthjfhckpgindfaaRf
namespace Go.Proofs.Ythjfhckpgindfaa
open Go.RowKit
set_option linter.unusedVariables false

set_option maxRecDepth 100000 in
theorem rsample_no (b : Nat) (t x : Int) (k : Bool) (w : World) (hn : t < 0 ∨ 1125899906842624 < t ∨ x < 0) : Calls Try.prog 16 #[.pointer (some ⟨b, 0, none⟩), .int .i64 t, .int .i64 x, .bool k] w fun e w' => e = .returned (.int .i64 2) ∧ w' = w := by
  by_cases h0 : t < 0
  · go_enter Try.func16, Try.ntmps16
    go_wp2
    go_ret
    exact ⟨rfl, rfl⟩
  · by_cases h1 : 1125899906842624 < t
    · go_enter Try.func16, Try.ntmps16
      go_wp2
      go_ret
      exact ⟨rfl, rfl⟩
    · have h2 : x < 0 := by omega
      go_enter Try.func16, Try.ntmps16
      go_wp2
      go_ret
      exact ⟨rfl, rfl⟩
set_option maxRecDepth 100000 in
theorem rsample_first (b : Nat) (v : Rv) (t x : Int) (k : Bool) (w : World) (h : Rt 34 w b v) (hh : v.h = false) (h0 : 0 ≤ t) (h1 : t ≤ 1125899906842624) (hx : 0 ≤ x) : Calls Try.prog 16 #[.pointer (some ⟨b, 0, none⟩), .int .i64 t, .int .i64 x, .bool k] w fun e w' => e = .returned (.int .i64 0) ∧ Rt 34 w' b (v.samp t x k) ∧ Tn b w w' := by
  obtain ⟨c0, c1, c2, c3, c4, c5⟩ := h.cells
  rw [hh] at c1
  have f1 := h.frozen 1
  have f2 := h.frozen 2
  have f3 := h.frozen 3
  have f4 := h.frozen 4
  have f5 := h.frozen 5
  have n0 : ¬ t < 0 := by omega
  have n1 : ¬ 1125899906842624 < t := by omega
  have n2 : ¬ x < 0 := by omega
  have i1 : t.tdiv 2 = t / 2 := Int.tdiv_eq_ediv_of_nonneg h0
  have i2 : IntKind.i64.wrap (t / 2) = t / 2 := wrp _ (by omega) (by omega)
  have r0 := h.set 2 (.int .i64 t) ⟨v.m, v.h, t, v.l, v.s, v.y⟩ rfl
  have r1 := r0.set 1 (.bool true) ⟨v.m, true, t, v.l, v.s, v.y⟩ rfl
  have r2 := r1.set 3 (.int .i64 t) ⟨v.m, true, t, t, v.s, v.y⟩ rfl
  have r3 := r2.set 4 (.int .i64 t) ⟨v.m, true, t, t, t, v.y⟩ rfl
  have r4 := r3.set 5 (.int .i64 (t / 2)) (v.samp t x k) (by unfold Rv.samp; rw [if_neg (by simp [hh])]; rfl)
  have HR : Aside (Rt 34 _ b (v.samp t x k)) := r4
  have HT : Aside _ := ((((Tn.set h 2 (.int .i64 t)).trans (Tn.set r0 1 (.bool true))).trans (Tn.set r1 3 (.int .i64 t))).trans (Tn.set r2 4 (.int .i64 t))).trans (Tn.set r3 5 (.int .i64 (t / 2)))
  clear r0 r1 r2 r3 r4 h
  go_enter Try.func16, Try.ntmps16
  go_wp2
  go_ret
  exact ⟨rfl, HR.out, HT.out⟩

set_option maxRecDepth 100000 in
set_option maxHeartbeats 4000000 in
theorem rsample_more (b : Nat) (v : Rv) (t x : Int) (k : Bool) (w : World) (h : Rt 34 w b v) (hh : v.h = true) (ho : v.ok) (h0 : 0 ≤ t) (h1 : t ≤ 1125899906842624) (hx : 0 ≤ x) (hx1 : x ≤ 9223372036854775807) : Calls Try.prog 16 #[.pointer (some ⟨b, 0, none⟩), .int .i64 t, .int .i64 x, .bool k] w fun e w' => e = .returned (.int .i64 0) ∧ Rt 34 w' b (v.samp t x k) ∧ Tn b w w' := by
  obtain ⟨o0, o1, o2⟩ := v.own_le t x k ho h0 hx
  obtain ⟨m0, m1, a0, a1, l0, l1, s0, s1, y0, y1, al⟩ := ho
  have n0 : ¬ t < 0 := by omega
  have n1 : ¬ 1125899906842624 < t := by omega
  have n2 : ¬ x < 0 := by omega
  have f2 := h.frozen 2
  have c2 := h.cells.2.2.1
  obtain ⟨W1, hW1⟩ : ∃ W1, w.setCell ⟨b, 2, none⟩ (.int .i64 t) = W1 := ⟨_, rfl⟩
  have r1 := h.set 2 (.int .i64 t) ⟨v.m, true, t, v.l, v.s, v.y⟩ (by simp [Rv.cs, hh])
  have t1 := Tn.set h 2 (.int .i64 t)
  rw [hW1] at r1 t1
  obtain ⟨L, hL⟩ : ∃ L, min v.l t = L := ⟨_, rfl⟩
  obtain ⟨X, hX, hX0⟩ : ∃ X, (if k = true then min x v.m else x) = X ∧ 0 ≤ X := ⟨_, rfl, by split <;> omega⟩
  have hown : v.own t x k = if X ≤ t - L then t - X else t := by unfold Rv.own; rw [hX, hL]
  obtain ⟨O, hO⟩ : ∃ O, v.own t x k = O := ⟨_, rfl⟩
  rw [hO] at o0 o1 o2 hown
  obtain ⟨Y, hY⟩ : ∃ Y, (3 * v.y + (max v.s O - min v.s O)) / 4 = Y := ⟨_, rfl⟩
  obtain ⟨S, hS⟩ : ∃ S, (7 * v.s + O) / 8 = S := ⟨_, rfl⟩
  have hsm : v.samp t x k = ⟨v.m, true, t, L, S, Y⟩ := by unfold Rv.samp; rw [if_pos hh, hO, hY, hS, hL]
  rw [hsm]
  obtain ⟨D, hD⟩ : ∃ D, max v.s O - min v.s O = D := ⟨_, rfl⟩
  rw [hD] at hY
  have j1 : IntKind.i64.wrap (3 * v.y) = 3 * v.y := wrp _ (by omega) (by omega)
  have j2 : IntKind.i64.wrap (3 * v.y + D) = 3 * v.y + D := wrp _ (by omega) (by omega)
  have j3 : (3 * v.y + D).tdiv 4 = Y := by rw [Int.tdiv_eq_ediv_of_nonneg (by omega), hY]
  have j4 : IntKind.i64.wrap Y = Y := wrp _ (by omega) (by omega)
  have k1 : IntKind.i64.wrap (7 * v.s) = 7 * v.s := wrp _ (by omega) (by omega)
  have k2 : IntKind.i64.wrap (7 * v.s + O) = 7 * v.s + O := wrp _ (by omega) (by omega)
  have k3 : (7 * v.s + O).tdiv 8 = S := by rw [Int.tdiv_eq_ediv_of_nonneg (by omega), hS]
  have k4 : IntKind.i64.wrap S = S := wrp _ (by omega) (by omega)
  have u1 : IntKind.i64.wrap (v.s - O) = v.s - O := wrp _ (by omega) (by omega)
  -- the four questions
  have qA : (t < v.l ∧ t = L) ∨ (¬ t < v.l ∧ v.l = L) := by omega
  have qC : (X ≤ t ∧ L ≤ t - X ∧ t - X = O ∧ IntKind.i64.wrap (t - X) = O) ∨ (X ≤ t ∧ ¬ L ≤ t - X ∧ t = O ∧ IntKind.i64.wrap (t - X) = t - X) ∨ (¬ X ≤ t ∧ t = O) := by
    by_cases c1 : X ≤ t
    · by_cases c2 : L ≤ t - X
      · left; rw [if_pos (by omega)] at hown; exact ⟨c1, c2, hown.symm, by rw [wrp _ (by omega) (by omega), hown]⟩
      · right; left; rw [if_neg (by omega)] at hown; exact ⟨c1, c2, hown.symm, wrp _ (by omega) (by omega)⟩
    · right; right; rw [if_neg (by omega)] at hown; exact ⟨c1, hown.symm⟩
  have qD : (v.s - O < 0 ∧ IntKind.i64.wrap (-(v.s - O)) = D) ∨ (¬ v.s - O < 0 ∧ v.s - O = D) := by
    by_cases c : v.s - O < 0
    · left; exact ⟨c, by rw [wrp _ (by omega) (by omega)]; omega⟩
    · right; exact ⟨c, by omega⟩
  clear hown hS hO hsm al a0 a1
  have HY : Aside _ := hY
  have HD : Aside _ := hD
  clear hY hD
  have HX : Aside _ := hX
  clear hX
  obtain ⟨e0, e1, e2, e3, e4, e5⟩ := r1.cells
  dsimp only at e0 e1 e2 e3 e4 e5
  have f3 := r1.frozen 3
  have HC : Aside (∀ W2 : World, Rt 34 W2 b ⟨v.m, true, t, L, v.s, v.y⟩ → Tn b w W2 → Rt 34 ((W2.setCell ⟨b, 5, none⟩ (.int .i64 Y)).setCell ⟨b, 4, none⟩ (.int .i64 S)) b ⟨v.m, true, t, L, S, Y⟩ ∧ Tn b w ((W2.setCell ⟨b, 5, none⟩ (.int .i64 Y)).setCell ⟨b, 4, none⟩ (.int .i64 S))) := by
    intro W2 r2 t2
    have r3 := r2.set 5 (.int .i64 Y) ⟨v.m, true, t, L, v.s, Y⟩ rfl
    have r4 := r3.set 4 (.int .i64 S) ⟨v.m, true, t, L, S, Y⟩ rfl
    exact ⟨r4, (t2.trans (Tn.set r2 5 _)).trans (Tn.set r3 4 _)⟩
  rcases qA with ⟨p1, p2⟩ | ⟨p1, p2⟩
  · obtain ⟨W2, hW2⟩ : ∃ W2, W1.setCell ⟨b, 3, none⟩ (.int .i64 t) = W2 := ⟨_, rfl⟩
    have r2 := r1.set 3 (.int .i64 t) ⟨v.m, true, t, t, v.s, v.y⟩ rfl
    have t2 := t1.trans (Tn.set r1 3 (.int .i64 t))
    rw [hW2] at r2 t2
    obtain ⟨x0, x1, x2, x3, x4, x5⟩ := r2.cells
    dsimp only at x0 x1 x2 x3 x4 x5
    have f4 := r2.frozen 4
    have f5 := r2.frozen 5
    subst p2
    have HE : Aside _ := HC.out W2 r2 t2
    clear r1 t1 r2 t2 HC h hL
    cases k with
    | false =>
      obtain rfl : x = X := by simpa using HX.out
      rcases qC with ⟨g1, g2, g3, g4⟩ | ⟨g1, g2, g3, g4⟩ | ⟨g1, g3⟩
      · have g5 : t ≤ O := by omega
        clear g2 g3
        rcases qD with ⟨d1, d2⟩ | ⟨d1, rfl⟩
        · as_aux_lemma =>
          go_enter Try.func16, Try.ntmps16
          go_wp2
          go_ret
          exact ⟨rfl, HE.out.1, HE.out.2⟩
        · as_aux_lemma =>
          go_enter Try.func16, Try.ntmps16
          go_wp2
          go_ret
          exact ⟨rfl, HE.out.1, HE.out.2⟩
      · subst g3
        rcases qD with ⟨d1, d2⟩ | ⟨d1, rfl⟩
        · as_aux_lemma =>
          go_enter Try.func16, Try.ntmps16
          go_wp2
          go_ret
          exact ⟨rfl, HE.out.1, HE.out.2⟩
        · as_aux_lemma =>
          go_enter Try.func16, Try.ntmps16
          go_wp2
          go_ret
          exact ⟨rfl, HE.out.1, HE.out.2⟩
      · subst g3
        rcases qD with ⟨d1, d2⟩ | ⟨d1, rfl⟩
        · as_aux_lemma =>
          go_enter Try.func16, Try.ntmps16
          go_wp2
          go_ret
          exact ⟨rfl, HE.out.1, HE.out.2⟩
        · as_aux_lemma =>
          go_enter Try.func16, Try.ntmps16
          go_wp2
          go_ret
          exact ⟨rfl, HE.out.1, HE.out.2⟩
    | true =>
      have hX3 : min x v.m = X := by simpa using HX.out
      by_cases c9 : v.m < x
      · obtain rfl : v.m = X := by omega
        clear hX3
        rcases qC with ⟨g1, g2, g3, g4⟩ | ⟨g1, g2, g3, g4⟩ | ⟨g1, g3⟩
        · have g5 : t ≤ O := by omega
          clear g2 g3
          rcases qD with ⟨d1, d2⟩ | ⟨d1, rfl⟩
          · as_aux_lemma =>
            go_enter Try.func16, Try.ntmps16
            go_wp2
            go_ret
            exact ⟨rfl, HE.out.1, HE.out.2⟩
          · as_aux_lemma =>
            go_enter Try.func16, Try.ntmps16
            go_wp2
            go_ret
            exact ⟨rfl, HE.out.1, HE.out.2⟩
        · subst g3
          rcases qD with ⟨d1, d2⟩ | ⟨d1, rfl⟩
          · as_aux_lemma =>
            go_enter Try.func16, Try.ntmps16
            go_wp2
            go_ret
            exact ⟨rfl, HE.out.1, HE.out.2⟩
          · as_aux_lemma =>
            go_enter Try.func16, Try.ntmps16
            go_wp2
            go_ret
            exact ⟨rfl, HE.out.1, HE.out.2⟩
        · subst g3
          rcases qD with ⟨d1, d2⟩ | ⟨d1, rfl⟩
          · as_aux_lemma =>
            go_enter Try.func16, Try.ntmps16
            go_wp2
            go_ret
            exact ⟨rfl, HE.out.1, HE.out.2⟩
          · as_aux_lemma =>
            go_enter Try.func16, Try.ntmps16
            go_wp2
            go_ret
            exact ⟨rfl, HE.out.1, HE.out.2⟩
      · obtain rfl : x = X := by omega
        clear hX3
        rcases qC with ⟨g1, g2, g3, g4⟩ | ⟨g1, g2, g3, g4⟩ | ⟨g1, g3⟩
        · have g5 : t ≤ O := by omega
          clear g2 g3
          rcases qD with ⟨d1, d2⟩ | ⟨d1, rfl⟩
          · as_aux_lemma =>
            go_enter Try.func16, Try.ntmps16
            go_wp2
            go_ret
            exact ⟨rfl, HE.out.1, HE.out.2⟩
          · as_aux_lemma =>
            go_enter Try.func16, Try.ntmps16
            go_wp2
            go_ret
            exact ⟨rfl, HE.out.1, HE.out.2⟩
        · subst g3
          rcases qD with ⟨d1, d2⟩ | ⟨d1, rfl⟩
          · as_aux_lemma =>
            go_enter Try.func16, Try.ntmps16
            go_wp2
            go_ret
            exact ⟨rfl, HE.out.1, HE.out.2⟩
          · as_aux_lemma =>
            go_enter Try.func16, Try.ntmps16
            go_wp2
            go_ret
            exact ⟨rfl, HE.out.1, HE.out.2⟩
        · subst g3
          rcases qD with ⟨d1, d2⟩ | ⟨d1, rfl⟩
          · as_aux_lemma =>
            go_enter Try.func16, Try.ntmps16
            go_wp2
            go_ret
            exact ⟨rfl, HE.out.1, HE.out.2⟩
          · as_aux_lemma =>
            go_enter Try.func16, Try.ntmps16
            go_wp2
            go_ret
            exact ⟨rfl, HE.out.1, HE.out.2⟩
  · have f4 := r1.frozen 4
    have f5 := r1.frozen 5
    subst p2
    have HE : Aside _ := HC.out W1 r1 t1
    clear r1 t1 HC h hL
    cases k with
    | false =>
      obtain rfl : x = X := by simpa using HX.out
      rcases qC with ⟨g1, g2, g3, g4⟩ | ⟨g1, g2, g3, g4⟩ | ⟨g1, g3⟩
      · have g5 : v.l ≤ O := by omega
        clear g2 g3
        rcases qD with ⟨d1, d2⟩ | ⟨d1, rfl⟩
        · as_aux_lemma =>
          go_enter Try.func16, Try.ntmps16
          go_wp2
          go_ret
          exact ⟨rfl, HE.out.1, HE.out.2⟩
        · as_aux_lemma =>
          go_enter Try.func16, Try.ntmps16
          go_wp2
          go_ret
          exact ⟨rfl, HE.out.1, HE.out.2⟩
      · subst g3
        rcases qD with ⟨d1, d2⟩ | ⟨d1, rfl⟩
        · as_aux_lemma =>
          go_enter Try.func16, Try.ntmps16
          go_wp2
          go_ret
          exact ⟨rfl, HE.out.1, HE.out.2⟩
        · as_aux_lemma =>
          go_enter Try.func16, Try.ntmps16
          go_wp2
          go_ret
          exact ⟨rfl, HE.out.1, HE.out.2⟩
      · subst g3
        rcases qD with ⟨d1, d2⟩ | ⟨d1, rfl⟩
        · as_aux_lemma =>
          go_enter Try.func16, Try.ntmps16
          go_wp2
          go_ret
          exact ⟨rfl, HE.out.1, HE.out.2⟩
        · as_aux_lemma =>
          go_enter Try.func16, Try.ntmps16
          go_wp2
          go_ret
          exact ⟨rfl, HE.out.1, HE.out.2⟩
    | true =>
      have hX3 : min x v.m = X := by simpa using HX.out
      by_cases c9 : v.m < x
      · obtain rfl : v.m = X := by omega
        clear hX3
        rcases qC with ⟨g1, g2, g3, g4⟩ | ⟨g1, g2, g3, g4⟩ | ⟨g1, g3⟩
        · have g5 : v.l ≤ O := by omega
          clear g2 g3
          rcases qD with ⟨d1, d2⟩ | ⟨d1, rfl⟩
          · as_aux_lemma =>
            go_enter Try.func16, Try.ntmps16
            go_wp2
            go_ret
            exact ⟨rfl, HE.out.1, HE.out.2⟩
          · as_aux_lemma =>
            go_enter Try.func16, Try.ntmps16
            go_wp2
            go_ret
            exact ⟨rfl, HE.out.1, HE.out.2⟩
        · subst g3
          rcases qD with ⟨d1, d2⟩ | ⟨d1, rfl⟩
          · as_aux_lemma =>
            go_enter Try.func16, Try.ntmps16
            go_wp2
            go_ret
            exact ⟨rfl, HE.out.1, HE.out.2⟩
          · as_aux_lemma =>
            go_enter Try.func16, Try.ntmps16
            go_wp2
            go_ret
            exact ⟨rfl, HE.out.1, HE.out.2⟩
        · subst g3
          rcases qD with ⟨d1, d2⟩ | ⟨d1, rfl⟩
          · as_aux_lemma =>
            go_enter Try.func16, Try.ntmps16
            go_wp2
            go_ret
            exact ⟨rfl, HE.out.1, HE.out.2⟩
          · as_aux_lemma =>
            go_enter Try.func16, Try.ntmps16
            go_wp2
            go_ret
            exact ⟨rfl, HE.out.1, HE.out.2⟩
      · obtain rfl : x = X := by omega
        clear hX3
        rcases qC with ⟨g1, g2, g3, g4⟩ | ⟨g1, g2, g3, g4⟩ | ⟨g1, g3⟩
        · have g5 : v.l ≤ O := by omega
          clear g2 g3
          rcases qD with ⟨d1, d2⟩ | ⟨d1, rfl⟩
          · as_aux_lemma =>
            go_enter Try.func16, Try.ntmps16
            go_wp2
            go_ret
            exact ⟨rfl, HE.out.1, HE.out.2⟩
          · as_aux_lemma =>
            go_enter Try.func16, Try.ntmps16
            go_wp2
            go_ret
            exact ⟨rfl, HE.out.1, HE.out.2⟩
        · subst g3
          rcases qD with ⟨d1, d2⟩ | ⟨d1, rfl⟩
          · as_aux_lemma =>
            go_enter Try.func16, Try.ntmps16
            go_wp2
            go_ret
            exact ⟨rfl, HE.out.1, HE.out.2⟩
          · as_aux_lemma =>
            go_enter Try.func16, Try.ntmps16
            go_wp2
            go_ret
            exact ⟨rfl, HE.out.1, HE.out.2⟩
        · subst g3
          rcases qD with ⟨d1, d2⟩ | ⟨d1, rfl⟩
          · as_aux_lemma =>
            go_enter Try.func16, Try.ntmps16
            go_wp2
            go_ret
            exact ⟨rfl, HE.out.1, HE.out.2⟩
          · as_aux_lemma =>
            go_enter Try.func16, Try.ntmps16
            go_wp2
            go_ret
            exact ⟨rfl, HE.out.1, HE.out.2⟩
end Go.Proofs.Ythjfhckpgindfaa
