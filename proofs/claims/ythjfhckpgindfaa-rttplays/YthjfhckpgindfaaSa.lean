/- rtt: Sample. -/
import Derived.Test.YthjfhckpgindfaaEs
import Derived.Deep.RegionWith
namespace Go.Proofs.Ythjfhckpgindfaa
open Go.RowKit
set_option linter.unusedVariables false

/-- What a further sample counts for. -/
def Rv.own (v : Rv) (t x : Int) (k : Bool) : Int :=
  if (if k = true then min x v.m else x) ≤ t - min v.l t then t - (if k = true then min x v.m else x) else t
/-- An estimate behind a sample. -/
def Rv.samp (v : Rv) (t x : Int) (k : Bool) : Rv :=
  if v.h = true then ⟨v.m, true, t, min v.l t, (7 * v.s + v.own t x k) / 8, (3 * v.y + (max v.s (v.own t x k) - min v.s (v.own t x k))) / 4⟩
  else ⟨v.m, true, t, t, t, t / 2⟩
theorem Rv.own_le (v : Rv) (t x : Int) (k : Bool) (h : v.ok) (h0 : 0 ≤ t) (hx : 0 ≤ x) : 0 ≤ v.own t x k ∧ v.own t x k ≤ t ∧ (v.own t x k = t ∨ min v.l t ≤ v.own t x k) := by
  obtain ⟨m0, m1, a0, a1, l0, l1, s0, s1, y0, y1, al⟩ := h
  unfold Rv.own
  cases k <;> simp <;> split <;> omega
theorem Rv.samp_ok (v : Rv) (t x : Int) (k : Bool) (h : v.ok) (h0 : 0 ≤ t) (h1 : t ≤ 1125899906842624) (hx : 0 ≤ x) : (v.samp t x k).ok := by
  obtain ⟨o0, o1, _⟩ := v.own_le t x k h h0 hx
  obtain ⟨m0, m1, a0, a1, l0, l1, s0, s1, y0, y1, al⟩ := h
  unfold Rv.samp
  split
  · refine ⟨m0, m1, h0, h1, ?_, ?_, ?_, ?_, ?_, ?_, .inl rfl⟩ <;> dsimp only <;> omega
  · refine ⟨m0, m1, h0, h1, h0, h1, h0, h1, ?_, ?_, .inl rfl⟩ <;> dsimp only <;> omega

set_option maxRecDepth 100000 in
theorem first_c (b : Nat) (v : Rv) (t : Int) (w : World) (h : Rt 43 w b v) (h0 : 0 ≤ t) (h1 : t ≤ 1125899906842624) : Calls Try.prog 21 #[.pointer (some ⟨b, 0, none⟩), .int .i64 t] w fun e w' => e = .returned (.tuple #[]) ∧ Rt 43 w' b ⟨v.m, true, v.a, t, t, t / 2⟩ ∧ Tn b w w' := by
  obtain ⟨c0, c1, c2, c3, c4, c5⟩ := h.cells
  have f1 := h.frozen 1
  have f3 := h.frozen 3
  have f4 := h.frozen 4
  have f5 := h.frozen 5
  have i1 : t.tdiv 2 = t / 2 := Int.tdiv_eq_ediv_of_nonneg h0
  have i2 : IntKind.i64.wrap (t / 2) = t / 2 := wrp _ (by omega) (by omega)
  have r1 := h.set 1 (.bool true) ⟨v.m, true, v.a, v.l, v.s, v.y⟩ rfl
  have r2 := r1.set 3 (.int .i64 t) ⟨v.m, true, v.a, t, v.s, v.y⟩ rfl
  have r3 := r2.set 4 (.int .i64 t) ⟨v.m, true, v.a, t, t, v.y⟩ rfl
  have r4 := r3.set 5 (.int .i64 (t / 2)) ⟨v.m, true, v.a, t, t, t / 2⟩ rfl
  have HR : Aside _ := r4
  have HT : Aside _ := (((Tn.set h 1 (.bool true)).trans (Tn.set r1 3 (.int .i64 t))).trans (Tn.set r2 4 (.int .i64 t))).trans (Tn.set r3 5 (.int .i64 (t / 2)))
  clear r1 r2 r3 r4 h
  go_enter Try.func21, Try.ntmps21
  go_wp2
  go_end0
  exact ⟨rfl, HR.out, HT.out⟩

/-- The end of a further sample: what it counts for is known. -/
theorem fur_end (b : Nat) (v : Rv) (O Y S : Int) (W : World) (r1 : Rt 43 W b v) (hY : (3 * v.y + (max v.s O - min v.s O)) / 4 = Y) (hS : (7 * v.s + O) / 8 = S) :
    Rt 43 ((W.setCell ⟨b, 5, none⟩ (.int .i64 Y)).setCell ⟨b, 4, none⟩ (.int .i64 S)) b ⟨v.m, v.h, v.a, v.l, S, Y⟩ ∧ Tn b W ((W.setCell ⟨b, 5, none⟩ (.int .i64 Y)).setCell ⟨b, 4, none⟩ (.int .i64 S)) := by
  have r2 := r1.set 5 (.int .i64 Y) ⟨v.m, v.h, v.a, v.l, v.s, Y⟩ rfl
  have r3 := r2.set 4 (.int .i64 S) ⟨v.m, v.h, v.a, v.l, S, Y⟩ rfl
  exact ⟨r3, (Tn.set r1 5 _).trans (Tn.set r2 4 _)⟩

set_option maxRecDepth 100000 in
set_option maxHeartbeats 2000000 in
theorem further_c (b : Nat) (v : Rv) (t x : Int) (k : Bool) (w : World) (h : Rt 43 w b v) (ho : v.ok) (h0 : 0 ≤ t) (h1 : t ≤ 1125899906842624) (hx : 0 ≤ x) (hx1 : x ≤ 9223372036854775807) : Calls Try.prog 20 #[.pointer (some ⟨b, 0, none⟩), .int .i64 t, .int .i64 x, .bool k] w fun e w' => e = .returned (.tuple #[]) ∧ Rt 43 w' b ⟨v.m, v.h, v.a, min v.l t, (7 * v.s + v.own t x k) / 8, (3 * v.y + (max v.s (v.own t x k) - min v.s (v.own t x k))) / 4⟩ ∧ Tn b w w' := by
  obtain ⟨c0, c1, c2, c3, c4, c5⟩ := h.cells
  have f3 := h.frozen 3
  obtain ⟨o0, o1, o2⟩ := v.own_le t x k ho h0 hx
  obtain ⟨m0, m1, a0, a1, l0, l1, s0, s1, y0, y1, al⟩ := ho
  have i1 := min_if v.l t
  obtain ⟨W1, hW1⟩ : ∃ W1, w.setCell ⟨b, 3, none⟩ (.int .i64 (min v.l t)) = W1 := ⟨_, rfl⟩
  have r1 := h.set 3 (.int .i64 (min v.l t)) ⟨v.m, v.h, v.a, min v.l t, v.s, v.y⟩ rfl
  have t1 := Tn.set h 3 (.int .i64 (min v.l t))
  rw [hW1] at r1 t1
  have i2 : IntKind.i64.wrap (t - min v.l t) = t - min v.l t := wrp _ (by omega) (by omega)
  obtain ⟨X, hX, hX0⟩ : ∃ X, (if k = true then min x v.m else x) = X ∧ 0 ≤ X := ⟨_, rfl, by split <;> omega⟩
  have hown : v.own t x k = if X ≤ t - min v.l t then t - X else t := by unfold Rv.own; rw [hX]
  obtain ⟨O, hO⟩ : ∃ O, v.own t x k = O := ⟨_, rfl⟩
  rw [hO] at o0 o1 o2 hown
  obtain ⟨Y, hY⟩ : ∃ Y, (3 * v.y + (max v.s O - min v.s O)) / 4 = Y := ⟨_, rfl⟩
  obtain ⟨S, hS⟩ : ∃ S, (7 * v.s + O) / 8 = S := ⟨_, rfl⟩
  rw [hO, hY, hS]
  -- from any world behind what waited counts for
  have HE : Aside (∀ W : World, Rt 43 W b ⟨v.m, v.h, v.a, min v.l t, v.s, v.y⟩ → Tn b w W → Rt 43 ((W.setCell ⟨b, 5, none⟩ (.int .i64 Y)).setCell ⟨b, 4, none⟩ (.int .i64 S)) b ⟨v.m, v.h, v.a, min v.l t, S, Y⟩ ∧ Tn b w ((W.setCell ⟨b, 5, none⟩ (.int .i64 Y)).setCell ⟨b, 4, none⟩ (.int .i64 S))) := by
    intro W r tn
    obtain ⟨q1, q2⟩ := fur_end b _ O Y S W r hY hS
    exact ⟨q1, tn.trans q2⟩
  have j1 : IntKind.i64.wrap (3 * v.y) = 3 * v.y := wrp _ (by omega) (by omega)
  have j2 : IntKind.i64.wrap (3 * v.y + (max v.s O - min v.s O)) = 3 * v.y + (max v.s O - min v.s O) := wrp _ (by omega) (by omega)
  have j3 : (3 * v.y + (max v.s O - min v.s O)).tdiv 4 = Y := by rw [Int.tdiv_eq_ediv_of_nonneg (by omega), hY]
  have j4 : IntKind.i64.wrap Y = Y := wrp _ (by omega) (by omega)
  have k1 : IntKind.i64.wrap (7 * v.s) = 7 * v.s := wrp _ (by omega) (by omega)
  have k2 : IntKind.i64.wrap (7 * v.s + O) = 7 * v.s + O := wrp _ (by omega) (by omega)
  have k3 : (7 * v.s + O).tdiv 8 = S := by rw [Int.tdiv_eq_ediv_of_nonneg (by omega), hS]
  have k4 : IntKind.i64.wrap S = S := wrp _ (by omega) (by omega)
  have hap := fun W => apart_c v.s O W s0 (by omega) o0 (by omega)
  have hdec : X ≤ t - min v.l t ∧ IntKind.i64.wrap (t - X) = O ∨ ¬ X ≤ t - min v.l t ∧ O = t := by
    by_cases hc : X ≤ t - min v.l t
    · left; rw [if_pos hc] at hown; exact ⟨hc, by rw [wrp _ (by omega) (by omega)]; omega⟩
    · right; rw [if_neg hc] at hown; exact ⟨hc, hown⟩
  clear hown hY hS hO al a0 a1
  have HX : Aside _ := hX
  clear hX
  have HC3 : Aside _ := hW1
  cases k with
  | false =>
    obtain rfl : x = X := by simpa using HX.out
    obtain ⟨e0, e1, e2, e3, e4, e5⟩ := r1.cells
    have g5 := r1.frozen 5
    have g4 := r1.frozen 4
    dsimp only at e0 e1 e2 e3 e4 e5
    have HT1 : Aside _ := Tn.trans t1 (⟨rfl, rfl, rfl, Nat.le_refl _, fun _ _ _ => rfl⟩ : Tn b W1 W1.drew)
    have HR1 : Aside (Rt 43 W1.drew b _) := r1
    clear r1 t1 h
    rcases hdec with ⟨hc, hw⟩ | ⟨hc, rfl⟩
    · go_enter Try.func20, Try.ntmps20
      go_wp2_with fail
      clear i1 i2 hx hx1 hX0 hW1 f3 c0 c1 c2 c3 c4 c5 e0 e1 e2 e3 hc hw
      go_region_with (go_at_call 23; refine Calls.mono (hap _) ?_; rintro e w' ⟨rfl, hw⟩; subst w')
      all_goals go_wp2
      all_goals go_end0
      all_goals exact ⟨rfl, HE.out _ HR1.out HT1.out⟩
    · go_enter Try.func20, Try.ntmps20
      go_wp2_with fail
      clear i1 i2 hx hx1 hX0 hW1 f3 c0 c1 c2 c3 c4 c5 e0 e1 e2 e3 hc
      go_region_with (go_at_call 23; refine Calls.mono (hap _) ?_; rintro e w' ⟨rfl, hw⟩; subst w')
      all_goals go_wp2
      all_goals go_end0
      all_goals exact ⟨rfl, HE.out _ HR1.out HT1.out⟩
  | true =>
    obtain ⟨b1, b2, hb⟩ := bt_cells 0 v.m W1
    have hcl := clos_c 0 v.m x _ _ _ b1 b2
    rw [show min (max x 0) v.m = X by have := HX.out; simp at this; omega] at hcl
    have d0 : W1.cell? ⟨b, 0, none⟩ = some (.int .i64 v.m) := r1.cells.1
    have hbt := between_c 0 v.m W1
    obtain ⟨W2, hW2⟩ : ∃ W2, (W1.alloc (.cells #[.int .i64 0] 3)).alloc (.cells #[.int .i64 v.m] 3) = W2 := ⟨_, rfl⟩
    rw [hW2] at hcl hbt hb
    have r2 := r1.below hb
    have t2 := t1.trans (Tn.below hb)
    obtain ⟨e0, e1, e2, e3, e4, e5⟩ := r2.cells
    have g5 := r2.frozen 5
    have g4 := r2.frozen 4
    dsimp only at e0 e1 e2 e3 e4 e5
    have HT1 : Aside _ := Tn.trans t2 (⟨rfl, rfl, rfl, Nat.le_refl _, fun _ _ _ => rfl⟩ : Tn b W2 W2.drew)
    have HR1 : Aside (Rt 43 W2.drew b _) := r2
    clear r1 t1 r2 t2 h hW2 b1 b2 hb
    rcases hdec with ⟨hc, hw⟩ | ⟨hc, rfl⟩
    · go_enter Try.func20, Try.ntmps20
      go_wp2_with fail
      refine hbt.mono ?_
      rintro e w' ⟨rfl, hw'⟩
      subst w'
      go_wp2_with fail
      refine hcl.mono ?_
      rintro e w' ⟨rfl, hw'⟩
      subst w'
      clear hcl hbt
      go_wp2_with fail
      clear i1 i2 hx hx1 hX0 hW1 f3 c0 c1 c2 c3 c4 c5 e0 e1 e2 e3 hc hw d0
      go_region_with (go_at_call 23; refine Calls.mono (hap _) ?_; rintro e w' ⟨rfl, hw⟩; subst w')
      all_goals go_wp2
      all_goals go_end0
      all_goals exact ⟨rfl, HE.out _ HR1.out HT1.out⟩
    · go_enter Try.func20, Try.ntmps20
      go_wp2_with fail
      refine hbt.mono ?_
      rintro e w' ⟨rfl, hw'⟩
      subst w'
      go_wp2_with fail
      refine hcl.mono ?_
      rintro e w' ⟨rfl, hw'⟩
      subst w'
      clear hcl hbt
      go_wp2_with fail
      clear i1 i2 hx hx1 hX0 hW1 f3 c0 c1 c2 c3 c4 c5 e0 e1 e2 e3 hc d0
      go_region_with (go_at_call 23; refine Calls.mono (hap _) ?_; rintro e w' ⟨rfl, hw⟩; subst w')
      all_goals go_wp2
      all_goals go_end0
      all_goals exact ⟨rfl, HE.out _ HR1.out HT1.out⟩

end Go.Proofs.Ythjfhckpgindfaa
