/- mtu: the reference: Acked, Lost, Hole. -/
import Derived.Test.YtpafgoikhkidbaaHo
namespace Go.Proofs.Ytpafgoikhkidbaa
open Go.RowKit
set_option linter.unusedVariables false

set_option maxRecDepth 100000 in
theorem racked_c (b : Nat) (v : Mv) (n : Int) (w : World) (h : Rt 35 w b v) (ho : v.ok) : Calls Try.prog 14 #[.pointer (some ⟨b, 0, none⟩), .int .i64 n] w fun e w' => e = .returned (.int .i64 (v.ack n).1) ∧ Rt 35 w' b (v.ack n).2 ∧ Tn b w w' := by
  have h2 := rprobe_c b v w h ho
  have H : Aside (Rt 35 w b v) := h
  have hL : Aside (v.ack n = if (!v.on || n != v.prb) then (2, v) else (0, { v with s := n, l := 0 })) := rfl
  clear h ho
  generalize v.ack n = Q at *
  generalize v.on = ON at *
  generalize v.prb = P at *
  cases ON
  · obtain rfl : Q = (2, v) := by rw [hL.out]; rfl
    clear hL
    go_enter Try.func14, Try.ntmps14
    go_wp2_with fail
    refine h2.mono ?_
    rintro e w1 ⟨rfl, hb⟩
    have HB : Aside (Below w.heap.size w w1) := hb
    clear hb
    go_wp2
    go_ret
    exact ⟨rfl, H.out.below HB.out, Tn.below HB.out⟩
  · by_cases hn : n = P
    · obtain rfl : Q = (0, { v with s := n, l := 0 }) := by rw [hL.out]; simp [hn]
      subst n
      have hn' : (P != P) = false := by simp
      clear hL
      go_enter Try.func14, Try.ntmps14
      go_wp2_with fail
      refine h2.mono ?_
      rintro e w1 ⟨rfl, hb⟩
      have r0 := H.out.below hb
      have r1 := r0.set 1 (.int .i64 P) { v with s := P } rfl
      have r2 := r1.set 3 (.int .i64 0) { v with s := P, l := 0 } rfl
      have HT : Aside (Tn b w ((w1.setCell ⟨b, 1, none⟩ (.int .i64 P)).setCell ⟨b, 3, none⟩ (.int .i64 0))) := ((Tn.below hb).trans (Tn.set r0 1 _)).trans (Tn.set r1 3 _)
      have f1 := r0.frozen 1
      have f3 := r0.frozen 3
      obtain ⟨c0, c1, c2, c3⟩ := r0.cells
      have HR : Aside (Rt 35 ((w1.setCell ⟨b, 1, none⟩ (.int .i64 P)).setCell ⟨b, 3, none⟩ (.int .i64 0)) b { v with s := P, l := 0 }) := r2
      clear h2 hb H r0 r1 r2
      go_wp2
      go_ret
      exact ⟨rfl, HR.out, HT.out⟩
    · obtain rfl : Q = (2, v) := by rw [hL.out]; simp [hn]
      have hn' : (P != n) = true := by simp; omega
      have hn2 : (P == n) = false := by simp; omega
      clear hL
      go_enter Try.func14, Try.ntmps14
      go_wp2_with fail
      refine h2.mono ?_
      rintro e w1 ⟨rfl, hb⟩
      have HB : Aside (Below w.heap.size w w1) := hb
      clear hb
      go_wp2
      go_ret
      exact ⟨rfl, H.out.below HB.out, Tn.below HB.out⟩
set_option maxRecDepth 100000 in
theorem rlost_c (b : Nat) (v : Mv) (n : Int) (w : World) (h : Rt 35 w b v) (ho : v.ok) : Calls Try.prog 16 #[.pointer (some ⟨b, 0, none⟩), .int .i64 n] w fun e w' => e = .returned (.int .i64 (v.lose n).1) ∧ Rt 35 w' b (v.lose n).2 ∧ Tn b w w' := by
  have h2 := rprobe_c b v w h ho
  have H : Aside (Rt 35 w b v) := h
  have hL : Aside (v.lose n = if (!v.on || n != v.prb) then (2, v) else (0, if v.l = 2 then { v with c := n - 1, l := 0 } else { v with l := v.l + 1 })) := rfl
  have hl0 := ho.l0
  have hl1 := ho.l1
  have hpb := v.prb_b ho
  have i1 : IntKind.i64.wrap (v.l + 1) = v.l + 1 := wrp _ (by omega) (by omega)
  have hsb : Aside (1200 ≤ v.s) := by have := ho.b0; have := ho.s0; show 1200 ≤ v.s; omega
  clear h ho
  generalize v.lose n = Q at *
  generalize v.on = ON at *
  generalize v.prb = P at *
  cases ON
  · obtain rfl : Q = (2, v) := by rw [hL.out]; rfl
    clear hL i1 hpb hl0 hl1
    go_enter Try.func16, Try.ntmps16
    go_wp2_with fail
    refine h2.mono ?_
    rintro e w1 ⟨rfl, hb⟩
    have HB : Aside (Below w.heap.size w w1) := hb
    clear hb
    go_wp2
    go_ret
    exact ⟨rfl, H.out.below HB.out, Tn.below HB.out⟩
  · obtain ⟨p0, p1, p2⟩ := hpb rfl
    by_cases hn : n = P
    · subst n
      have i2 : IntKind.i64.wrap (P - 1) = P - 1 := wrp _ (by have := hsb.out; omega) (by omega)
      have hn' : (P != P) = false := by simp
      obtain ⟨bb, s, c, l⟩ := v
      dsimp only at *
      clear hpb p0 p1 p2
      by_cases hl : l = 2
      · subst hl
        obtain rfl : Q = (0, ⟨bb, s, P - 1, 0⟩) := by rw [hL.out]; simp
        clear hL hl0 hl1 i1
        go_enter Try.func16, Try.ntmps16
        go_wp2_with fail
        refine h2.mono ?_
        rintro e w1 ⟨rfl, hb⟩
        have r0 := H.out.below hb
        have r1 := r0.set 3 (.int .i64 3) ⟨bb, s, c, 3⟩ rfl
        have r2 := r1.set 2 (.int .i64 (P - 1)) ⟨bb, s, P - 1, 3⟩ rfl
        have r3 := r2.set 3 (.int .i64 0) ⟨bb, s, P - 1, 0⟩ rfl
        have HT : Aside (Tn b w (((w1.setCell ⟨b, 3, none⟩ (.int .i64 3)).setCell ⟨b, 2, none⟩ (.int .i64 (P - 1))).setCell ⟨b, 3, none⟩ (.int .i64 0))) := (((Tn.below hb).trans (Tn.set r0 3 _)).trans (Tn.set r1 2 _)).trans (Tn.set r2 3 _)
        have f2 := r0.frozen 2
        have f3 := r0.frozen 3
        obtain ⟨c0, c1, c2, c3⟩ := r0.cells
        dsimp only at c0 c1 c2 c3
        have HR : Aside (Rt 35 (((w1.setCell ⟨b, 3, none⟩ (.int .i64 3)).setCell ⟨b, 2, none⟩ (.int .i64 (P - 1))).setCell ⟨b, 3, none⟩ (.int .i64 0)) b ⟨bb, s, P - 1, 0⟩) := r3
        clear h2 hb H r0 r1 r2 r3
        go_wp2
        go_ret
        exact ⟨rfl, HR.out, HT.out⟩
      · obtain rfl : Q = (0, ⟨bb, s, c, l + 1⟩) := by rw [hL.out]; simp [hl]
        have hl3 : (l + 1 == 3) = false := by simp; omega
        have hl4 : ¬ l + 1 = 3 := by omega
        clear hL hl0 hl1 hl i2
        go_enter Try.func16, Try.ntmps16
        go_wp2_with fail
        refine h2.mono ?_
        rintro e w1 ⟨rfl, hb⟩
        have r0 := H.out.below hb
        have r1 := r0.set 3 (.int .i64 (l + 1)) ⟨bb, s, c, l + 1⟩ rfl
        have HT : Aside (Tn b w (w1.setCell ⟨b, 3, none⟩ (.int .i64 (l + 1)))) := (Tn.below hb).trans (Tn.set r0 3 _)
        have f3 := r0.frozen 3
        obtain ⟨c0, c1, c2, c3⟩ := r0.cells
        dsimp only at c0 c1 c2 c3
        have HR : Aside (Rt 35 (w1.setCell ⟨b, 3, none⟩ (.int .i64 (l + 1))) b ⟨bb, s, c, l + 1⟩) := r1
        clear h2 hb H r0 r1
        go_wp2
        go_ret
        exact ⟨rfl, HR.out, HT.out⟩
    · obtain rfl : Q = (2, v) := by rw [hL.out]; simp [hn]
      have hn' : (P != n) = true := by simp; omega
      have hn2 : (P == n) = false := by simp; omega
      clear hL i1 hpb hl0 hl1 p0 p1 p2
      go_enter Try.func16, Try.ntmps16
      go_wp2_with fail
      refine h2.mono ?_
      rintro e w1 ⟨rfl, hb⟩
      have HB : Aside (Below w.heap.size w w1) := hb
      clear hb
      go_wp2
      go_ret
      exact ⟨rfl, H.out.below HB.out, Tn.below HB.out⟩
set_option maxRecDepth 100000 in
theorem rhole_c (b : Nat) (v : Mv) (w : World) (h : Rt 35 w b v) (ho : v.ok) : Calls Try.prog 18 #[.pointer (some ⟨b, 0, none⟩)] w fun e w' => e = .returned (.tuple #[]) ∧ Rt 35 w' b v.hole ∧ Tn b w w' := by
  have i1 : IntKind.i64.wrap (v.s - 1) = v.s - 1 := wrp _ (by have := ho.s0; have := ho.b0; omega) (by have := ho.c0; have := ho.c1; omega)
  obtain ⟨c0, c1, c2, c3⟩ := h.cells
  have f2 := h.frozen 2
  have r1 := h.set 2 (.int .i64 (v.s - 1)) { v with c := v.s - 1 } rfl
  have T1 : Tn b w (w.setCell ⟨b, 2, none⟩ (.int .i64 (v.s - 1))) := Tn.set h 2 _
  obtain ⟨W, hW⟩ : ∃ W, (w.setCell ⟨b, 2, none⟩ (.int .i64 (v.s - 1))) = W := ⟨_, rfl⟩
  rw [hW] at r1 T1
  obtain ⟨d0, d1, d2, d3⟩ := (r1.below (Below.refl _ W).drew).cells
  have hHole : v.hole = { v with c := max (v.s - 1) v.b, s := v.b, l := 0 } := rfl
  rw [hHole]
  clear hHole
  dsimp only at d0 d1 d2 d3
  by_cases hx : v.s - 1 < v.b
  · rw [show max (v.s - 1) v.b = v.b by omega]
    have q1 : Rt 35 W.drew b { v with c := v.s - 1 } := r1.below (Below.refl _ W).drew
    have U1 : Tn b w W.drew := T1.trans (Tn.below (Below.refl _ _).drew)
    have q2 := q1.set 2 (.int .i64 v.b) { v with c := v.b } rfl
    have q3 := q2.set 1 (.int .i64 v.b) { v with c := v.b, s := v.b } rfl
    have q4 := q3.set 3 (.int .i64 0) { v with c := v.b, s := v.b, l := 0 } rfl
    have HT : Aside (Tn b w (((W.drew.setCell ⟨b, 2, none⟩ (.int .i64 v.b)).setCell ⟨b, 1, none⟩ (.int .i64 v.b)).setCell ⟨b, 3, none⟩ (.int .i64 0))) := ((U1.trans (Tn.set q1 2 _)).trans (Tn.set q2 1 _)).trans (Tn.set q3 3 _)
    have HR : Aside (Rt 35 (((W.drew.setCell ⟨b, 2, none⟩ (.int .i64 v.b)).setCell ⟨b, 1, none⟩ (.int .i64 v.b)).setCell ⟨b, 3, none⟩ (.int .i64 0)) b { v with c := v.b, s := v.b, l := 0 }) := q4
    have g1 := q1.frozen 1
    have g2 := q1.frozen 2
    have g3 := q1.frozen 3
    clear h ho r1 T1 q1 U1 q2 q3 q4
    go_enter Try.func18, Try.ntmps18
    go_wp2_with fail
    go_region_held3 (fun w' => w'.cell? ⟨b, 2, none⟩ = some (.int .i64 (v.s - 1)) ∧ w'.cell? ⟨b, 0, none⟩ = some (.int .i64 v.b)) (exact ⟨d2, d0⟩) (fail)
    generalize W.drew = X at *
    go_wp2
    go_end0
    exact ⟨rfl, HR.out, HT.out⟩
  · rw [show max (v.s - 1) v.b = v.s - 1 by omega]
    have q1 : Rt 35 W.drew b { v with c := v.s - 1 } := r1.below (Below.refl _ W).drew
    have U1 : Tn b w W.drew := T1.trans (Tn.below (Below.refl _ _).drew)
    have q3 := q1.set 1 (.int .i64 v.b) { v with c := v.s - 1, s := v.b } rfl
    have q4 := q3.set 3 (.int .i64 0) { v with c := v.s - 1, s := v.b, l := 0 } rfl
    have HT : Aside (Tn b w ((W.drew.setCell ⟨b, 1, none⟩ (.int .i64 v.b)).setCell ⟨b, 3, none⟩ (.int .i64 0))) := (U1.trans (Tn.set q1 1 _)).trans (Tn.set q3 3 _)
    have HR : Aside (Rt 35 ((W.drew.setCell ⟨b, 1, none⟩ (.int .i64 v.b)).setCell ⟨b, 3, none⟩ (.int .i64 0)) b { v with c := v.s - 1, s := v.b, l := 0 }) := q4
    have g1 := q1.frozen 1
    have g3 := q1.frozen 3
    clear h ho r1 T1 q1 U1 q3 q4
    go_enter Try.func18, Try.ntmps18
    go_wp2_with fail
    go_region_held3 (fun w' => w'.cell? ⟨b, 2, none⟩ = some (.int .i64 (v.s - 1)) ∧ w'.cell? ⟨b, 0, none⟩ = some (.int .i64 v.b)) (exact ⟨d2, d0⟩) (fail)
    generalize W.drew = X at *
    go_wp2
    go_end0
    exact ⟨rfl, HR.out, HT.out⟩
end Go.Proofs.Ytpafgoikhkidbaa
