/- cubic's reference: limited, cubic. -/
import Derived.Test.YtphkgijimbkgeaaFw
import Derived.Deep.Cut
namespace Go.Proofs.Ytphkgijimbkgeaa
open Go.RowKit
set_option linter.unusedVariables false

theorem wrap_in (x : Int) : -9223372036854775808 ≤ IntKind.i64.wrap x ∧ IntKind.i64.wrap x ≤ 9223372036854775807 := by rw [IntKind.wrap_i64]; omega
theorem td1000 (x : Int) (h0 : -9223372036854775808 ≤ x) (h1 : x ≤ 9223372036854775807) : -9223372036854776 ≤ x.tdiv 1000 ∧ x.tdiv 1000 ≤ 9223372036854776 := by
  by_cases h : 0 ≤ x
  · rw [Int.tdiv_eq_ediv_of_nonneg h]; omega
  · have e : x = -(-x) := by omega
    rw [e, Int.neg_tdiv, Int.tdiv_eq_ediv_of_nonneg (by omega)]; omega
set_option maxRecDepth 100000 in
theorem limited_c (x lo hi : Int) (w : World) (h : lo ≤ hi) : Calls Try.prog 30 #[.int .i64 x, .int .i64 lo, .int .i64 hi] w fun e w' => e = .returned (.int .i64 (cl x lo hi)) ∧ w' = w := by
  obtain ⟨R, hR⟩ : ∃ R, cl x lo hi = R := ⟨_, rfl⟩
  rw [hR]
  unfold cl at hR
  by_cases h1 : x < lo
  · obtain rfl : R = lo := by omega
    clear hR
    go_enter Try.func30, Try.ntmps30
    go_wp2
    go_ret
    exact ⟨rfl, rfl⟩
  · by_cases h2 : hi < x
    · obtain rfl : R = hi := by omega
      clear hR
      go_enter Try.func30, Try.ntmps30
      go_wp2
      go_ret
      exact ⟨rfl, rfl⟩
    · obtain rfl : R = x := by omega
      clear hR
      go_enter Try.func30, Try.ntmps30
      go_wp2
      go_ret
      exact ⟨rfl, rfl⟩
/-- What the reference's window follows to, ahead of its bound. -/
def Wv.rfol (u : Wv) (n now rtt : Int) : Wv := { u with m := u.est n, b := max (u.b + (u.tgt now rtt - u.b) * n / u.b) (u.est n) }
set_option maxRecDepth 100000 in
set_option maxHeartbeats 2000000 in
theorem rcubic_c (b : Nat) (v : Wv) (n now rtt : Int) (w : World) (h : Rt 34 w b v) (ho : v.ok) (n0 : 0 ≤ n) (n1 : n ≤ 1048576) (t0 : 0 ≤ now) : Calls Try.prog 26 #[.pointer (some ⟨b, 0, none⟩), .int .i64 n, .int .i64 now, .int .i64 rtt] w fun e w' => e = .returned (.tuple #[]) ∧ Rt 34 w' b ((v.begin now).rfol n now rtt) ∧ Tn b w w' := by
  obtain ⟨hok, hz, hb⟩ := v.begin_ok now ho t0
  have hbg : v.begin now = if v.e = -1 then { v with e := now, t := v.b, m := v.b, p := max v.p v.b } else v := rfl
  generalize v.begin now = u at *
  obtain ⟨g1, g2, g3, g4⟩ := u.gain n now rtt hok n0 n1
  obtain ⟨k0, z0, z1, b0, b1, s0, e0⟩ := hok
  obtain ⟨m1, m2, m3, m4⟩ := mulzn u.z n (by omega) z1 n0 n1
  obtain ⟨Z1, y1⟩ : ∃ x, IntKind.i64.wrap (u.p - u.t) = x := ⟨_, rfl⟩
  obtain ⟨Z2, y2⟩ : ∃ x, IntKind.i64.wrap (Z1 * 2500000000) = x := ⟨_, rfl⟩
  obtain ⟨Z3, y3⟩ : ∃ x, IntKind.i64.wrap (Z2.tdiv u.z) = x := ⟨_, rfl⟩
  obtain ⟨FL, hFL⟩ : ∃ x, root Z3 = x := ⟨_, rfl⟩
  obtain ⟨A1, a1⟩ : ∃ x, IntKind.i64.wrap (now - u.e) = x := ⟨_, rfl⟩
  obtain ⟨A2, a2⟩ : ∃ x, IntKind.i64.wrap (A1 + rtt) = x := ⟨_, rfl⟩
  obtain ⟨A3, a3⟩ : ∃ x, IntKind.i64.wrap (A2.tdiv 1000) = x := ⟨_, rfl⟩
  obtain ⟨M, hM⟩ : ∃ x, min A3 1000000 = x := ⟨_, rfl⟩
  obtain ⟨A4, a4⟩ : ∃ x, IntKind.i64.wrap (M - FL) = x := ⟨_, rfl⟩
  obtain ⟨D, hD⟩ : ∃ x, cl A4 (-1000000) 1000000 = x := ⟨_, rfl⟩
  obtain ⟨A5, a5⟩ : ∃ x, IntKind.i64.wrap (D * D) = x := ⟨_, rfl⟩
  obtain ⟨K, a6⟩ : ∃ x, IntKind.i64.wrap (A5 * D) = x := ⟨_, rfl⟩
  obtain ⟨B1, h1⟩ : ∃ x, IntKind.i64.wrap (K.tdiv 1000000000) = x := ⟨_, rfl⟩
  obtain ⟨B2, h2⟩ : ∃ x, IntKind.i64.wrap (B1 * u.z) = x := ⟨_, rfl⟩
  obtain ⟨B3, h3⟩ : ∃ x, IntKind.i64.wrap (B2 * 2) = x := ⟨_, rfl⟩
  obtain ⟨B4, h4⟩ : ∃ x, IntKind.i64.wrap (B3.tdiv 5) = x := ⟨_, rfl⟩
  obtain ⟨B6, h6⟩ : ∃ x, IntKind.i64.wrap (K.tmod 1000000000 * u.z) = x := ⟨_, rfl⟩
  obtain ⟨B7, h7⟩ : ∃ x, IntKind.i64.wrap (B6.tdiv 2500000000) = x := ⟨_, rfl⟩
  obtain ⟨BS, h8⟩ : ∃ x, IntKind.i64.wrap (B4 + B7) = x := ⟨_, rfl⟩
  have hBS : u.beside now rtt = BS := by
    simp only [Wv.beside, bes, Wv.cube, Wv.dd, Wv.mil, Wv.flat, wr, y1, y2, y3, hFL, a1, a2, a3, hM, a4, hD, a5, a6, h1, h2, h3, h4, h6, h7, h8]
  have hT : u.tgt now rtt = cl (IntKind.i64.wrap (u.p + u.beside now rtt)) u.b (3 * u.b / 2) := rfl
  rw [hBS] at hT
  have hfo : u.rfol n now rtt = { u with m := u.est n, b := max (u.b + (u.tgt now rtt - u.b) * n / u.b) (u.est n) } := rfl
  have he : u.est n = IntKind.i64.wrap (u.m + 9 * u.z * n / (17 * u.b)) := rfl
  generalize u.rfol n now rtt = R at *
  obtain ⟨E, hE⟩ : ∃ E, u.est n = E := ⟨_, rfl⟩
  rw [hE] at hfo he
  obtain ⟨T, hTT⟩ : ∃ T, u.tgt now rtt = T := ⟨_, rfl⟩
  rw [hTT] at hfo hT g1 g2 g3 g4
  obtain ⟨P1, p1⟩ : ∃ x, IntKind.i64.wrap (u.p + BS) = x := ⟨_, rfl⟩
  rw [p1] at hT
  have i1 : IntKind.i64.wrap (3 * u.b) = 3 * u.b := wrp _ (by omega) (by omega)
  have i2 : (3 * u.b).tdiv 2 = 3 * u.b / 2 := Int.tdiv_eq_ediv_of_nonneg (by omega)
  have i3 : IntKind.i64.wrap (3 * u.b / 2) = 3 * u.b / 2 := wrp _ (by omega) (by omega)
  have i4 : IntKind.i64.wrap (9 * u.z) = 9 * u.z := wrp _ (by omega) (by omega)
  have i5 : IntKind.i64.wrap (9 * u.z * n) = 9 * u.z * n := wrp _ (by omega) (by omega)
  have i6 : IntKind.i64.wrap (17 * u.b) = 17 * u.b := wrp _ (by omega) (by omega)
  have i7 : 17 * u.b ≠ 0 := by omega
  obtain ⟨G, hG⟩ : ∃ x, 9 * u.z * n / (17 * u.b) = x := ⟨_, rfl⟩
  rw [hG] at he
  have hG1 : 0 ≤ G ∧ G ≤ 618465853440 := by
    rw [← hG]
    exact ⟨Int.ediv_nonneg m3 (by omega), Int.le_trans (Int.ediv_le_self _ m3) m4⟩
  have i8 : (9 * u.z * n).tdiv (17 * u.b) = G := by rw [Int.tdiv_eq_ediv_of_nonneg m3, hG]
  have i9 : IntKind.i64.wrap G = G := wrp _ (by omega) (by omega)
  have i10 : IntKind.i64.wrap (u.m + G) = E := he.symm
  have j1 : IntKind.i64.wrap (T - u.b) = T - u.b := wrp _ (by omega) (by omega)
  have j2 : IntKind.i64.wrap ((T - u.b) * n) = (T - u.b) * n := wrp _ (by omega) (by omega)
  obtain ⟨H, hH⟩ : ∃ x, (T - u.b) * n / u.b = x := ⟨_, rfl⟩
  rw [hH] at hfo
  have hH1 : 0 ≤ H ∧ H ≤ 562949953421312 := by
    rw [← hH]
    exact ⟨Int.ediv_nonneg g3 (by omega), Int.le_trans (Int.ediv_le_self _ g3) g4⟩
  have j3 : ((T - u.b) * n).tdiv u.b = H := by rw [Int.tdiv_eq_ediv_of_nonneg g3, hH]
  have j4 : IntKind.i64.wrap H = H := wrp _ (by omega) (by omega)
  have j5 : IntKind.i64.wrap (u.b + H) = u.b + H := wrp _ (by omega) (by omega)
  have j7 : u.b ≠ 0 := by omega
  have j8 : u.z ≠ 0 := by omega
  have hz3 := wrap_in (Z2.tdiv u.z)
  rw [y3] at hz3
  have HRO : Aside (∀ X, Calls Try.prog 19 #[.int .i64 Z3] X fun e w' => e = .returned (.int .i64 FL) ∧ w' = X) := fun X => by
    have := rroot_c Z3 hz3.1 hz3.2 X
    rw [hFL] at this
    exact this
  have HL1 : Aside (∀ X, Calls Try.prog 30 #[.int .i64 A3, .int .i64 (-4611686018427387904), .int .i64 1000000] X fun e w' => e = .returned (.int .i64 M) ∧ w' = X) := fun X => by
    have := limited_c A3 (-4611686018427387904) 1000000 X (by omega)
    have e1 : cl A3 (-4611686018427387904) 1000000 = M := by
      obtain ⟨q1, q2⟩ := wrap_in (A1 + rtt)
      rw [a2] at q1 q2
      obtain ⟨q3, q4⟩ := td1000 A2 q1 q2
      have q5 : A3 = A2.tdiv 1000 := by rw [← a3]; exact wrp _ (by omega) (by omega)
      unfold cl
      omega
    rw [e1] at this
    exact this
  have HL2 : Aside (∀ X, Calls Try.prog 30 #[.int .i64 A4, .int .i64 (-1000000), .int .i64 1000000] X fun e w' => e = .returned (.int .i64 D) ∧ w' = X) := fun X => by
    have := limited_c A4 (-1000000) 1000000 X (by omega)
    rw [hD] at this
    exact this
  have HL3 : Aside (∀ X, Calls Try.prog 30 #[.int .i64 P1, .int .i64 u.b, .int .i64 (3 * u.b / 2)] X fun e w' => e = .returned (.int .i64 T) ∧ w' = X) := fun X => by
    have := limited_c P1 u.b (3 * u.b / 2) X (by omega)
    rw [← hT] at this
    exact this
  have HFO : Aside _ := hfo
  have HBG : Aside _ := hbg
  have HVE : Aside (v.e = -1 ∨ 0 ≤ v.e) := ho.e0
  clear hH hG he hT hTT hE hfo g1 g2 g3 g4 m1 m2 m3 m4 hG1 hH1 s0 e0 k0 hz3 hFL hM hD hBS hbg
  obtain ⟨c0, c1, c2, c3, c4, c5, c6, c7, c8⟩ := h.cells
  have HH : Aside (Rt 34 w b v) := h
  have g5 := h.frozen 5
  have g6 := h.frozen 6
  have g7 := h.frozen 7
  have g8 := h.frozen 8
  clear h ho
  go_enter Try.func26, Try.ntmps26
  go_upto_if 18 with fail
  go_cut [] from 14 (fun wx => Aside (Rt 34 wx b u ∧ Tn b w wx))
  case first =>
    clear y1 y2 y3 a1 a2 a3 a4 a5 a6 h1 h2 h3 h4 h6 h7 h8 p1 i1 i2 i3 i4 i5 i6 i7 i8 i9 i10 j1 j2 j3 j4 j5 j7 j8 HRO HL1 HL2 HL3 HFO
    by_cases q1 : v.e = -1
    · have HU : Aside (u = { v with e := now, t := v.b, m := v.b, p := max v.p v.b }) := by show u = _; rw [HBG.out, if_pos q1]
      have q2 : v.e < 0 := by omega
      have r1 := HH.out.set 6 (.int .i64 now) { v with e := now } rfl
      have r2 := r1.set 7 (.int .i64 v.b) { v with e := now, t := v.b } rfl
      have r3 := r2.set 8 (.int .i64 v.b) { v with e := now, t := v.b, m := v.b } rfl
      have HT3 := (((Tn.set HH.out 6 (.int .i64 now)).trans (Tn.set r1 7 (.int .i64 v.b))).trans (Tn.set r2 8 (.int .i64 v.b)))
      obtain ⟨W3, hW3⟩ : ∃ W3, ((w.setCell ⟨b, 6, none⟩ (.int .i64 now)).setCell ⟨b, 7, none⟩ (.int .i64 v.b)).setCell ⟨b, 8, none⟩ (.int .i64 v.b) = W3 := ⟨_, rfl⟩
      rw [hW3] at r3 HT3
      have HR3 : Aside (Rt 34 W3 b { v with e := now, t := v.b, m := v.b }) := r3
      have HT3' : Aside (Tn b w W3) := HT3
      obtain ⟨e0, e1, e2, e3, e4, e5, e6, e7, e8⟩ := r3.cells
      dsimp only at e2 e5
      have f5 := r3.frozen 5
      clear r1 r2 r3 HT3 e0 e1 e3 e4 e6 e7 e8 q1
      by_cases q3 : v.p < v.b
      · go_wp2_with fail
        go_quiet (fail)
        have x2 : (W3.drewN nq).cell? ⟨b, 2, none⟩ = some (.int .i64 v.b) := e2
        have x5 : (W3.drewN nq).cell? ⟨b, 5, none⟩ = some (.int .i64 v.p) := e5
        have xf : (W3.drewN nq).frozen? ⟨b, 5, none⟩ = false := f5
        have HR4 : Aside (Rt 34 (W3.drewN nq) b { v with e := now, t := v.b, m := v.b }) := HR3.out.below (below_drewN (Below.refl _ _) _)
        have HT4 : Aside (Tn b w (W3.drewN nq)) := HT3'.out.trans (Tn.below (below_drewN (Below.refl _ _) _))
        clear hW3 HR3 HT3' e2 e5 f5
        generalize W3.drewN nq = W4 at *
        go_wp2
        go_meet
        case rel =>
          have hu : u = { v with e := now, t := v.b, m := v.b, p := v.b } := by rw [HU.out, show max v.p v.b = v.b by omega]
          rw [hu]
          exact ⟨HR4.out.set 5 (.int .i64 v.b) _ rfl, HT4.out.trans (Tn.set HR4.out 5 (.int .i64 v.b))⟩
      · go_wp2_with fail
        go_quiet (fail)
        have HR4 : Aside (Rt 34 (W3.drewN nq) b { v with e := now, t := v.b, m := v.b }) := HR3.out.below (below_drewN (Below.refl _ _) _)
        have HT4 : Aside (Tn b w (W3.drewN nq)) := HT3'.out.trans (Tn.below (below_drewN (Below.refl _ _) _))
        clear hW3 HR3 HT3' e2 e5 f5
        generalize W3.drewN nq = W4 at *
        go_wp2
        go_meet
        case rel =>
          have hu : u = { v with e := now, t := v.b, m := v.b } := by rw [HU.out, show max v.p v.b = v.p by omega]
          rw [hu]
          exact ⟨HR4.out, HT4.out⟩
    · have hu : u = v := by rw [HBG.out, if_neg q1]
      have q2 : ¬ v.e < 0 := by have := HVE.out; omega
      go_wp2
      go_meet
      case rel =>
        rw [hu]
        exact ⟨HH.out, Tn.refl _ _⟩
  case rest =>
    obtain ⟨hR0, hT0⟩ := hcut.out
    have HR0 : Aside (Rt 34 wc b u) := hR0
    have HT0 : Aside (Tn b w wc) := hT0
    clear hcut c0 c1 c2 c3 c4 c5 c6 c7 c8 g5 g6 g7 g8 HBG HVE HH hz hb
    obtain ⟨d0, d1, d2, d3, d4, d5, d6, d7, d8⟩ := hR0.cells
    have k1 : wc.drew.cell? ⟨b, 1, none⟩ = some (.int .i64 u.z) := d1
    have k5 : wc.drew.cell? ⟨b, 5, none⟩ = some (.int .i64 u.p) := d5
    have k6 : wc.drew.cell? ⟨b, 6, none⟩ = some (.int .i64 u.e) := d6
    have k7 : wc.drew.cell? ⟨b, 7, none⟩ = some (.int .i64 u.t) := d7
    have l1 : wc.drew.drew.cell? ⟨b, 1, none⟩ = some (.int .i64 u.z) := d1
    have HR1 : Aside (Rt 34 wc.drew.drew b u) := (hR0.below (Below.refl _ _).drew).below (Below.refl _ _).drew
    have HT1 : Aside (Tn b w wc.drew.drew) := (hT0.trans (Tn.below (Below.refl _ _).drew)).trans (Tn.below (Below.refl _ _).drew)
    clear d0 d1 d2 d3 d4 d5 d6 d7 d8 hR0 hT0
    go_wp2_with fail
    go_region_held3 (fun w' => w'.cell? ⟨b, 1, none⟩ = some (.int .i64 u.z) ∧ w'.cell? ⟨b, 5, none⟩ = some (.int .i64 u.p) ∧ w'.cell? ⟨b, 7, none⟩ = some (.int .i64 u.t)) (exact ⟨k1, k5, k7⟩) (first | (go_at_call 19; refine Calls.mono (HRO.out _) ?_; rintro e w4 ⟨rfl, hw4⟩; subst w4))
    have hl1 := HL1.out wc.drew
    have hl2 := HL2.out wc.drew
    clear k1 k5 k7 y1 y2 y3 HRO HL1 HL2
    go_wp2_with fail
    refine hl1.mono ?_
    rintro e w4 ⟨rfl, hw4⟩
    subst w4
    clear hl1 a1 a2 a3 k6
    go_wp2_with fail
    refine hl2.mono ?_
    rintro e w4 ⟨rfl, hw4⟩
    subst w4
    clear hl2 a4
    go_wp2_with fail
    go_region_held3 (fun w' => w'.cell? ⟨b, 1, none⟩ = some (.int .i64 u.z)) (exact l1) (fail)
    clear l1 a5 a6 h1 h2 h3 h4 h6 h7 h8
    generalize wc.drew.drew = w1 at HR1 HT1 ⊢
    obtain ⟨d0, d1, d2, d3, d4, d5, d6, d7, d8⟩ := HR1.out.cells
    have k5 : w1.drew.cell? ⟨b, 5, none⟩ = some (.int .i64 u.p) := d5
    have k2 : w1.drew.cell? ⟨b, 2, none⟩ = some (.int .i64 u.b) := d2
    have e1 : w1.drew.drew.cell? ⟨b, 1, none⟩ = some (.int .i64 u.z) := d1
    have e2 : w1.drew.drew.cell? ⟨b, 2, none⟩ = some (.int .i64 u.b) := d2
    have e8 : w1.drew.drew.cell? ⟨b, 8, none⟩ = some (.int .i64 u.m) := d8
    have f8 : w1.drew.drew.frozen? ⟨b, 8, none⟩ = false := HR1.out.frozen 8
    have HR5 : Aside (Rt 34 (w1.setCell ⟨b, 8, none⟩ (.int .i64 E)).drew.drew b { u with m := E }) := ((HR1.out.set 8 (.int .i64 E) { u with m := E } rfl).below (Below.refl _ _).drew).below (Below.refl _ _).drew
    have HT5 : Aside (Tn b w (w1.setCell ⟨b, 8, none⟩ (.int .i64 E)).drew.drew) := ((HT1.out.trans (Tn.set HR1.out 8 (.int .i64 E))).trans (Tn.below (Below.refl _ _).drew)).trans (Tn.below (Below.refl _ _).drew)
    clear d0 d1 d2 d3 d4 d5 d6 d7 d8
    go_wp2_with fail
    go_region_held3 (fun w' => w'.cell? ⟨b, 5, none⟩ = some (.int .i64 u.p) ∧ w'.cell? ⟨b, 2, none⟩ = some (.int .i64 u.b)) (exact ⟨k5, k2⟩) (first | (go_at_call 30; refine Calls.mono (HL3.out _) ?_; rintro e w4 ⟨rfl, hw4⟩; subst w4))
    clear k5 k2 i1 i2 i3 p1 HL3
    go_wp2_with fail
    refine wp_region_w 21 (fun X => X.cell? ⟨b, 8, none⟩ = some (.int .i64 u.m) ∧ X.cell? ⟨b, 1, none⟩ = some (.int .i64 u.z) ∧ X.cell? ⟨b, 2, none⟩ = some (.int .i64 u.b)) (by kernel_rfl) ⟨e8, e1, e2⟩ (fun hHeld => ?_)
    refine wpAnyW_take (i := 0) (v := .pointer (some ⟨b, 0, none⟩)) [] rfl (by kernel_rfl) (by kernel_rfl) (by kernel_rfl) (by kernel_rfl) (by kernel_rfl) (fun _ _ _ h => h) (Or.inl ⟨by rfl, by intro w hs; go_simp⟩) hHeld ?_
    refine norm_any' (fun K hK => ?_)
    go_simp
    refine hK _ _ ?_
    clear hK K
    refine wpAnyW_take (i := 1) (v := .pointer (some ⟨b, 0, none⟩)) [] rfl (by kernel_rfl) (by kernel_rfl) (by kernel_rfl) (by kernel_rfl) (by kernel_rfl) (fun _ _ _ h => h) (Or.inl ⟨by rfl, by intro w hs; go_simp⟩) hHeld ?_
    refine norm_any' (fun K hK => ?_)
    go_simp
    refine hK _ _ ?_
    clear hK K
    refine wpAnyW_take (i := 2) (v := .pointer (some ⟨b, 0, none⟩)) [] rfl (by kernel_rfl) (by kernel_rfl) (by kernel_rfl) (by kernel_rfl) (by kernel_rfl) (fun _ _ _ h => h) (Or.inl ⟨by rfl, by intro w hs; go_simp⟩) hHeld ?_
    refine norm_any' (fun K hK => ?_)
    go_simp
    refine hK _ _ ?_
    clear hK K
    refine wpAnyW_take (i := 3) (v := .pointer (some ⟨b, 8, none⟩)) [] rfl (by kernel_rfl) (by kernel_rfl) (by kernel_rfl) (by kernel_rfl) (by kernel_rfl) (fun _ _ _ h => h) (Or.inl ⟨by rfl, by intro w hs; go_simp⟩) hHeld ?_
    refine norm_any' (fun K hK => ?_)
    go_simp
    refine hK _ _ ?_
    clear hK K
    refine wpAnyW_take (i := 4) (v := .int .i64 u.m) [] rfl (by kernel_rfl) (by kernel_rfl) (by kernel_rfl) (by kernel_rfl) (by kernel_rfl) (fun _ _ _ h => h) (Or.inl ⟨by rfl, by rintro w ⟨s0, s1, s2⟩; go_simp⟩) hHeld ?_
    refine norm_any' (fun K hK => ?_)
    go_simp
    refine hK _ _ ?_
    clear hK K
    refine wpAnyW_take (i := 5) (v := .pointer (some ⟨b, 0, none⟩)) [] rfl (by kernel_rfl) (by kernel_rfl) (by kernel_rfl) (by kernel_rfl) (by kernel_rfl) (fun _ _ _ h => h) (Or.inl ⟨by rfl, by intro w hs; go_simp⟩) hHeld ?_
    refine norm_any' (fun K hK => ?_)
    go_simp
    refine hK _ _ ?_
    clear hK K
    refine wpAnyW_take (i := 6) (v := .pointer (some ⟨b, 0, none⟩)) [] rfl (by kernel_rfl) (by kernel_rfl) (by kernel_rfl) (by kernel_rfl) (by kernel_rfl) (fun _ _ _ h => h) (Or.inl ⟨by rfl, by intro w hs; go_simp⟩) hHeld ?_
    refine norm_any' (fun K hK => ?_)
    go_simp
    refine hK _ _ ?_
    clear hK K
    refine wpAnyW_take (i := 7) (v := .pointer (some ⟨b, 1, none⟩)) [] rfl (by kernel_rfl) (by kernel_rfl) (by kernel_rfl) (by kernel_rfl) (by kernel_rfl) (fun _ _ _ h => h) (Or.inl ⟨by rfl, by intro w hs; go_simp⟩) hHeld ?_
    refine norm_any' (fun K hK => ?_)
    go_simp
    refine hK _ _ ?_
    clear hK K
    refine wpAnyW_take (i := 8) (v := .int .i64 u.z) [] rfl (by kernel_rfl) (by kernel_rfl) (by kernel_rfl) (by kernel_rfl) (by kernel_rfl) (fun _ _ _ h => h) (Or.inl ⟨by rfl, by rintro w ⟨s0, s1, s2⟩; go_simp⟩) hHeld ?_
    refine norm_any' (fun K hK => ?_)
    go_simp
    refine hK _ _ ?_
    clear hK K
    refine wpAnyW_take (i := 9) (v := .int .i64 (9 * u.z)) [] rfl (by kernel_rfl) (by kernel_rfl) (by kernel_rfl) (by kernel_rfl) (by kernel_rfl) (fun _ _ _ h => h) (Or.inl ⟨by rfl, by intro w hs; go_simp⟩) hHeld ?_
    refine norm_any' (fun K hK => ?_)
    go_simp
    refine hK _ _ ?_
    clear hK K
    refine wpAnyW_take (i := 10) (v := .int .i64 n) [] rfl (by kernel_rfl) (by kernel_rfl) (by kernel_rfl) (by kernel_rfl) (by kernel_rfl) (fun _ _ _ h => h) (Or.inl ⟨by rfl, by intro w hs; go_simp⟩) hHeld ?_
    refine norm_any' (fun K hK => ?_)
    go_simp
    refine hK _ _ ?_
    clear hK K
    refine wpAnyW_take (i := 11) (v := .int .i64 (9 * u.z * n)) [] rfl (by kernel_rfl) (by kernel_rfl) (by kernel_rfl) (by kernel_rfl) (by kernel_rfl) (fun _ _ _ h => h) (Or.inl ⟨by rfl, by intro w hs; go_simp⟩) hHeld ?_
    refine norm_any' (fun K hK => ?_)
    go_simp
    refine hK _ _ ?_
    clear hK K
    refine wpAnyW_take (i := 12) (v := .pointer (some ⟨b, 0, none⟩)) [] rfl (by kernel_rfl) (by kernel_rfl) (by kernel_rfl) (by kernel_rfl) (by kernel_rfl) (fun _ _ _ h => h) (Or.inl ⟨by rfl, by intro w hs; go_simp⟩) hHeld ?_
    refine norm_any' (fun K hK => ?_)
    go_simp
    refine hK _ _ ?_
    clear hK K
    refine wpAnyW_take (i := 13) (v := .pointer (some ⟨b, 0, none⟩)) [] rfl (by kernel_rfl) (by kernel_rfl) (by kernel_rfl) (by kernel_rfl) (by kernel_rfl) (fun _ _ _ h => h) (Or.inl ⟨by rfl, by intro w hs; go_simp⟩) hHeld ?_
    refine norm_any' (fun K hK => ?_)
    go_simp
    refine hK _ _ ?_
    clear hK K
    refine wpAnyW_take (i := 14) (v := .pointer (some ⟨b, 2, none⟩)) [] rfl (by kernel_rfl) (by kernel_rfl) (by kernel_rfl) (by kernel_rfl) (by kernel_rfl) (fun _ _ _ h => h) (Or.inl ⟨by rfl, by intro w hs; go_simp⟩) hHeld ?_
    refine norm_any' (fun K hK => ?_)
    go_simp
    refine hK _ _ ?_
    clear hK K
    refine wpAnyW_take (i := 15) (v := .int .i64 u.b) [] rfl (by kernel_rfl) (by kernel_rfl) (by kernel_rfl) (by kernel_rfl) (by kernel_rfl) (fun _ _ _ h => h) (Or.inl ⟨by rfl, by rintro w ⟨s0, s1, s2⟩; go_simp⟩) hHeld ?_
    refine norm_any' (fun K hK => ?_)
    go_simp
    refine hK _ _ ?_
    clear hK K
    refine wpAnyW_take (i := 16) (v := .int .i64 (17 * u.b)) [] rfl (by kernel_rfl) (by kernel_rfl) (by kernel_rfl) (by kernel_rfl) (by kernel_rfl) (fun _ _ _ h => h) (Or.inl ⟨by rfl, by intro w hs; go_simp⟩) hHeld ?_
    refine norm_any' (fun K hK => ?_)
    go_simp
    refine hK _ _ ?_
    clear hK K
    refine wpAnyW_take (i := 17) (v := .int .i64 G) [] rfl (by kernel_rfl) (by kernel_rfl) (by kernel_rfl) (by kernel_rfl) (by kernel_rfl) (fun _ _ _ h => h) (Or.inl ⟨by rfl, by intro w hs; go_simp⟩) hHeld ?_
    refine norm_any' (fun K hK => ?_)
    go_simp
    refine hK _ _ ?_
    clear hK K
    refine wpAnyW_take (i := 18) (v := .int .i64 E) [] rfl (by kernel_rfl) (by kernel_rfl) (by kernel_rfl) (by kernel_rfl) (by kernel_rfl) (fun _ _ _ h => h) (Or.inl ⟨by rfl, by intro w hs; go_simp⟩) hHeld ?_
    refine norm_any' (fun K hK => ?_)
    go_simp
    refine hK _ _ ?_
    clear hK K
    refine wpAnyW_take (i := 19) (v := .pointer (some ⟨b, 0, none⟩)) [20] rfl (by kernel_rfl) (by kernel_rfl) (by kernel_rfl) (by kernel_rfl) (by kernel_rfl) (fun _ _ _ h => h) (Or.inl ⟨by rfl, by intro w hs; go_simp⟩) hHeld ?_
    refine norm_any' (fun K hK => ?_)
    go_simp
    refine hK _ _ ?_
    clear hK K
    refine wpAnyW_take (i := 20) (v := .pointer (some ⟨b, 8, none⟩)) [] rfl (by kernel_rfl) (by kernel_rfl) (by kernel_rfl) (by kernel_rfl) (by kernel_rfl) (fun _ _ _ h => h) (Or.inl ⟨by rfl, by intro w hs; go_simp⟩) hHeld ?_
    refine norm_any' (fun K hK => ?_)
    go_simp
    refine hK _ _ ?_
    clear hK K
    refine wpAnyW_last (by kernel_rfl) rfl (by kernel_rfl) (fun K hK => ?_)
    go_simp
    refine hK.out _ _ ?_
    clear hK K hHeld
    clear e1 e2 e8 f8 i4 i5 i6 i7 i8 i9 i10
    generalize (w1.setCell ⟨b, 8, none⟩ (.int .i64 E)).drew.drew = w6 at HR5 HT5 ⊢
    obtain ⟨d0, d1, d2, d3, d4, d5, d6, d7, d8⟩ := HR5.out.cells
    dsimp only at d2
    have e2 : w6.drew.cell? ⟨b, 2, none⟩ = some (.int .i64 u.b) := d2
    have f2 : w6.drew.frozen? ⟨b, 2, none⟩ = false := HR5.out.frozen 2
    have HR6 : Aside (Rt 34 (w6.setCell ⟨b, 2, none⟩ (.int .i64 (u.b + H))).drew b { u with m := E, b := u.b + H }) := (HR5.out.set 2 (.int .i64 (u.b + H)) { u with m := E, b := u.b + H } rfl).below (Below.refl _ _).drew
    have HT6 : Aside (Tn b w (w6.setCell ⟨b, 2, none⟩ (.int .i64 (u.b + H))).drew) := (HT5.out.trans (Tn.set HR5.out 2 (.int .i64 (u.b + H)))).trans (Tn.below (Below.refl _ _).drew)
    clear d0 d1 d2 d3 d4 d5 d6 d7 d8
    go_wp2_with fail
    refine wp_region_w 21 (fun X => X.cell? ⟨b, 2, none⟩ = some (.int .i64 u.b)) (by kernel_rfl) e2 (fun hHeld => ?_)
    refine wpAnyW_take (i := 0) (v := .pointer (some ⟨b, 0, none⟩)) [] rfl (by kernel_rfl) (by kernel_rfl) (by kernel_rfl) (by kernel_rfl) (by kernel_rfl) (fun _ _ _ h => h) (Or.inl ⟨by rfl, by intro w hs; go_simp⟩) hHeld ?_
    refine norm_any' (fun K hK => ?_)
    go_simp
    refine hK _ _ ?_
    clear hK K
    refine wpAnyW_take (i := 1) (v := .pointer (some ⟨b, 0, none⟩)) [] rfl (by kernel_rfl) (by kernel_rfl) (by kernel_rfl) (by kernel_rfl) (by kernel_rfl) (fun _ _ _ h => h) (Or.inl ⟨by rfl, by intro w hs; go_simp⟩) hHeld ?_
    refine norm_any' (fun K hK => ?_)
    go_simp
    refine hK _ _ ?_
    clear hK K
    refine wpAnyW_take (i := 2) (v := .pointer (some ⟨b, 0, none⟩)) [] rfl (by kernel_rfl) (by kernel_rfl) (by kernel_rfl) (by kernel_rfl) (by kernel_rfl) (fun _ _ _ h => h) (Or.inl ⟨by rfl, by intro w hs; go_simp⟩) hHeld ?_
    refine norm_any' (fun K hK => ?_)
    go_simp
    refine hK _ _ ?_
    clear hK K
    refine wpAnyW_take (i := 3) (v := .pointer (some ⟨b, 2, none⟩)) [] rfl (by kernel_rfl) (by kernel_rfl) (by kernel_rfl) (by kernel_rfl) (by kernel_rfl) (fun _ _ _ h => h) (Or.inl ⟨by rfl, by intro w hs; go_simp⟩) hHeld ?_
    refine norm_any' (fun K hK => ?_)
    go_simp
    refine hK _ _ ?_
    clear hK K
    refine wpAnyW_take (i := 4) (v := .int .i64 u.b) [] rfl (by kernel_rfl) (by kernel_rfl) (by kernel_rfl) (by kernel_rfl) (by kernel_rfl) (fun _ _ _ h => h) (Or.inl ⟨by rfl, by rintro w s0; go_simp⟩) hHeld ?_
    refine norm_any' (fun K hK => ?_)
    go_simp
    refine hK _ _ ?_
    clear hK K
    refine wpAnyW_take (i := 5) (v := .int .i64 T) [] rfl (by kernel_rfl) (by kernel_rfl) (by kernel_rfl) (by kernel_rfl) (by kernel_rfl) (fun _ _ _ h => h) (Or.inl ⟨by rfl, by intro w hs; go_simp⟩) hHeld ?_
    refine norm_any' (fun K hK => ?_)
    go_simp
    refine hK _ _ ?_
    clear hK K
    refine wpAnyW_take (i := 6) (v := .pointer (some ⟨b, 0, none⟩)) [] rfl (by kernel_rfl) (by kernel_rfl) (by kernel_rfl) (by kernel_rfl) (by kernel_rfl) (fun _ _ _ h => h) (Or.inl ⟨by rfl, by intro w hs; go_simp⟩) hHeld ?_
    refine norm_any' (fun K hK => ?_)
    go_simp
    refine hK _ _ ?_
    clear hK K
    refine wpAnyW_take (i := 7) (v := .pointer (some ⟨b, 0, none⟩)) [] rfl (by kernel_rfl) (by kernel_rfl) (by kernel_rfl) (by kernel_rfl) (by kernel_rfl) (fun _ _ _ h => h) (Or.inl ⟨by rfl, by intro w hs; go_simp⟩) hHeld ?_
    refine norm_any' (fun K hK => ?_)
    go_simp
    refine hK _ _ ?_
    clear hK K
    refine wpAnyW_take (i := 8) (v := .pointer (some ⟨b, 2, none⟩)) [] rfl (by kernel_rfl) (by kernel_rfl) (by kernel_rfl) (by kernel_rfl) (by kernel_rfl) (fun _ _ _ h => h) (Or.inl ⟨by rfl, by intro w hs; go_simp⟩) hHeld ?_
    refine norm_any' (fun K hK => ?_)
    go_simp
    refine hK _ _ ?_
    clear hK K
    refine wpAnyW_take (i := 9) (v := .int .i64 u.b) [] rfl (by kernel_rfl) (by kernel_rfl) (by kernel_rfl) (by kernel_rfl) (by kernel_rfl) (fun _ _ _ h => h) (Or.inl ⟨by rfl, by rintro w s0; go_simp⟩) hHeld ?_
    refine norm_any' (fun K hK => ?_)
    go_simp
    refine hK _ _ ?_
    clear hK K
    refine wpAnyW_take (i := 10) (v := .int .i64 (T - u.b)) [] rfl (by kernel_rfl) (by kernel_rfl) (by kernel_rfl) (by kernel_rfl) (by kernel_rfl) (fun _ _ _ h => h) (Or.inl ⟨by rfl, by intro w hs; go_simp⟩) hHeld ?_
    refine norm_any' (fun K hK => ?_)
    go_simp
    refine hK _ _ ?_
    clear hK K
    refine wpAnyW_take (i := 11) (v := .int .i64 n) [] rfl (by kernel_rfl) (by kernel_rfl) (by kernel_rfl) (by kernel_rfl) (by kernel_rfl) (fun _ _ _ h => h) (Or.inl ⟨by rfl, by intro w hs; go_simp⟩) hHeld ?_
    refine norm_any' (fun K hK => ?_)
    go_simp
    refine hK _ _ ?_
    clear hK K
    refine wpAnyW_take (i := 12) (v := .int .i64 ((T - u.b) * n)) [] rfl (by kernel_rfl) (by kernel_rfl) (by kernel_rfl) (by kernel_rfl) (by kernel_rfl) (fun _ _ _ h => h) (Or.inl ⟨by rfl, by intro w hs; go_simp⟩) hHeld ?_
    refine norm_any' (fun K hK => ?_)
    go_simp
    refine hK _ _ ?_
    clear hK K
    refine wpAnyW_take (i := 13) (v := .pointer (some ⟨b, 0, none⟩)) [] rfl (by kernel_rfl) (by kernel_rfl) (by kernel_rfl) (by kernel_rfl) (by kernel_rfl) (fun _ _ _ h => h) (Or.inl ⟨by rfl, by intro w hs; go_simp⟩) hHeld ?_
    refine norm_any' (fun K hK => ?_)
    go_simp
    refine hK _ _ ?_
    clear hK K
    refine wpAnyW_take (i := 14) (v := .pointer (some ⟨b, 0, none⟩)) [] rfl (by kernel_rfl) (by kernel_rfl) (by kernel_rfl) (by kernel_rfl) (by kernel_rfl) (fun _ _ _ h => h) (Or.inl ⟨by rfl, by intro w hs; go_simp⟩) hHeld ?_
    refine norm_any' (fun K hK => ?_)
    go_simp
    refine hK _ _ ?_
    clear hK K
    refine wpAnyW_take (i := 15) (v := .pointer (some ⟨b, 2, none⟩)) [] rfl (by kernel_rfl) (by kernel_rfl) (by kernel_rfl) (by kernel_rfl) (by kernel_rfl) (fun _ _ _ h => h) (Or.inl ⟨by rfl, by intro w hs; go_simp⟩) hHeld ?_
    refine norm_any' (fun K hK => ?_)
    go_simp
    refine hK _ _ ?_
    clear hK K
    refine wpAnyW_take (i := 16) (v := .int .i64 u.b) [] rfl (by kernel_rfl) (by kernel_rfl) (by kernel_rfl) (by kernel_rfl) (by kernel_rfl) (fun _ _ _ h => h) (Or.inl ⟨by rfl, by rintro w s0; go_simp⟩) hHeld ?_
    refine norm_any' (fun K hK => ?_)
    go_simp
    refine hK _ _ ?_
    clear hK K
    refine wpAnyW_take (i := 17) (v := .int .i64 H) [] rfl (by kernel_rfl) (by kernel_rfl) (by kernel_rfl) (by kernel_rfl) (by kernel_rfl) (fun _ _ _ h => h) (Or.inl ⟨by rfl, by intro w hs; go_simp⟩) hHeld ?_
    refine norm_any' (fun K hK => ?_)
    go_simp
    refine hK _ _ ?_
    clear hK K
    refine wpAnyW_take (i := 18) (v := .int .i64 (u.b + H)) [] rfl (by kernel_rfl) (by kernel_rfl) (by kernel_rfl) (by kernel_rfl) (by kernel_rfl) (fun _ _ _ h => h) (Or.inl ⟨by rfl, by intro w hs; go_simp⟩) hHeld ?_
    refine norm_any' (fun K hK => ?_)
    go_simp
    refine hK _ _ ?_
    clear hK K
    refine wpAnyW_take (i := 19) (v := .pointer (some ⟨b, 0, none⟩)) [20] rfl (by kernel_rfl) (by kernel_rfl) (by kernel_rfl) (by kernel_rfl) (by kernel_rfl) (fun _ _ _ h => h) (Or.inl ⟨by rfl, by intro w hs; go_simp⟩) hHeld ?_
    refine norm_any' (fun K hK => ?_)
    go_simp
    refine hK _ _ ?_
    clear hK K
    refine wpAnyW_take (i := 20) (v := .pointer (some ⟨b, 2, none⟩)) [] rfl (by kernel_rfl) (by kernel_rfl) (by kernel_rfl) (by kernel_rfl) (by kernel_rfl) (fun _ _ _ h => h) (Or.inl ⟨by rfl, by intro w hs; go_simp⟩) hHeld ?_
    refine norm_any' (fun K hK => ?_)
    go_simp
    refine hK _ _ ?_
    clear hK K
    refine wpAnyW_last (by kernel_rfl) rfl (by kernel_rfl) (fun K hK => ?_)
    go_simp
    refine hK.out _ _ ?_
    clear hK K hHeld
    clear e2 f2 j1 j2 j3 j4 j5 j7
    generalize (w6.setCell ⟨b, 2, none⟩ (.int .i64 (u.b + H))).drew = w7 at HR6 HT6 ⊢
    obtain ⟨d0, d1, d2, d3, d4, d5, d6, d7, d8⟩ := HR6.out.cells
    dsimp only at d2 d8
    clear d0 d1 d3 d4 d5 d6 d7
    by_cases q : u.b + H < E
    · go_wp2_with fail
      go_quiet (fail)
      have x8 : (w7.drewN nq).cell? ⟨b, 8, none⟩ = some (.int .i64 E) := d8
      have x2 : (w7.drewN nq).cell? ⟨b, 2, none⟩ = some (.int .i64 (u.b + H)) := d2
      have xf : (w7.drewN nq).frozen? ⟨b, 2, none⟩ = false := HR6.out.frozen 2
      have HR8 : Aside (Rt 34 (w7.drewN nq) b { u with m := E, b := u.b + H }) := HR6.out.below (below_drewN (Below.refl _ _) _)
      have HT8 : Aside (Tn b w (w7.drewN nq)) := HT6.out.trans (Tn.below (below_drewN (Below.refl _ _) _))
      clear d2 d8 HR6 HT6
      generalize w7.drewN nq = w8 at *
      go_wp2
      go_end0
      refine ⟨rfl, ?_, HT8.out.trans (Tn.set HR8.out 2 (.int .i64 E))⟩
      rw [HFO.out, show max (u.b + H) E = E by omega]
      exact HR8.out.set 2 (.int .i64 E) _ rfl
    · go_wp2_with fail
      go_quiet (fail)
      have HR8 : Aside (Rt 34 (w7.drewN nq) b { u with m := E, b := u.b + H }) := HR6.out.below (below_drewN (Below.refl _ _) _)
      have HT8 : Aside (Tn b w (w7.drewN nq)) := HT6.out.trans (Tn.below (below_drewN (Below.refl _ _) _))
      clear d2 d8 HR6 HT6
      generalize w7.drewN nq = w8 at *
      go_wp2
      go_end0
      refine ⟨rfl, ?_, HT8.out⟩
      rw [HFO.out, show max (u.b + H) E = u.b + H by omega]
      exact HR8.out
end Go.Proofs.Ytphkgijimbkgeaa
