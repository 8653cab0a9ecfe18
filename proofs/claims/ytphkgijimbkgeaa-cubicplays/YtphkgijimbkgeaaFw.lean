/- cubic: follow. -/
import Derived.Test.YtphkgijimbkgeaaFo
import Derived.Test.YtphkgijimbkgeaaEv
namespace Go.Proofs.Ytphkgijimbkgeaa
open Go.RowKit
set_option linter.unusedVariables false

/-- A curve begins, where there is none. -/
def Wv.begin (v : Wv) (now : Int) : Wv := if v.e = -1 then { v with e := now, t := v.b, m := v.b, p := max v.p v.b } else v
/-- Where the window would come to. -/
def Wv.tgt (u : Wv) (now rtt : Int) : Int := cl (wr (u.p + u.beside now rtt)) u.b (3 * u.b / 2)
/-- What a Reno would have by now. -/
def Wv.est (u : Wv) (n : Int) : Int := wr (u.m + 9 * u.z * n / (17 * u.b))
def Wv.fol (u : Wv) (n now rtt : Int) : Wv := ({ u with m := u.est n } : Wv).become (max (u.b + (u.tgt now rtt - u.b) * n / u.b) (u.est n))
def Wv.follow (v : Wv) (n now rtt : Int) : Wv := (v.begin now).fol n now rtt

theorem Wv.begin_ok (v : Wv) (now : Int) (h : v.ok) (h0 : 0 ≤ now) : (v.begin now).ok ∧ (v.begin now).z = v.z ∧ (v.begin now).b = v.b := by
  unfold Wv.begin
  split
  · exact ⟨⟨h.k0, h.z0, h.z1, h.b0, h.b1, h.s0, .inr h0⟩, rfl, rfl⟩
  · exact ⟨h, rfl, rfl⟩
/-- What the target adds lies within a product that fits. -/
theorem Wv.gain (u : Wv) (n now rtt : Int) (h : u.ok) (n0 : 0 ≤ n) (n1 : n ≤ 1048576) : u.b ≤ u.tgt now rtt ∧ u.tgt now rtt ≤ 3 * u.b / 2 ∧ 0 ≤ (u.tgt now rtt - u.b) * n ∧ (u.tgt now rtt - u.b) * n ≤ 562949953421312 := by
  obtain ⟨k0, z0, z1, b0, b1, s0, e0⟩ := h
  have h1 : u.b ≤ u.tgt now rtt ∧ u.tgt now rtt ≤ 3 * u.b / 2 := by unfold Wv.tgt cl; omega
  refine ⟨h1.1, h1.2, Int.mul_nonneg (by omega) n0, ?_⟩
  have : (u.tgt now rtt - u.b) * n ≤ 536870912 * 1048576 := Int.mul_le_mul (by omega) n1 n0 (by omega)
  omega
theorem mulzn (z n : Int) (z0 : 0 ≤ z) (z1 : z ≤ 65535) (n0 : 0 ≤ n) (n1 : n ≤ 1048576) : 0 ≤ z * n ∧ z * n ≤ 68718428160 ∧ 0 ≤ 9 * z * n ∧ 9 * z * n ≤ 618465853440 := by
  have h0 : 0 ≤ z * n := Int.mul_nonneg z0 n0
  have h1 : z * n ≤ 65535 * 1048576 := Int.mul_le_mul z1 n1 n0 (by omega)
  have h2 : 9 * z * n = 9 * (z * n) := Int.mul_assoc 9 z n
  omega
theorem Wv.fol_ok (u : Wv) (n now rtt : Int) (h : u.ok) : (u.fol n now rtt).ok := by
  have h1 : ({ u with m := u.est n } : Wv).ok := ⟨h.k0, h.z0, h.z1, h.b0, h.b1, h.s0, h.e0⟩
  exact Wv.become_ok _ _ h1
theorem Wv.follow_ok (v : Wv) (n now rtt : Int) (h : v.ok) (h0 : 0 ≤ now) : (v.follow n now rtt).ok := Wv.fol_ok _ n now rtt (v.begin_ok now h h0).1

set_option maxRecDepth 100000 in
set_option maxHeartbeats 1000000 in
theorem follow_c (b : Nat) (v : Wv) (n now rtt : Int) (w : World) (h : Rt 45 w b v) (ho : v.ok) (n0 : 0 ≤ n) (n1 : n ≤ 1048576) (t0 : 0 ≤ now) : Calls Try.prog 24 #[.pointer (some ⟨b, 0, none⟩), .int .i64 n, .int .i64 now, .int .i64 rtt] w fun e w' => e = .returned (.tuple #[]) ∧ Rt 45 w' b (v.follow n now rtt) ∧ Tn b w w' := by
  obtain ⟨hok, hz, hb⟩ := v.begin_ok now ho t0
  have HFO : Aside (v.follow n now rtt = (v.begin now).fol n now rtt) := rfl
  have hbg : v.begin now = if v.e = -1 then { v with e := now, t := v.b, m := v.b, p := max v.p v.b } else v := rfl
  generalize v.begin now = u at *
  generalize v.follow n now rtt = R at *
  obtain ⟨g1, g2, g3, g4⟩ := u.gain n now rtt hok n0 n1
  obtain ⟨k0, z0, z1, b0, b1, s0, e0⟩ := hok
  obtain ⟨m1, m2, m3, m4⟩ := mulzn u.z n (by omega) z1 n0 n1
  have hT : u.tgt now rtt = cl (IntKind.i64.wrap (u.p + u.beside now rtt)) u.b (3 * u.b / 2) := rfl
  have hfo : u.fol n now rtt = ({ u with m := u.est n } : Wv).become (max (u.b + (u.tgt now rtt - u.b) * n / u.b) (u.est n)) := rfl
  have he : u.est n = IntKind.i64.wrap (u.m + 9 * u.z * n / (17 * u.b)) := rfl
  have HBS : Aside (∀ X, Rt 45 X b u → Calls Try.prog 29 #[.pointer (some ⟨b, 0, none⟩), .int .i64 now, .int .i64 rtt] X fun e w' => e = .returned (.int .i64 (u.beside now rtt)) ∧ Below X.heap.size X w') := fun X hX => beside_c b u now rtt X hX (by omega)
  generalize u.beside now rtt = BS at *
  obtain ⟨E, hE⟩ : ∃ E, u.est n = E := ⟨_, rfl⟩
  rw [hE] at hfo he
  obtain ⟨T, hTT⟩ : ∃ T, u.tgt now rtt = T := ⟨_, rfl⟩
  rw [hTT] at hfo hT g1 g2 g3 g4
  obtain ⟨P1, p1⟩ : ∃ x, IntKind.i64.wrap (u.p + BS) = x := ⟨_, rfl⟩
  rw [p1] at hT
  have i1 : IntKind.i64.wrap (3 * u.b) = 3 * u.b := wrp _ (by omega) (by omega)
  have i2 : (3 * u.b).tdiv 2 = 3 * u.b / 2 := Int.tdiv_eq_ediv_of_nonneg (by omega)
  have i3 : IntKind.i64.wrap (3 * u.b / 2) = 3 * u.b / 2 := wrp _ (by omega) (by omega)
  have i4 : IntKind.i64.wrap (9 * u.z) = 9 * u.z := wrp _ (by omega) (by omega)
  have i5 : IntKind.i64.wrap (9 * u.z * n) = 9 * u.z * n := wrp _ (by omega) (by omega)
  have i6 : IntKind.i64.wrap (17 * u.b) = 17 * u.b := wrp _ (by omega) (by omega)
  have i7 : 17 * u.b ≠ 0 := by omega
  obtain ⟨G, hG⟩ : ∃ x, 9 * u.z * n / (17 * u.b) = x := ⟨_, rfl⟩
  rw [hG] at he
  have hG1 : 0 ≤ G ∧ G ≤ 618465853440 := by
    rw [← hG]
    exact ⟨Int.ediv_nonneg m3 (by omega), Int.le_trans (Int.ediv_le_self _ m3) m4⟩
  have i8 : (9 * u.z * n).tdiv (17 * u.b) = G := by rw [Int.tdiv_eq_ediv_of_nonneg m3, hG]
  have i9 : IntKind.i64.wrap G = G := wrp _ (by omega) (by omega)
  have i10 : IntKind.i64.wrap (u.m + G) = E := he.symm
  have j1 : IntKind.i64.wrap (T - u.b) = T - u.b := wrp _ (by omega) (by omega)
  have j2 : IntKind.i64.wrap ((T - u.b) * n) = (T - u.b) * n := wrp _ (by omega) (by omega)
  obtain ⟨H, hH⟩ : ∃ x, (T - u.b) * n / u.b = x := ⟨_, rfl⟩
  rw [hH] at hfo
  have hH1 : 0 ≤ H ∧ H ≤ 562949953421312 := by
    rw [← hH]
    exact ⟨Int.ediv_nonneg g3 (by omega), Int.le_trans (Int.ediv_le_self _ g3) g4⟩
  have j3 : ((T - u.b) * n).tdiv u.b = H := by rw [Int.tdiv_eq_ediv_of_nonneg g3, hH]
  have j4 : IntKind.i64.wrap H = H := wrp _ (by omega) (by omega)
  have j5 : IntKind.i64.wrap (u.b + H) = u.b + H := wrp _ (by omega) (by omega)
  have j6 := max_if (u.b + H) E
  have j7 : u.b ≠ 0 := by omega
  obtain ⟨MX, hMX⟩ : ∃ x, max (u.b + H) E = x := ⟨_, rfl⟩
  rw [hMX] at j6 hfo
  have HBT : Aside (∀ X, Calls Try.prog 21 #[.int .i64 P1, .int .i64 u.b, .int .i64 (3 * u.b / 2)] X fun e w' => e = .returned (.int .i64 T) ∧ w' = X) := fun X => by
    have := between_c P1 u.b (3 * u.b / 2) X
    rw [← hT] at this
    exact this
  have HBC : Aside (∀ X, Rt 45 X b { u with m := E } → Calls Try.prog 23 #[.pointer (some ⟨b, 0, none⟩), .int .i64 MX] X fun e w' => e = .returned (.tuple #[]) ∧ Rt 45 w' b R ∧ Tn b X w') := fun X hX => by
    have := become_c b _ MX X hX (by simp only; omega) (by simp only; omega)
    rw [← hfo, ← HFO.out] at this
    exact this
  clear hH hG he hT hTT hE hfo hMX HFO g1 g2 g3 g4 m1 m2 m3 m4 hG1 hH1 s0 e0 k0
  by_cases q1 : v.e = -1
  · rw [if_pos q1] at hbg
    obtain ⟨c0, c1, c2, c3, c4, c5, c6, c7, c8⟩ := h.cells
    rw [q1] at c6
    have g6 := h.frozen 6
    have g7 := h.frozen 7
    have g8 := h.frozen 8
    have k1 : w.drew.cell? ⟨b, 2, none⟩ = some (.int .i64 v.b) := c2
    have r1 := h.set 6 (.int .i64 now) { v with e := now } rfl
    have r2 := r1.set 7 (.int .i64 v.b) { v with e := now, t := v.b } rfl
    have r3 := r2.set 8 (.int .i64 v.b) { v with e := now, t := v.b, m := v.b } rfl
    have y1 : (w.setCell ⟨b, 6, none⟩ (.int .i64 now)).drew.cell? ⟨b, 2, none⟩ = some (.int .i64 v.b) := r1.cells.2.2.1
    have y2 : ((w.setCell ⟨b, 6, none⟩ (.int .i64 now)).setCell ⟨b, 7, none⟩ (.int .i64 v.b)).drew.cell? ⟨b, 2, none⟩ = some (.int .i64 v.b) := r2.cells.2.2.1
    have y3 : (((w.setCell ⟨b, 6, none⟩ (.int .i64 now)).setCell ⟨b, 7, none⟩ (.int .i64 v.b)).setCell ⟨b, 8, none⟩ (.int .i64 v.b)).drew.cell? ⟨b, 2, none⟩ = some (.int .i64 v.b) := r3.cells.2.2.1
    have HR3 : Aside (Rt 45 (((w.setCell ⟨b, 6, none⟩ (.int .i64 now)).setCell ⟨b, 7, none⟩ (.int .i64 v.b)).setCell ⟨b, 8, none⟩ (.int .i64 v.b)).drew b { v with e := now, t := v.b, m := v.b }) := r3.below (Below.refl _ _).drew
    have HT3 : Aside (Tn b w (((w.setCell ⟨b, 6, none⟩ (.int .i64 now)).setCell ⟨b, 7, none⟩ (.int .i64 v.b)).setCell ⟨b, 8, none⟩ (.int .i64 v.b)).drew) := (((Tn.set h 6 (.int .i64 now)).trans (Tn.set r1 7 (.int .i64 v.b))).trans (Tn.set r2 8 (.int .i64 v.b))).trans (Tn.below (Below.refl _ _).drew)
    have HU : Aside _ := hbg
    clear hbg r1 r2 r3 ho
    have j8 := max_if v.p v.b
    obtain ⟨PP, hPP⟩ : ∃ x, max v.p v.b = x := ⟨_, rfl⟩
    rw [hPP] at j8
    have HPP : Aside _ := hPP
    clear hPP
    go_enter Try.func24, Try.ntmps24
    go_wp2_with fail
    go_region_held3 (fun w' => w'.cell? ⟨b, 2, none⟩ = some (.int .i64 v.b)) (first | exact k1 | exact y1 | exact y2 | exact y3) (fail)
    clear c0 c1 c2 c3 c4 c5 c6 c7 c8 g6 g7 g8 k1 y1 y2 y3
    generalize (((w.setCell ⟨b, 6, none⟩ (.int .i64 now)).setCell ⟨b, 7, none⟩ (.int .i64 v.b)).setCell ⟨b, 8, none⟩ (.int .i64 v.b)).drew = w1 at HR3 HT3 ⊢
    obtain ⟨c0, c1, c2, c3, c4, c5, c6, c7, c8⟩ := HR3.out.cells
    dsimp only at c2 c5
    have k2 : w1.drew.cell? ⟨b, 2, none⟩ = some (.int .i64 v.b) := c2
    have k5 : w1.drew.cell? ⟨b, 5, none⟩ = some (.int .i64 v.p) := c5
    have g5 : w1.drew.frozen? ⟨b, 5, none⟩ = false := HR3.out.frozen 5
    have HR9 : Aside (Rt 45 (w1.setCell ⟨b, 5, none⟩ (.int .i64 PP)).drew b u) := by
      have hu : u = { v with e := now, t := v.b, m := v.b, p := PP } := by rw [HU.out, HPP.out]
      rw [hu]
      exact (HR3.out.set 5 (.int .i64 PP) { v with e := now, t := v.b, m := v.b, p := PP } rfl).below (Below.refl _ _).drew
    have HT9 : Aside (Tn b w (w1.setCell ⟨b, 5, none⟩ (.int .i64 PP)).drew) := (HT3.out.trans (Tn.set HR3.out 5 (.int .i64 PP))).trans (Tn.below (Below.refl _ _).drew)
    clear c0 c1 c2 c3 c4 c5 c6 c7 c8
    go_wp2_with fail
    refine wp_region_w 12 (fun X => X.cell? ⟨b, 5, none⟩ = some (.int .i64 v.p) ∧ X.cell? ⟨b, 2, none⟩ = some (.int .i64 v.b)) (by kernel_rfl) ⟨k5, k2⟩ (fun hHeld => ?_)
    refine wpAnyW_take (i := 0) (v := .pointer (some ⟨b, 0, none⟩)) [] rfl (by kernel_rfl) (by kernel_rfl) (by kernel_rfl) (by kernel_rfl) (by kernel_rfl) (fun _ _ _ h => h) (Or.inl ⟨by rfl, by intro w hs; go_simp⟩) hHeld ?_
    refine norm_any' (fun K hK => ?_)
    go_simp
    refine hK _ _ ?_
    clear hK K
    refine wpAnyW_take (i := 1) (v := .pointer (some ⟨b, 0, none⟩)) [] rfl (by kernel_rfl) (by kernel_rfl) (by kernel_rfl) (by kernel_rfl) (by kernel_rfl) (fun _ _ _ h => h) (Or.inl ⟨by rfl, by intro w hs; go_simp⟩) hHeld ?_
    refine norm_any' (fun K hK => ?_)
    go_simp
    refine hK _ _ ?_
    clear hK K
    refine wpAnyW_take (i := 2) (v := .pointer (some ⟨b, 0, none⟩)) [] rfl (by kernel_rfl) (by kernel_rfl) (by kernel_rfl) (by kernel_rfl) (by kernel_rfl) (fun _ _ _ h => h) (Or.inl ⟨by rfl, by intro w hs; go_simp⟩) hHeld ?_
    refine norm_any' (fun K hK => ?_)
    go_simp
    refine hK _ _ ?_
    clear hK K
    refine wpAnyW_take (i := 3) (v := .pointer (some ⟨b, 5, none⟩)) [] rfl (by kernel_rfl) (by kernel_rfl) (by kernel_rfl) (by kernel_rfl) (by kernel_rfl) (fun _ _ _ h => h) (Or.inl ⟨by rfl, by intro w hs; go_simp⟩) hHeld ?_
    refine norm_any' (fun K hK => ?_)
    go_simp
    refine hK _ _ ?_
    clear hK K
    refine wpAnyW_take (i := 4) (v := .int .i64 v.p) [] rfl (by kernel_rfl) (by kernel_rfl) (by kernel_rfl) (by kernel_rfl) (by kernel_rfl) (fun _ _ _ h => h) (Or.inl ⟨by rfl, by rintro w ⟨s0, s1⟩; go_simp⟩) hHeld ?_
    refine norm_any' (fun K hK => ?_)
    go_simp
    refine hK _ _ ?_
    clear hK K
    refine wpAnyW_take (i := 5) (v := .pointer (some ⟨b, 0, none⟩)) [] rfl (by kernel_rfl) (by kernel_rfl) (by kernel_rfl) (by kernel_rfl) (by kernel_rfl) (fun _ _ _ h => h) (Or.inl ⟨by rfl, by intro w hs; go_simp⟩) hHeld ?_
    refine norm_any' (fun K hK => ?_)
    go_simp
    refine hK _ _ ?_
    clear hK K
    refine wpAnyW_take (i := 6) (v := .pointer (some ⟨b, 0, none⟩)) [] rfl (by kernel_rfl) (by kernel_rfl) (by kernel_rfl) (by kernel_rfl) (by kernel_rfl) (fun _ _ _ h => h) (Or.inl ⟨by rfl, by intro w hs; go_simp⟩) hHeld ?_
    refine norm_any' (fun K hK => ?_)
    go_simp
    refine hK _ _ ?_
    clear hK K
    refine wpAnyW_take (i := 7) (v := .pointer (some ⟨b, 2, none⟩)) [] rfl (by kernel_rfl) (by kernel_rfl) (by kernel_rfl) (by kernel_rfl) (by kernel_rfl) (fun _ _ _ h => h) (Or.inl ⟨by rfl, by intro w hs; go_simp⟩) hHeld ?_
    refine norm_any' (fun K hK => ?_)
    go_simp
    refine hK _ _ ?_
    clear hK K
    refine wpAnyW_take (i := 8) (v := .int .i64 v.b) [] rfl (by kernel_rfl) (by kernel_rfl) (by kernel_rfl) (by kernel_rfl) (by kernel_rfl) (fun _ _ _ h => h) (Or.inl ⟨by rfl, by rintro w ⟨s0, s1⟩; go_simp⟩) hHeld ?_
    refine norm_any' (fun K hK => ?_)
    go_simp
    refine hK _ _ ?_
    clear hK K
    refine wpAnyW_take (i := 9) (v := .int .i64 PP) [] rfl (by kernel_rfl) (by kernel_rfl) (by kernel_rfl) (by kernel_rfl) (by kernel_rfl) (fun _ _ _ h => h) (Or.inl ⟨by rfl, by intro w hs; go_simp⟩) hHeld ?_
    refine norm_any' (fun K hK => ?_)
    go_simp
    refine hK _ _ ?_
    clear hK K
    refine wpAnyW_take (i := 10) (v := .pointer (some ⟨b, 0, none⟩)) [11] rfl (by kernel_rfl) (by kernel_rfl) (by kernel_rfl) (by kernel_rfl) (by kernel_rfl) (fun _ _ _ h => h) (Or.inl ⟨by rfl, by intro w hs; go_simp⟩) hHeld ?_
    refine norm_any' (fun K hK => ?_)
    go_simp
    refine hK _ _ ?_
    clear hK K
    refine wpAnyW_take (i := 11) (v := .pointer (some ⟨b, 5, none⟩)) [] rfl (by kernel_rfl) (by kernel_rfl) (by kernel_rfl) (by kernel_rfl) (by kernel_rfl) (fun _ _ _ h => h) (Or.inl ⟨by rfl, by intro w hs; go_simp⟩) hHeld ?_
    refine norm_any' (fun K hK => ?_)
    go_simp
    refine hK _ _ ?_
    clear hK K
    refine wpAnyW_last (by kernel_rfl) rfl (by kernel_rfl) (fun K hK => ?_)
    go_simp
    refine hK.out _ _ ?_
    clear hK K hHeld
    clear k2 k5 g5 j8 HR3 HT3
    generalize (w1.setCell ⟨b, 5, none⟩ (.int .i64 PP)).drew = w2 at HR9 HT9 ⊢
    obtain ⟨c0, c1, c2, c3, c4, c5, c6, c7, c8⟩ := HR9.out.cells
    have HC : Aside (∀ X : World, Below w2.heap.size w2 X → Rt 45 X b u) := fun X hX => HR9.out.below hX
    have HBd : Aside (Below w2.heap.size w2 w2.drew) := (Below.refl _ w2).drew
    have HT : Aside (Tn b w w2) := HT9.out
    clear hz hb HU HPP HR9 HT9
    go_wp2_with fail
    go_region_held3 (fun w' => w'.cell? ⟨b, 5, none⟩ = some (.int .i64 u.p) ∧ w'.cell? ⟨b, 2, none⟩ = some (.int .i64 u.b)) (first | exact ⟨(Rt.cells (HC.out _ HB4.out)).2.2.2.2.2.1, (Rt.cells (HC.out _ HB4.out)).2.2.1⟩ | exact ⟨c5, c2⟩) (first | (go_at_call 21; have HBB := HB4; refine Calls.mono (HBT.out _) ?_; rintro e w5 ⟨rfl, hw5⟩; subst w5) | (go_at_call 29; refine Calls.mono (HBS.out _ (HC.out _ HBd.out)) ?_; rintro e w4 ⟨rfl, hb4⟩; have HB4 : Aside (Below w2.heap.size w2 w4) := bel_trans HBd.out hb4; clear hb4))
    have HR4 : Aside (Rt 45 w4 b u) := HC.out _ HB4.out
    have HT4 : Aside (Tn b w w4) := Tn.trans HT.out (Tn.below HB4.out)
    obtain ⟨d0, d1, d2, d3, d4, d5, d6, d7, d8⟩ := HR4.out.cells
    have e1 : w4.drew.cell? ⟨b, 1, none⟩ = some (.int .i64 u.z) := d1
    have e2 : w4.drew.cell? ⟨b, 2, none⟩ = some (.int .i64 u.b) := d2
    have e8 : w4.drew.cell? ⟨b, 8, none⟩ = some (.int .i64 u.m) := d8
    have f8 : w4.drew.frozen? ⟨b, 8, none⟩ = false := HR4.out.frozen 8
    have HR5 : Aside (Rt 45 (w4.setCell ⟨b, 8, none⟩ (.int .i64 E)).drew b { u with m := E }) := (HR4.out.set 8 (.int .i64 E) { u with m := E } rfl).below (Below.refl _ _).drew
    have HT5 : Aside (Tn b w (w4.setCell ⟨b, 8, none⟩ (.int .i64 E)).drew) := (HT4.out.trans (Tn.set HR4.out 8 (.int .i64 E))).trans (Tn.below (Below.refl _ _).drew)
    clear c0 c1 c2 c3 c4 c5 c6 c7 c8 d0 d1 d2 d3 d4 d5 d6 d7 d8 i1 i2 i3 p1
    go_wp2_with fail
    refine wp_region_w 20 (fun X => X.cell? ⟨b, 8, none⟩ = some (.int .i64 u.m) ∧ X.cell? ⟨b, 1, none⟩ = some (.int .i64 u.z) ∧ X.cell? ⟨b, 2, none⟩ = some (.int .i64 u.b)) (by kernel_rfl) ⟨e8, e1, e2⟩ (fun hHeld => ?_)
    refine wpAnyW_take (i := 0) (v := .pointer (some ⟨b, 0, none⟩)) [] rfl (by kernel_rfl) (by kernel_rfl) (by kernel_rfl) (by kernel_rfl) (by kernel_rfl) (fun _ _ _ h => h) (Or.inl ⟨by rfl, by intro w hs; go_simp⟩) hHeld ?_
    refine norm_any' (fun K hK => ?_)
    go_simp
    refine hK _ _ ?_
    clear hK K
    refine wpAnyW_take (i := 1) (v := .pointer (some ⟨b, 0, none⟩)) [] rfl (by kernel_rfl) (by kernel_rfl) (by kernel_rfl) (by kernel_rfl) (by kernel_rfl) (fun _ _ _ h => h) (Or.inl ⟨by rfl, by intro w hs; go_simp⟩) hHeld ?_
    refine norm_any' (fun K hK => ?_)
    go_simp
    refine hK _ _ ?_
    clear hK K
    refine wpAnyW_take (i := 2) (v := .pointer (some ⟨b, 8, none⟩)) [] rfl (by kernel_rfl) (by kernel_rfl) (by kernel_rfl) (by kernel_rfl) (by kernel_rfl) (fun _ _ _ h => h) (Or.inl ⟨by rfl, by intro w hs; go_simp⟩) hHeld ?_
    refine norm_any' (fun K hK => ?_)
    go_simp
    refine hK _ _ ?_
    clear hK K
    refine wpAnyW_take (i := 3) (v := .int .i64 u.m) [] rfl (by kernel_rfl) (by kernel_rfl) (by kernel_rfl) (by kernel_rfl) (by kernel_rfl) (fun _ _ _ h => h) (Or.inl ⟨by rfl, by rintro w ⟨s0, s1, s2⟩; go_simp⟩) hHeld ?_
    refine norm_any' (fun K hK => ?_)
    go_simp
    refine hK _ _ ?_
    clear hK K
    refine wpAnyW_take (i := 4) (v := .pointer (some ⟨b, 0, none⟩)) [] rfl (by kernel_rfl) (by kernel_rfl) (by kernel_rfl) (by kernel_rfl) (by kernel_rfl) (fun _ _ _ h => h) (Or.inl ⟨by rfl, by intro w hs; go_simp⟩) hHeld ?_
    refine norm_any' (fun K hK => ?_)
    go_simp
    refine hK _ _ ?_
    clear hK K
    refine wpAnyW_take (i := 5) (v := .pointer (some ⟨b, 0, none⟩)) [] rfl (by kernel_rfl) (by kernel_rfl) (by kernel_rfl) (by kernel_rfl) (by kernel_rfl) (fun _ _ _ h => h) (Or.inl ⟨by rfl, by intro w hs; go_simp⟩) hHeld ?_
    refine norm_any' (fun K hK => ?_)
    go_simp
    refine hK _ _ ?_
    clear hK K
    refine wpAnyW_take (i := 6) (v := .pointer (some ⟨b, 1, none⟩)) [] rfl (by kernel_rfl) (by kernel_rfl) (by kernel_rfl) (by kernel_rfl) (by kernel_rfl) (fun _ _ _ h => h) (Or.inl ⟨by rfl, by intro w hs; go_simp⟩) hHeld ?_
    refine norm_any' (fun K hK => ?_)
    go_simp
    refine hK _ _ ?_
    clear hK K
    refine wpAnyW_take (i := 7) (v := .int .i64 u.z) [] rfl (by kernel_rfl) (by kernel_rfl) (by kernel_rfl) (by kernel_rfl) (by kernel_rfl) (fun _ _ _ h => h) (Or.inl ⟨by rfl, by rintro w ⟨s0, s1, s2⟩; go_simp⟩) hHeld ?_
    refine norm_any' (fun K hK => ?_)
    go_simp
    refine hK _ _ ?_
    clear hK K
    refine wpAnyW_take (i := 8) (v := .int .i64 (9 * u.z)) [] rfl (by kernel_rfl) (by kernel_rfl) (by kernel_rfl) (by kernel_rfl) (by kernel_rfl) (fun _ _ _ h => h) (Or.inl ⟨by rfl, by intro w hs; go_simp⟩) hHeld ?_
    refine norm_any' (fun K hK => ?_)
    go_simp
    refine hK _ _ ?_
    clear hK K
    refine wpAnyW_take (i := 9) (v := .int .i64 n) [] rfl (by kernel_rfl) (by kernel_rfl) (by kernel_rfl) (by kernel_rfl) (by kernel_rfl) (fun _ _ _ h => h) (Or.inl ⟨by rfl, by intro w hs; go_simp⟩) hHeld ?_
    refine norm_any' (fun K hK => ?_)
    go_simp
    refine hK _ _ ?_
    clear hK K
    refine wpAnyW_take (i := 10) (v := .int .i64 (9 * u.z * n)) [] rfl (by kernel_rfl) (by kernel_rfl) (by kernel_rfl) (by kernel_rfl) (by kernel_rfl) (fun _ _ _ h => h) (Or.inl ⟨by rfl, by intro w hs; go_simp⟩) hHeld ?_
    refine norm_any' (fun K hK => ?_)
    go_simp
    refine hK _ _ ?_
    clear hK K
    refine wpAnyW_take (i := 11) (v := .pointer (some ⟨b, 0, none⟩)) [] rfl (by kernel_rfl) (by kernel_rfl) (by kernel_rfl) (by kernel_rfl) (by kernel_rfl) (fun _ _ _ h => h) (Or.inl ⟨by rfl, by intro w hs; go_simp⟩) hHeld ?_
    refine norm_any' (fun K hK => ?_)
    go_simp
    refine hK _ _ ?_
    clear hK K
    refine wpAnyW_take (i := 12) (v := .pointer (some ⟨b, 0, none⟩)) [] rfl (by kernel_rfl) (by kernel_rfl) (by kernel_rfl) (by kernel_rfl) (by kernel_rfl) (fun _ _ _ h => h) (Or.inl ⟨by rfl, by intro w hs; go_simp⟩) hHeld ?_
    refine norm_any' (fun K hK => ?_)
    go_simp
    refine hK _ _ ?_
    clear hK K
    refine wpAnyW_take (i := 13) (v := .pointer (some ⟨b, 2, none⟩)) [] rfl (by kernel_rfl) (by kernel_rfl) (by kernel_rfl) (by kernel_rfl) (by kernel_rfl) (fun _ _ _ h => h) (Or.inl ⟨by rfl, by intro w hs; go_simp⟩) hHeld ?_
    refine norm_any' (fun K hK => ?_)
    go_simp
    refine hK _ _ ?_
    clear hK K
    refine wpAnyW_take (i := 14) (v := .int .i64 u.b) [] rfl (by kernel_rfl) (by kernel_rfl) (by kernel_rfl) (by kernel_rfl) (by kernel_rfl) (fun _ _ _ h => h) (Or.inl ⟨by rfl, by rintro w ⟨s0, s1, s2⟩; go_simp⟩) hHeld ?_
    refine norm_any' (fun K hK => ?_)
    go_simp
    refine hK _ _ ?_
    clear hK K
    refine wpAnyW_take (i := 15) (v := .int .i64 (17 * u.b)) [] rfl (by kernel_rfl) (by kernel_rfl) (by kernel_rfl) (by kernel_rfl) (by kernel_rfl) (fun _ _ _ h => h) (Or.inl ⟨by rfl, by intro w hs; go_simp⟩) hHeld ?_
    refine norm_any' (fun K hK => ?_)
    go_simp
    refine hK _ _ ?_
    clear hK K
    refine wpAnyW_take (i := 16) (v := .int .i64 G) [] rfl (by kernel_rfl) (by kernel_rfl) (by kernel_rfl) (by kernel_rfl) (by kernel_rfl) (fun _ _ _ h => h) (Or.inl ⟨by rfl, by intro w hs; go_simp⟩) hHeld ?_
    refine norm_any' (fun K hK => ?_)
    go_simp
    refine hK _ _ ?_
    clear hK K
    refine wpAnyW_take (i := 17) (v := .int .i64 E) [] rfl (by kernel_rfl) (by kernel_rfl) (by kernel_rfl) (by kernel_rfl) (by kernel_rfl) (fun _ _ _ h => h) (Or.inl ⟨by rfl, by intro w hs; go_simp⟩) hHeld ?_
    refine norm_any' (fun K hK => ?_)
    go_simp
    refine hK _ _ ?_
    clear hK K
    refine wpAnyW_take (i := 18) (v := .pointer (some ⟨b, 0, none⟩)) [19] rfl (by kernel_rfl) (by kernel_rfl) (by kernel_rfl) (by kernel_rfl) (by kernel_rfl) (fun _ _ _ h => h) (Or.inl ⟨by rfl, by intro w hs; go_simp⟩) hHeld ?_
    refine norm_any' (fun K hK => ?_)
    go_simp
    refine hK _ _ ?_
    clear hK K
    refine wpAnyW_take (i := 19) (v := .pointer (some ⟨b, 8, none⟩)) [] rfl (by kernel_rfl) (by kernel_rfl) (by kernel_rfl) (by kernel_rfl) (by kernel_rfl) (fun _ _ _ h => h) (Or.inl ⟨by rfl, by intro w hs; go_simp⟩) hHeld ?_
    refine norm_any' (fun K hK => ?_)
    go_simp
    refine hK _ _ ?_
    clear hK K
    refine wpAnyW_last (by kernel_rfl) rfl (by kernel_rfl) (fun K hK => ?_)
    go_simp
    refine hK.out _ _ ?_
    clear hK K hHeld
    clear e1 e2 e8 f8 i4 i5 i6 i7 i8 i9 i10
    generalize (w4.setCell ⟨b, 8, none⟩ (.int .i64 E)).drew = w6 at HR5 HT5 ⊢
    obtain ⟨d0, d1, d2, d3, d4, d5, d6, d7, d8⟩ := HR5.out.cells
    dsimp only at d2 d8
    have e2 : w6.drew.cell? ⟨b, 2, none⟩ = some (.int .i64 u.b) := d2
    have e8 : w6.drew.cell? ⟨b, 8, none⟩ = some (.int .i64 E) := d8
    have hbc := HBC.out w6.drew (HR5.out.below (Below.refl _ w6).drew)
    have HT6 : Aside (Tn b w w6.drew) := HT5.out.trans (Tn.below (Below.refl _ w6).drew)
    clear d0 d1 d2 d3 d4 d5 d6 d7 d8
    go_wp2_with fail
    refine wp_region_w 24 (fun X => X.cell? ⟨b, 2, none⟩ = some (.int .i64 u.b) ∧ X.cell? ⟨b, 8, none⟩ = some (.int .i64 E)) (by kernel_rfl) ⟨e2, e8⟩ (fun hHeld => ?_)
    refine wpAnyW_take (i := 0) (v := .pointer (some ⟨b, 0, none⟩)) [] rfl (by kernel_rfl) (by kernel_rfl) (by kernel_rfl) (by kernel_rfl) (by kernel_rfl) (fun _ _ _ h => h) (Or.inl ⟨by rfl, by intro w hs; go_simp⟩) hHeld ?_
    refine norm_any' (fun K hK => ?_)
    go_simp
    refine hK _ _ ?_
    clear hK K
    refine wpAnyW_take (i := 1) (v := .pointer (some ⟨b, 0, none⟩)) [23, 18, 4, 3, 2] rfl (by kernel_rfl) (by kernel_rfl) (by kernel_rfl) (by kernel_rfl) (by kernel_rfl) (fun _ _ _ h => h) (Or.inl ⟨by rfl, by intro w hs; go_simp⟩) hHeld ?_
    refine norm_any' (fun K hK => ?_)
    go_simp
    refine hK _ _ ?_
    clear hK K
    refine wpAnyW_take (i := 2) (v := .pointer (some ⟨b, 0, none⟩)) [23, 18, 4, 3] rfl (by kernel_rfl) (by kernel_rfl) (by kernel_rfl) (by kernel_rfl) (by kernel_rfl) (fun _ _ _ h => h) (Or.inl ⟨by rfl, by intro w hs; go_simp⟩) hHeld ?_
    refine norm_any' (fun K hK => ?_)
    go_simp
    refine hK _ _ ?_
    clear hK K
    refine wpAnyW_take (i := 3) (v := .pointer (some ⟨b, 2, none⟩)) [23, 18, 4] rfl (by kernel_rfl) (by kernel_rfl) (by kernel_rfl) (by kernel_rfl) (by kernel_rfl) (fun _ _ _ h => h) (Or.inl ⟨by rfl, by intro w hs; go_simp⟩) hHeld ?_
    refine norm_any' (fun K hK => ?_)
    go_simp
    refine hK _ _ ?_
    clear hK K
    refine wpAnyW_take (i := 4) (v := .int .i64 u.b) [23, 18] rfl (by kernel_rfl) (by kernel_rfl) (by kernel_rfl) (by kernel_rfl) (by kernel_rfl) (fun _ _ _ h => h) (Or.inl ⟨by rfl, by rintro w ⟨s0, s1⟩; go_simp⟩) hHeld ?_
    refine norm_any' (fun K hK => ?_)
    go_simp
    refine hK _ _ ?_
    clear hK K
    refine wpAnyW_take (i := 5) (v := .int .i64 T) [23, 18, 17, 12, 10] rfl (by kernel_rfl) (by kernel_rfl) (by kernel_rfl) (by kernel_rfl) (by kernel_rfl) (fun _ _ _ h => h) (Or.inl ⟨by rfl, by intro w hs; go_simp⟩) hHeld ?_
    refine norm_any' (fun K hK => ?_)
    go_simp
    refine hK _ _ ?_
    clear hK K
    refine wpAnyW_take (i := 6) (v := .pointer (some ⟨b, 0, none⟩)) [23, 18, 17, 12, 10, 9, 8, 7] rfl (by kernel_rfl) (by kernel_rfl) (by kernel_rfl) (by kernel_rfl) (by kernel_rfl) (fun _ _ _ h => h) (Or.inl ⟨by rfl, by intro w hs; go_simp⟩) hHeld ?_
    refine norm_any' (fun K hK => ?_)
    go_simp
    refine hK _ _ ?_
    clear hK K
    refine wpAnyW_take (i := 7) (v := .pointer (some ⟨b, 0, none⟩)) [23, 18, 17, 12, 10, 9, 8] rfl (by kernel_rfl) (by kernel_rfl) (by kernel_rfl) (by kernel_rfl) (by kernel_rfl) (fun _ _ _ h => h) (Or.inl ⟨by rfl, by intro w hs; go_simp⟩) hHeld ?_
    refine norm_any' (fun K hK => ?_)
    go_simp
    refine hK _ _ ?_
    clear hK K
    refine wpAnyW_take (i := 8) (v := .pointer (some ⟨b, 2, none⟩)) [23, 18, 17, 12, 10, 9] rfl (by kernel_rfl) (by kernel_rfl) (by kernel_rfl) (by kernel_rfl) (by kernel_rfl) (fun _ _ _ h => h) (Or.inl ⟨by rfl, by intro w hs; go_simp⟩) hHeld ?_
    refine norm_any' (fun K hK => ?_)
    go_simp
    refine hK _ _ ?_
    clear hK K
    refine wpAnyW_take (i := 9) (v := .int .i64 u.b) [23, 18, 17, 12, 10] rfl (by kernel_rfl) (by kernel_rfl) (by kernel_rfl) (by kernel_rfl) (by kernel_rfl) (fun _ _ _ h => h) (Or.inl ⟨by rfl, by rintro w ⟨s0, s1⟩; go_simp⟩) hHeld ?_
    refine norm_any' (fun K hK => ?_)
    go_simp
    refine hK _ _ ?_
    clear hK K
    refine wpAnyW_take (i := 10) (v := .int .i64 (T - u.b)) [23, 18, 17, 12] rfl (by kernel_rfl) (by kernel_rfl) (by kernel_rfl) (by kernel_rfl) (by kernel_rfl) (fun _ _ _ h => h) (Or.inl ⟨by rfl, by intro w hs; go_simp⟩) hHeld ?_
    refine norm_any' (fun K hK => ?_)
    go_simp
    refine hK _ _ ?_
    clear hK K
    refine wpAnyW_take (i := 11) (v := .int .i64 n) [23, 18, 17, 12] rfl (by kernel_rfl) (by kernel_rfl) (by kernel_rfl) (by kernel_rfl) (by kernel_rfl) (fun _ _ _ h => h) (Or.inl ⟨by rfl, by intro w hs; go_simp⟩) hHeld ?_
    refine norm_any' (fun K hK => ?_)
    go_simp
    refine hK _ _ ?_
    clear hK K
    refine wpAnyW_take (i := 12) (v := .int .i64 ((T - u.b) * n)) [23, 18, 17] rfl (by kernel_rfl) (by kernel_rfl) (by kernel_rfl) (by kernel_rfl) (by kernel_rfl) (fun _ _ _ h => h) (Or.inl ⟨by rfl, by intro w hs; go_simp⟩) hHeld ?_
    refine norm_any' (fun K hK => ?_)
    go_simp
    refine hK _ _ ?_
    clear hK K
    refine wpAnyW_take (i := 13) (v := .pointer (some ⟨b, 0, none⟩)) [23, 18, 17, 16, 15, 14] rfl (by kernel_rfl) (by kernel_rfl) (by kernel_rfl) (by kernel_rfl) (by kernel_rfl) (fun _ _ _ h => h) (Or.inl ⟨by rfl, by intro w hs; go_simp⟩) hHeld ?_
    refine norm_any' (fun K hK => ?_)
    go_simp
    refine hK _ _ ?_
    clear hK K
    refine wpAnyW_take (i := 14) (v := .pointer (some ⟨b, 0, none⟩)) [23, 18, 17, 16, 15] rfl (by kernel_rfl) (by kernel_rfl) (by kernel_rfl) (by kernel_rfl) (by kernel_rfl) (fun _ _ _ h => h) (Or.inl ⟨by rfl, by intro w hs; go_simp⟩) hHeld ?_
    refine norm_any' (fun K hK => ?_)
    go_simp
    refine hK _ _ ?_
    clear hK K
    refine wpAnyW_take (i := 15) (v := .pointer (some ⟨b, 2, none⟩)) [23, 18, 17, 16] rfl (by kernel_rfl) (by kernel_rfl) (by kernel_rfl) (by kernel_rfl) (by kernel_rfl) (fun _ _ _ h => h) (Or.inl ⟨by rfl, by intro w hs; go_simp⟩) hHeld ?_
    refine norm_any' (fun K hK => ?_)
    go_simp
    refine hK _ _ ?_
    clear hK K
    refine wpAnyW_take (i := 16) (v := .int .i64 u.b) [23, 18, 17] rfl (by kernel_rfl) (by kernel_rfl) (by kernel_rfl) (by kernel_rfl) (by kernel_rfl) (fun _ _ _ h => h) (Or.inl ⟨by rfl, by rintro w ⟨s0, s1⟩; go_simp⟩) hHeld ?_
    refine norm_any' (fun K hK => ?_)
    go_simp
    refine hK _ _ ?_
    clear hK K
    refine wpAnyW_take (i := 17) (v := .int .i64 H) [23, 18] rfl (by kernel_rfl) (by kernel_rfl) (by kernel_rfl) (by kernel_rfl) (by kernel_rfl) (fun _ _ _ h => h) (Or.inl ⟨by rfl, by intro w hs; go_simp⟩) hHeld ?_
    refine norm_any' (fun K hK => ?_)
    go_simp
    refine hK _ _ ?_
    clear hK K
    refine wpAnyW_take (i := 18) (v := .int .i64 (u.b + H)) [23] rfl (by kernel_rfl) (by kernel_rfl) (by kernel_rfl) (by kernel_rfl) (by kernel_rfl) (fun _ _ _ h => h) (Or.inl ⟨by rfl, by intro w hs; go_simp⟩) hHeld ?_
    refine norm_any' (fun K hK => ?_)
    go_simp
    refine hK _ _ ?_
    clear hK K
    refine wpAnyW_take (i := 19) (v := .pointer (some ⟨b, 0, none⟩)) [23, 22, 21, 20] rfl (by kernel_rfl) (by kernel_rfl) (by kernel_rfl) (by kernel_rfl) (by kernel_rfl) (fun _ _ _ h => h) (Or.inl ⟨by rfl, by intro w hs; go_simp⟩) hHeld ?_
    refine norm_any' (fun K hK => ?_)
    go_simp
    refine hK _ _ ?_
    clear hK K
    refine wpAnyW_take (i := 20) (v := .pointer (some ⟨b, 0, none⟩)) [23, 22, 21] rfl (by kernel_rfl) (by kernel_rfl) (by kernel_rfl) (by kernel_rfl) (by kernel_rfl) (fun _ _ _ h => h) (Or.inl ⟨by rfl, by intro w hs; go_simp⟩) hHeld ?_
    refine norm_any' (fun K hK => ?_)
    go_simp
    refine hK _ _ ?_
    clear hK K
    refine wpAnyW_take (i := 21) (v := .pointer (some ⟨b, 8, none⟩)) [23, 22] rfl (by kernel_rfl) (by kernel_rfl) (by kernel_rfl) (by kernel_rfl) (by kernel_rfl) (fun _ _ _ h => h) (Or.inl ⟨by rfl, by intro w hs; go_simp⟩) hHeld ?_
    refine norm_any' (fun K hK => ?_)
    go_simp
    refine hK _ _ ?_
    clear hK K
    refine wpAnyW_take (i := 22) (v := .int .i64 E) [23] rfl (by kernel_rfl) (by kernel_rfl) (by kernel_rfl) (by kernel_rfl) (by kernel_rfl) (fun _ _ _ h => h) (Or.inl ⟨by rfl, by rintro w ⟨s0, s1⟩; go_simp⟩) hHeld ?_
    refine norm_any' (fun K hK => ?_)
    go_simp
    refine hK _ _ ?_
    clear hK K
    refine wpAnyW_take (i := 23) (v := .int .i64 MX) [] rfl (by kernel_rfl) (by kernel_rfl) (by kernel_rfl) (by kernel_rfl) (by kernel_rfl) (fun _ _ _ h => h) (Or.inl ⟨by rfl, by intro w hs; go_simp⟩) hHeld ?_
    refine norm_any' (fun K hK => ?_)
    go_simp
    refine hK _ _ ?_
    clear hK K
    refine wpAnyW_last (by kernel_rfl) rfl (by kernel_rfl) (fun K hK => ?_)
    go_simp
    refine hbc.mono ?_
    rintro e w7 ⟨rfl, hr7, ht7⟩
    refine hK.out _ _ ?_
    clear hK K hHeld
    have HF : Aside (Rt 45 w7 b R ∧ Tn b w w7) := ⟨hr7, HT6.out.trans ht7⟩
    clear hr7 ht7 hbc
    go_wp2
    go_end0
    exact ⟨rfl, HF.out⟩
  · rw [if_neg q1] at hbg
    subst hbg
    obtain ⟨c0, c1, c2, c3, c4, c5, c6, c7, c8⟩ := h.cells
    have HC : Aside (∀ X : World, Below w.heap.size w X → Rt 45 X b u) := fun X hX => h.below hX
    have HBd : Aside (Below w.heap.size w w.drew) := (Below.refl _ w).drew
    have HT : Aside (Tn b w w) := Tn.refl _ _
    clear ho
    go_enter Try.func24, Try.ntmps24
    go_wp2_with fail
    go_region_held3 (fun w' => w'.cell? ⟨b, 5, none⟩ = some (.int .i64 u.p) ∧ w'.cell? ⟨b, 2, none⟩ = some (.int .i64 u.b)) (first | exact ⟨(Rt.cells (HC.out _ HB4.out)).2.2.2.2.2.1, (Rt.cells (HC.out _ HB4.out)).2.2.1⟩ | exact ⟨c5, c2⟩) (first | (go_at_call 21; have HBB := HB4; refine Calls.mono (HBT.out _) ?_; rintro e w5 ⟨rfl, hw5⟩; subst w5) | (go_at_call 29; refine Calls.mono (HBS.out _ (HC.out _ HBd.out)) ?_; rintro e w4 ⟨rfl, hb4⟩; have HB4 : Aside (Below w.heap.size w w4) := bel_trans HBd.out hb4; clear hb4))
    have HR4 : Aside (Rt 45 w4 b u) := HC.out _ HB4.out
    have HT4 : Aside (Tn b w w4) := Tn.trans HT.out (Tn.below HB4.out)
    obtain ⟨d0, d1, d2, d3, d4, d5, d6, d7, d8⟩ := HR4.out.cells
    have e1 : w4.drew.cell? ⟨b, 1, none⟩ = some (.int .i64 u.z) := d1
    have e2 : w4.drew.cell? ⟨b, 2, none⟩ = some (.int .i64 u.b) := d2
    have e8 : w4.drew.cell? ⟨b, 8, none⟩ = some (.int .i64 u.m) := d8
    have f8 : w4.drew.frozen? ⟨b, 8, none⟩ = false := HR4.out.frozen 8
    have HR5 : Aside (Rt 45 (w4.setCell ⟨b, 8, none⟩ (.int .i64 E)).drew b { u with m := E }) := (HR4.out.set 8 (.int .i64 E) { u with m := E } rfl).below (Below.refl _ _).drew
    have HT5 : Aside (Tn b w (w4.setCell ⟨b, 8, none⟩ (.int .i64 E)).drew) := (HT4.out.trans (Tn.set HR4.out 8 (.int .i64 E))).trans (Tn.below (Below.refl _ _).drew)
    clear c0 c1 c2 c3 c4 c5 c6 c7 c8 d0 d1 d2 d3 d4 d5 d6 d7 d8 i1 i2 i3 p1
    go_wp2_with fail
    refine wp_region_w 20 (fun X => X.cell? ⟨b, 8, none⟩ = some (.int .i64 u.m) ∧ X.cell? ⟨b, 1, none⟩ = some (.int .i64 u.z) ∧ X.cell? ⟨b, 2, none⟩ = some (.int .i64 u.b)) (by kernel_rfl) ⟨e8, e1, e2⟩ (fun hHeld => ?_)
    refine wpAnyW_take (i := 0) (v := .pointer (some ⟨b, 0, none⟩)) [] rfl (by kernel_rfl) (by kernel_rfl) (by kernel_rfl) (by kernel_rfl) (by kernel_rfl) (fun _ _ _ h => h) (Or.inl ⟨by rfl, by intro w hs; go_simp⟩) hHeld ?_
    refine norm_any' (fun K hK => ?_)
    go_simp
    refine hK _ _ ?_
    clear hK K
    refine wpAnyW_take (i := 1) (v := .pointer (some ⟨b, 0, none⟩)) [] rfl (by kernel_rfl) (by kernel_rfl) (by kernel_rfl) (by kernel_rfl) (by kernel_rfl) (fun _ _ _ h => h) (Or.inl ⟨by rfl, by intro w hs; go_simp⟩) hHeld ?_
    refine norm_any' (fun K hK => ?_)
    go_simp
    refine hK _ _ ?_
    clear hK K
    refine wpAnyW_take (i := 2) (v := .pointer (some ⟨b, 8, none⟩)) [] rfl (by kernel_rfl) (by kernel_rfl) (by kernel_rfl) (by kernel_rfl) (by kernel_rfl) (fun _ _ _ h => h) (Or.inl ⟨by rfl, by intro w hs; go_simp⟩) hHeld ?_
    refine norm_any' (fun K hK => ?_)
    go_simp
    refine hK _ _ ?_
    clear hK K
    refine wpAnyW_take (i := 3) (v := .int .i64 u.m) [] rfl (by kernel_rfl) (by kernel_rfl) (by kernel_rfl) (by kernel_rfl) (by kernel_rfl) (fun _ _ _ h => h) (Or.inl ⟨by rfl, by rintro w ⟨s0, s1, s2⟩; go_simp⟩) hHeld ?_
    refine norm_any' (fun K hK => ?_)
    go_simp
    refine hK _ _ ?_
    clear hK K
    refine wpAnyW_take (i := 4) (v := .pointer (some ⟨b, 0, none⟩)) [] rfl (by kernel_rfl) (by kernel_rfl) (by kernel_rfl) (by kernel_rfl) (by kernel_rfl) (fun _ _ _ h => h) (Or.inl ⟨by rfl, by intro w hs; go_simp⟩) hHeld ?_
    refine norm_any' (fun K hK => ?_)
    go_simp
    refine hK _ _ ?_
    clear hK K
    refine wpAnyW_take (i := 5) (v := .pointer (some ⟨b, 0, none⟩)) [] rfl (by kernel_rfl) (by kernel_rfl) (by kernel_rfl) (by kernel_rfl) (by kernel_rfl) (fun _ _ _ h => h) (Or.inl ⟨by rfl, by intro w hs; go_simp⟩) hHeld ?_
    refine norm_any' (fun K hK => ?_)
    go_simp
    refine hK _ _ ?_
    clear hK K
    refine wpAnyW_take (i := 6) (v := .pointer (some ⟨b, 1, none⟩)) [] rfl (by kernel_rfl) (by kernel_rfl) (by kernel_rfl) (by kernel_rfl) (by kernel_rfl) (fun _ _ _ h => h) (Or.inl ⟨by rfl, by intro w hs; go_simp⟩) hHeld ?_
    refine norm_any' (fun K hK => ?_)
    go_simp
    refine hK _ _ ?_
    clear hK K
    refine wpAnyW_take (i := 7) (v := .int .i64 u.z) [] rfl (by kernel_rfl) (by kernel_rfl) (by kernel_rfl) (by kernel_rfl) (by kernel_rfl) (fun _ _ _ h => h) (Or.inl ⟨by rfl, by rintro w ⟨s0, s1, s2⟩; go_simp⟩) hHeld ?_
    refine norm_any' (fun K hK => ?_)
    go_simp
    refine hK _ _ ?_
    clear hK K
    refine wpAnyW_take (i := 8) (v := .int .i64 (9 * u.z)) [] rfl (by kernel_rfl) (by kernel_rfl) (by kernel_rfl) (by kernel_rfl) (by kernel_rfl) (fun _ _ _ h => h) (Or.inl ⟨by rfl, by intro w hs; go_simp⟩) hHeld ?_
    refine norm_any' (fun K hK => ?_)
    go_simp
    refine hK _ _ ?_
    clear hK K
    refine wpAnyW_take (i := 9) (v := .int .i64 n) [] rfl (by kernel_rfl) (by kernel_rfl) (by kernel_rfl) (by kernel_rfl) (by kernel_rfl) (fun _ _ _ h => h) (Or.inl ⟨by rfl, by intro w hs; go_simp⟩) hHeld ?_
    refine norm_any' (fun K hK => ?_)
    go_simp
    refine hK _ _ ?_
    clear hK K
    refine wpAnyW_take (i := 10) (v := .int .i64 (9 * u.z * n)) [] rfl (by kernel_rfl) (by kernel_rfl) (by kernel_rfl) (by kernel_rfl) (by kernel_rfl) (fun _ _ _ h => h) (Or.inl ⟨by rfl, by intro w hs; go_simp⟩) hHeld ?_
    refine norm_any' (fun K hK => ?_)
    go_simp
    refine hK _ _ ?_
    clear hK K
    refine wpAnyW_take (i := 11) (v := .pointer (some ⟨b, 0, none⟩)) [] rfl (by kernel_rfl) (by kernel_rfl) (by kernel_rfl) (by kernel_rfl) (by kernel_rfl) (fun _ _ _ h => h) (Or.inl ⟨by rfl, by intro w hs; go_simp⟩) hHeld ?_
    refine norm_any' (fun K hK => ?_)
    go_simp
    refine hK _ _ ?_
    clear hK K
    refine wpAnyW_take (i := 12) (v := .pointer (some ⟨b, 0, none⟩)) [] rfl (by kernel_rfl) (by kernel_rfl) (by kernel_rfl) (by kernel_rfl) (by kernel_rfl) (fun _ _ _ h => h) (Or.inl ⟨by rfl, by intro w hs; go_simp⟩) hHeld ?_
    refine norm_any' (fun K hK => ?_)
    go_simp
    refine hK _ _ ?_
    clear hK K
    refine wpAnyW_take (i := 13) (v := .pointer (some ⟨b, 2, none⟩)) [] rfl (by kernel_rfl) (by kernel_rfl) (by kernel_rfl) (by kernel_rfl) (by kernel_rfl) (fun _ _ _ h => h) (Or.inl ⟨by rfl, by intro w hs; go_simp⟩) hHeld ?_
    refine norm_any' (fun K hK => ?_)
    go_simp
    refine hK _ _ ?_
    clear hK K
    refine wpAnyW_take (i := 14) (v := .int .i64 u.b) [] rfl (by kernel_rfl) (by kernel_rfl) (by kernel_rfl) (by kernel_rfl) (by kernel_rfl) (fun _ _ _ h => h) (Or.inl ⟨by rfl, by rintro w ⟨s0, s1, s2⟩; go_simp⟩) hHeld ?_
    refine norm_any' (fun K hK => ?_)
    go_simp
    refine hK _ _ ?_
    clear hK K
    refine wpAnyW_take (i := 15) (v := .int .i64 (17 * u.b)) [] rfl (by kernel_rfl) (by kernel_rfl) (by kernel_rfl) (by kernel_rfl) (by kernel_rfl) (fun _ _ _ h => h) (Or.inl ⟨by rfl, by intro w hs; go_simp⟩) hHeld ?_
    refine norm_any' (fun K hK => ?_)
    go_simp
    refine hK _ _ ?_
    clear hK K
    refine wpAnyW_take (i := 16) (v := .int .i64 G) [] rfl (by kernel_rfl) (by kernel_rfl) (by kernel_rfl) (by kernel_rfl) (by kernel_rfl) (fun _ _ _ h => h) (Or.inl ⟨by rfl, by intro w hs; go_simp⟩) hHeld ?_
    refine norm_any' (fun K hK => ?_)
    go_simp
    refine hK _ _ ?_
    clear hK K
    refine wpAnyW_take (i := 17) (v := .int .i64 E) [] rfl (by kernel_rfl) (by kernel_rfl) (by kernel_rfl) (by kernel_rfl) (by kernel_rfl) (fun _ _ _ h => h) (Or.inl ⟨by rfl, by intro w hs; go_simp⟩) hHeld ?_
    refine norm_any' (fun K hK => ?_)
    go_simp
    refine hK _ _ ?_
    clear hK K
    refine wpAnyW_take (i := 18) (v := .pointer (some ⟨b, 0, none⟩)) [19] rfl (by kernel_rfl) (by kernel_rfl) (by kernel_rfl) (by kernel_rfl) (by kernel_rfl) (fun _ _ _ h => h) (Or.inl ⟨by rfl, by intro w hs; go_simp⟩) hHeld ?_
    refine norm_any' (fun K hK => ?_)
    go_simp
    refine hK _ _ ?_
    clear hK K
    refine wpAnyW_take (i := 19) (v := .pointer (some ⟨b, 8, none⟩)) [] rfl (by kernel_rfl) (by kernel_rfl) (by kernel_rfl) (by kernel_rfl) (by kernel_rfl) (fun _ _ _ h => h) (Or.inl ⟨by rfl, by intro w hs; go_simp⟩) hHeld ?_
    refine norm_any' (fun K hK => ?_)
    go_simp
    refine hK _ _ ?_
    clear hK K
    refine wpAnyW_last (by kernel_rfl) rfl (by kernel_rfl) (fun K hK => ?_)
    go_simp
    refine hK.out _ _ ?_
    clear hK K hHeld
    clear e1 e2 e8 f8 i4 i5 i6 i7 i8 i9 i10
    generalize (w4.setCell ⟨b, 8, none⟩ (.int .i64 E)).drew = w6 at HR5 HT5 ⊢
    obtain ⟨d0, d1, d2, d3, d4, d5, d6, d7, d8⟩ := HR5.out.cells
    dsimp only at d2 d8
    have e2 : w6.drew.cell? ⟨b, 2, none⟩ = some (.int .i64 u.b) := d2
    have e8 : w6.drew.cell? ⟨b, 8, none⟩ = some (.int .i64 E) := d8
    have hbc := HBC.out w6.drew (HR5.out.below (Below.refl _ w6).drew)
    have HT6 : Aside (Tn b w w6.drew) := HT5.out.trans (Tn.below (Below.refl _ w6).drew)
    clear d0 d1 d2 d3 d4 d5 d6 d7 d8
    go_wp2_with fail
    refine wp_region_w 24 (fun X => X.cell? ⟨b, 2, none⟩ = some (.int .i64 u.b) ∧ X.cell? ⟨b, 8, none⟩ = some (.int .i64 E)) (by kernel_rfl) ⟨e2, e8⟩ (fun hHeld => ?_)
    refine wpAnyW_take (i := 0) (v := .pointer (some ⟨b, 0, none⟩)) [] rfl (by kernel_rfl) (by kernel_rfl) (by kernel_rfl) (by kernel_rfl) (by kernel_rfl) (fun _ _ _ h => h) (Or.inl ⟨by rfl, by intro w hs; go_simp⟩) hHeld ?_
    refine norm_any' (fun K hK => ?_)
    go_simp
    refine hK _ _ ?_
    clear hK K
    refine wpAnyW_take (i := 1) (v := .pointer (some ⟨b, 0, none⟩)) [23, 18, 4, 3, 2] rfl (by kernel_rfl) (by kernel_rfl) (by kernel_rfl) (by kernel_rfl) (by kernel_rfl) (fun _ _ _ h => h) (Or.inl ⟨by rfl, by intro w hs; go_simp⟩) hHeld ?_
    refine norm_any' (fun K hK => ?_)
    go_simp
    refine hK _ _ ?_
    clear hK K
    refine wpAnyW_take (i := 2) (v := .pointer (some ⟨b, 0, none⟩)) [23, 18, 4, 3] rfl (by kernel_rfl) (by kernel_rfl) (by kernel_rfl) (by kernel_rfl) (by kernel_rfl) (fun _ _ _ h => h) (Or.inl ⟨by rfl, by intro w hs; go_simp⟩) hHeld ?_
    refine norm_any' (fun K hK => ?_)
    go_simp
    refine hK _ _ ?_
    clear hK K
    refine wpAnyW_take (i := 3) (v := .pointer (some ⟨b, 2, none⟩)) [23, 18, 4] rfl (by kernel_rfl) (by kernel_rfl) (by kernel_rfl) (by kernel_rfl) (by kernel_rfl) (fun _ _ _ h => h) (Or.inl ⟨by rfl, by intro w hs; go_simp⟩) hHeld ?_
    refine norm_any' (fun K hK => ?_)
    go_simp
    refine hK _ _ ?_
    clear hK K
    refine wpAnyW_take (i := 4) (v := .int .i64 u.b) [23, 18] rfl (by kernel_rfl) (by kernel_rfl) (by kernel_rfl) (by kernel_rfl) (by kernel_rfl) (fun _ _ _ h => h) (Or.inl ⟨by rfl, by rintro w ⟨s0, s1⟩; go_simp⟩) hHeld ?_
    refine norm_any' (fun K hK => ?_)
    go_simp
    refine hK _ _ ?_
    clear hK K
    refine wpAnyW_take (i := 5) (v := .int .i64 T) [23, 18, 17, 12, 10] rfl (by kernel_rfl) (by kernel_rfl) (by kernel_rfl) (by kernel_rfl) (by kernel_rfl) (fun _ _ _ h => h) (Or.inl ⟨by rfl, by intro w hs; go_simp⟩) hHeld ?_
    refine norm_any' (fun K hK => ?_)
    go_simp
    refine hK _ _ ?_
    clear hK K
    refine wpAnyW_take (i := 6) (v := .pointer (some ⟨b, 0, none⟩)) [23, 18, 17, 12, 10, 9, 8, 7] rfl (by kernel_rfl) (by kernel_rfl) (by kernel_rfl) (by kernel_rfl) (by kernel_rfl) (fun _ _ _ h => h) (Or.inl ⟨by rfl, by intro w hs; go_simp⟩) hHeld ?_
    refine norm_any' (fun K hK => ?_)
    go_simp
    refine hK _ _ ?_
    clear hK K
    refine wpAnyW_take (i := 7) (v := .pointer (some ⟨b, 0, none⟩)) [23, 18, 17, 12, 10, 9, 8] rfl (by kernel_rfl) (by kernel_rfl) (by kernel_rfl) (by kernel_rfl) (by kernel_rfl) (fun _ _ _ h => h) (Or.inl ⟨by rfl, by intro w hs; go_simp⟩) hHeld ?_
    refine norm_any' (fun K hK => ?_)
    go_simp
    refine hK _ _ ?_
    clear hK K
    refine wpAnyW_take (i := 8) (v := .pointer (some ⟨b, 2, none⟩)) [23, 18, 17, 12, 10, 9] rfl (by kernel_rfl) (by kernel_rfl) (by kernel_rfl) (by kernel_rfl) (by kernel_rfl) (fun _ _ _ h => h) (Or.inl ⟨by rfl, by intro w hs; go_simp⟩) hHeld ?_
    refine norm_any' (fun K hK => ?_)
    go_simp
    refine hK _ _ ?_
    clear hK K
    refine wpAnyW_take (i := 9) (v := .int .i64 u.b) [23, 18, 17, 12, 10] rfl (by kernel_rfl) (by kernel_rfl) (by kernel_rfl) (by kernel_rfl) (by kernel_rfl) (fun _ _ _ h => h) (Or.inl ⟨by rfl, by rintro w ⟨s0, s1⟩; go_simp⟩) hHeld ?_
    refine norm_any' (fun K hK => ?_)
    go_simp
    refine hK _ _ ?_
    clear hK K
    refine wpAnyW_take (i := 10) (v := .int .i64 (T - u.b)) [23, 18, 17, 12] rfl (by kernel_rfl) (by kernel_rfl) (by kernel_rfl) (by kernel_rfl) (by kernel_rfl) (fun _ _ _ h => h) (Or.inl ⟨by rfl, by intro w hs; go_simp⟩) hHeld ?_
    refine norm_any' (fun K hK => ?_)
    go_simp
    refine hK _ _ ?_
    clear hK K
    refine wpAnyW_take (i := 11) (v := .int .i64 n) [23, 18, 17, 12] rfl (by kernel_rfl) (by kernel_rfl) (by kernel_rfl) (by kernel_rfl) (by kernel_rfl) (fun _ _ _ h => h) (Or.inl ⟨by rfl, by intro w hs; go_simp⟩) hHeld ?_
    refine norm_any' (fun K hK => ?_)
    go_simp
    refine hK _ _ ?_
    clear hK K
    refine wpAnyW_take (i := 12) (v := .int .i64 ((T - u.b) * n)) [23, 18, 17] rfl (by kernel_rfl) (by kernel_rfl) (by kernel_rfl) (by kernel_rfl) (by kernel_rfl) (fun _ _ _ h => h) (Or.inl ⟨by rfl, by intro w hs; go_simp⟩) hHeld ?_
    refine norm_any' (fun K hK => ?_)
    go_simp
    refine hK _ _ ?_
    clear hK K
    refine wpAnyW_take (i := 13) (v := .pointer (some ⟨b, 0, none⟩)) [23, 18, 17, 16, 15, 14] rfl (by kernel_rfl) (by kernel_rfl) (by kernel_rfl) (by kernel_rfl) (by kernel_rfl) (fun _ _ _ h => h) (Or.inl ⟨by rfl, by intro w hs; go_simp⟩) hHeld ?_
    refine norm_any' (fun K hK => ?_)
    go_simp
    refine hK _ _ ?_
    clear hK K
    refine wpAnyW_take (i := 14) (v := .pointer (some ⟨b, 0, none⟩)) [23, 18, 17, 16, 15] rfl (by kernel_rfl) (by kernel_rfl) (by kernel_rfl) (by kernel_rfl) (by kernel_rfl) (fun _ _ _ h => h) (Or.inl ⟨by rfl, by intro w hs; go_simp⟩) hHeld ?_
    refine norm_any' (fun K hK => ?_)
    go_simp
    refine hK _ _ ?_
    clear hK K
    refine wpAnyW_take (i := 15) (v := .pointer (some ⟨b, 2, none⟩)) [23, 18, 17, 16] rfl (by kernel_rfl) (by kernel_rfl) (by kernel_rfl) (by kernel_rfl) (by kernel_rfl) (fun _ _ _ h => h) (Or.inl ⟨by rfl, by intro w hs; go_simp⟩) hHeld ?_
    refine norm_any' (fun K hK => ?_)
    go_simp
    refine hK _ _ ?_
    clear hK K
    refine wpAnyW_take (i := 16) (v := .int .i64 u.b) [23, 18, 17] rfl (by kernel_rfl) (by kernel_rfl) (by kernel_rfl) (by kernel_rfl) (by kernel_rfl) (fun _ _ _ h => h) (Or.inl ⟨by rfl, by rintro w ⟨s0, s1⟩; go_simp⟩) hHeld ?_
    refine norm_any' (fun K hK => ?_)
    go_simp
    refine hK _ _ ?_
    clear hK K
    refine wpAnyW_take (i := 17) (v := .int .i64 H) [23, 18] rfl (by kernel_rfl) (by kernel_rfl) (by kernel_rfl) (by kernel_rfl) (by kernel_rfl) (fun _ _ _ h => h) (Or.inl ⟨by rfl, by intro w hs; go_simp⟩) hHeld ?_
    refine norm_any' (fun K hK => ?_)
    go_simp
    refine hK _ _ ?_
    clear hK K
    refine wpAnyW_take (i := 18) (v := .int .i64 (u.b + H)) [23] rfl (by kernel_rfl) (by kernel_rfl) (by kernel_rfl) (by kernel_rfl) (by kernel_rfl) (fun _ _ _ h => h) (Or.inl ⟨by rfl, by intro w hs; go_simp⟩) hHeld ?_
    refine norm_any' (fun K hK => ?_)
    go_simp
    refine hK _ _ ?_
    clear hK K
    refine wpAnyW_take (i := 19) (v := .pointer (some ⟨b, 0, none⟩)) [23, 22, 21, 20] rfl (by kernel_rfl) (by kernel_rfl) (by kernel_rfl) (by kernel_rfl) (by kernel_rfl) (fun _ _ _ h => h) (Or.inl ⟨by rfl, by intro w hs; go_simp⟩) hHeld ?_
    refine norm_any' (fun K hK => ?_)
    go_simp
    refine hK _ _ ?_
    clear hK K
    refine wpAnyW_take (i := 20) (v := .pointer (some ⟨b, 0, none⟩)) [23, 22, 21] rfl (by kernel_rfl) (by kernel_rfl) (by kernel_rfl) (by kernel_rfl) (by kernel_rfl) (fun _ _ _ h => h) (Or.inl ⟨by rfl, by intro w hs; go_simp⟩) hHeld ?_
    refine norm_any' (fun K hK => ?_)
    go_simp
    refine hK _ _ ?_
    clear hK K
    refine wpAnyW_take (i := 21) (v := .pointer (some ⟨b, 8, none⟩)) [23, 22] rfl (by kernel_rfl) (by kernel_rfl) (by kernel_rfl) (by kernel_rfl) (by kernel_rfl) (fun _ _ _ h => h) (Or.inl ⟨by rfl, by intro w hs; go_simp⟩) hHeld ?_
    refine norm_any' (fun K hK => ?_)
    go_simp
    refine hK _ _ ?_
    clear hK K
    refine wpAnyW_take (i := 22) (v := .int .i64 E) [23] rfl (by kernel_rfl) (by kernel_rfl) (by kernel_rfl) (by kernel_rfl) (by kernel_rfl) (fun _ _ _ h => h) (Or.inl ⟨by rfl, by rintro w ⟨s0, s1⟩; go_simp⟩) hHeld ?_
    refine norm_any' (fun K hK => ?_)
    go_simp
    refine hK _ _ ?_
    clear hK K
    refine wpAnyW_take (i := 23) (v := .int .i64 MX) [] rfl (by kernel_rfl) (by kernel_rfl) (by kernel_rfl) (by kernel_rfl) (by kernel_rfl) (fun _ _ _ h => h) (Or.inl ⟨by rfl, by intro w hs; go_simp⟩) hHeld ?_
    refine norm_any' (fun K hK => ?_)
    go_simp
    refine hK _ _ ?_
    clear hK K
    refine wpAnyW_last (by kernel_rfl) rfl (by kernel_rfl) (fun K hK => ?_)
    go_simp
    refine hbc.mono ?_
    rintro e w7 ⟨rfl, hr7, ht7⟩
    refine hK.out _ _ ?_
    clear hK K hHeld
    have HF : Aside (Rt 45 w7 b R ∧ Tn b w w7) := ⟨hr7, HT6.out.trans ht7⟩
    clear hr7 ht7 hbc
    go_wp2
    go_end0
    exact ⟨rfl, HF.out⟩
end Go.Proofs.Ytphkgijimbkgeaa
