/- FlowThrough: the walk. -/
import Derived.Test.YtdfpfecjlpgfaaaBl
import Derived.Test.YtdfpfecjlpgfaaaWt
namespace Go.Proofs.Ytdfpfecjlpgfaaa
open Go.RowKit
set_option linter.unusedVariables false

theorem andk (k : Nat) (M : Int) (hM : (BitVec.ofInt 64 M).toNat = 2 ^ k - 1) (hk : k ≤ 62) (n : Int) : bits .and .i64 n M = n % ((2 ^ k : Nat) : Int) := by
  have key : (BitVec.ofInt 64 n &&& BitVec.ofInt 64 M).toNat = (n % ((2 ^ 64 : Nat) : Int)).toNat % 2 ^ k := by
    rw [BitVec.toNat_and, BitVec.toNat_ofInt, hM, Nat.and_two_pow_sub_one_eq_mod]
  show IntKind.i64.wrap ((BitVec.ofInt 64 n &&& BitVec.ofInt 64 M).toNat : Nat) = _
  rw [key]
  have h62 : 2 ^ k ≤ 2 ^ 62 := Nat.pow_le_pow_right (by omega) hk
  have hd : (2 ^ k : Nat) ∣ 2 ^ 64 := Nat.pow_dvd_pow 2 (by omega)
  have hp : 0 < 2 ^ k := Nat.pow_pos (by omega)
  generalize 2 ^ k = K at *
  have e : (((n % ((2 ^ 64 : Nat) : Int)).toNat % K : Nat) : Int) = n % (K : Int) := by
    rw [Int.natCast_emod, Int.toNat_of_nonneg (by omega)]
    exact Int.emod_emod_of_dvd n (Int.natCast_dvd_natCast.2 hd)
  rw [e, IntKind.wrap_i64]
  have h1 := Int.emod_nonneg n (show (K : Int) ≠ 0 by omega)
  have h2 := Int.emod_lt_of_pos n (show (0 : Int) < K by omega)
  omega
theorem and6 (n : Int) : bits .and .i64 n 63 = n % 64 := andk 6 63 (by decide) (by omega) n
theorem and12 (n : Int) : bits .and .i64 n 4095 = n % 4096 := andk 12 4095 (by decide) (by omega) n
/-- A Give and a Get of one's own, and nothing older turned. -/
structure Th (w : World) (s r : Nat) (v : Gv) (t : Tv) (W : World) : Prop where
  p : Rt 53 v.p W s
  q : Rt 56 t.p W r
  vo : v.ok
  uo : t.ok
  ne : s ≠ r
  s0 : w.heap.size ≤ s
  r0 : w.heap.size ≤ r
  b : Below w.heap.size w W
section
variable {w : World} {s r : Nat} {v v' : Gv} {t t' : Tv} {W W' : World}
theorem Th.bl (h : Th w s r v t W) (hb : Below W.heap.size W W') : Th w s r v t W' := ⟨h.p.below hb, h.q.below hb, h.vo, h.uo, h.ne, h.s0, h.r0, h.b.trans (hb.mono h.b.size)⟩
theorem Th.tl (h : Th w s r v t W) (ht : Tn s W W') (hr : Rt 53 v'.p W' s) (ho : v'.ok) : Th w s r v' t W' := ⟨hr, ht.rt h.q (fun e => h.ne e.symm), ho, h.uo, h.ne, h.s0, h.r0, h.b.trans (ht.toBelow h.b.size h.s0)⟩
theorem Th.tr (h : Th w s r v t W) (ht : Tn r W W') (hr : Rt 56 t'.p W' r) (ho : t'.ok) : Th w s r v t' W' := ⟨ht.rt h.p h.ne, hr, h.vo, ho, h.ne, h.s0, h.r0, h.b.trans (ht.toBelow h.b.size h.r0)⟩
theorem Th.left (h : Th w s r v t W) : Calls Try.prog 17 #[.pointer (some ⟨s, 0, none⟩)] W fun e w' => e = .returned (.tuple #[.int .i64 (IntKind.i64.wrap (v.l - v.s)), .int .i64 v.l]) ∧ Th w s r v t w' :=
  (left_c s v W h.p).mono (by rintro e w' ⟨rfl, rfl⟩; exact ⟨rfl, h.bl (Below.refl _ _).drew⟩)
theorem Th.told (h : Th w s r v t W) : Calls Try.prog 26 #[.pointer (some ⟨r, 0, none⟩)] W fun e w' => e = .returned (.tuple #[.int .i64 t.c, .int .i64 t.u, .int .i64 t.l]) ∧ Th w s r v t w' :=
  (told_c r t W h.q).mono (by rintro e w' ⟨rfl, rfl⟩; exact ⟨rfl, h.bl (Below.refl _ _).drew⟩)
theorem Th.raise (h : Th w s r v t W) (n : Int) : Calls Try.prog 11 #[.pointer (some ⟨s, 0, none⟩), .int .i64 n] W fun e w' => e = .returned (.int .i64 (v.rai n).1) ∧ Th w s r (v.rai n).2 t w' :=
  (raise_c s v n W h.p h.vo).mono (by rintro e w' ⟨rfl, hr, ht⟩; exact ⟨rfl, h.tl ht hr (v.rai_ok n h.vo)⟩)
theorem Th.spend (h : Th w s r v t W) (n : Int) : Calls Try.prog 13 #[.pointer (some ⟨s, 0, none⟩), .int .i64 n] W fun e w' => e = .returned (.int .i64 (v.spe n).1) ∧ Th w s r (v.spe n).2 t w' :=
  (spend_c s v n W h.p).mono (by rintro e w' ⟨rfl, hr, ht⟩; exact ⟨rfl, h.tl ht hr (v.spe_ok n h.vo)⟩)
theorem Th.take (h : Th w s r v t W) (n : Int) : Calls Try.prog 20 #[.pointer (some ⟨r, 0, none⟩), .int .i64 n] W fun e w' => e = .returned (.int .i64 (t.tak n).1) ∧ Th w s r v (t.tak n).2 w' :=
  (take_c r t n W h.q).mono (by rintro e w' ⟨rfl, hr, ht⟩; exact ⟨rfl, h.tr ht hr (t.tak_ok n h.uo)⟩)
theorem Th.used (h : Th w s r v t W) (n : Int) : Calls Try.prog 22 #[.pointer (some ⟨r, 0, none⟩), .int .i64 n] W fun e w' => e = .returned (.int .i64 (t.use n).1) ∧ Th w s r v (t.use n).2 w' :=
  (used_c r t n W h.q).mono (by rintro e w' ⟨rfl, hr, ht⟩; exact ⟨rfl, h.tr ht hr (t.use_ok n h.uo)⟩)
theorem Th.update (h : Th w s r v t W) : Calls Try.prog 24 #[.pointer (some ⟨r, 0, none⟩)] W fun e w' => e = .returned (.tuple #[.int .i64 t.upd.1, .bool t.upd.2.1]) ∧ Th w s r v t.upd.2.2 w' :=
  (update_c r t W h.q h.uo).mono (by rintro e w' ⟨rfl, hr, ht⟩; exact ⟨rfl, h.tr ht hr (t.upd_ok h.uo)⟩)
end
theorem hi_tak {w c u l n : Int} (hw : IntKind.i64.wrap (l - c) = l - c) (h0 : 0 ≤ n) (h : l - c < n) : (Tv.mk w c u l).tak n = (30, ⟨w, c, u, l⟩) := by
  unfold Tv.tak
  rw [if_neg (by omega)]
  simp only
  rw [hw, if_pos h]
theorem lo_tak {w c u l n : Int} (hw : IntKind.i64.wrap (l - c) = l - c) (hw2 : IntKind.i64.wrap (c + n) = c + n) (h0 : 0 ≤ n) (h : n ≤ l - c) : (Tv.mk w c u l).tak n = (0, ⟨w, c + n, u, l⟩) := by
  unfold Tv.tak
  rw [if_neg (by omega)]
  simp only
  rw [hw, if_neg (by omega), hw2]
theorem lo_use {w c u l n : Int} (hw : IntKind.i64.wrap (c - u) = c - u) (hw2 : IntKind.i64.wrap (u + n) = u + n) (h0 : 0 ≤ n) (h : n ≤ c - u) : (Tv.mk w c u l).use n = (0, ⟨w, c, u + n, l⟩) := by
  unfold Tv.use
  simp only
  rw [hw, if_neg (by omega), hw2]
theorem y_upd {w c u l : Int} (hw : IntKind.i64.wrap (u + w) = u + w) (hw2 : IntKind.i64.wrap (u + w - l) = u + w - l) (h0 : 0 < w) (h : (w + 1) / 2 ≤ u + w - l) : (Tv.mk w c u l).upd = (u + w, true, ⟨w, c, u, u + w⟩) := by
  unfold Tv.upd Tv.wo Tv.nx
  simp only
  rw [hw, hw2, decide_eq_true h0, decide_eq_true h]
  rfl
theorem n_upd {w c u l : Int} (hw : IntKind.i64.wrap (u + w) = u + w) (hw2 : IntKind.i64.wrap (u + w - l) = u + w - l) (h : ¬ (w + 1) / 2 ≤ u + w - l) : (Tv.mk w c u l).upd = (0, false, ⟨w, c, u, l⟩) := by
  unfold Tv.upd Tv.wo Tv.nx
  simp only
  rw [hw, hw2, decide_eq_false h, Bool.and_false]
  rfl
theorem up_rai' {l s d x : Int} (h0 : 0 ≤ l) (h : l < x) (hx : x < 100000) : (Gv.mk l s d).rai x = (0, ⟨x, s, d⟩) := by
  unfold Gv.rai
  rw [if_neg (by omega), if_pos (show l < x from h)]
/-- Where both stand: at step i of n, T are to be sent, D was told, W wait, S are sent, U are used. -/
structure Fl (n : Nat) (B w : Int) (i : Nat) (T D W S U : Int) : Prop where
  b1 : B ≤ 4095
  w1 : 1 ≤ w
  w2 : w ≤ 256
  t0 : 0 ≤ T
  st : S + T = B
  w0 : 0 ≤ W
  uw : U + W = S
  u0 : 0 ≤ U
  sd : S ≤ D
  du : D ≤ U + w
  pr : i ≤ n ∨ (W = 0 ∧ S < D ∧ T + (i : Int) ≤ B + (n : Int) + 1)
theorem Fl.next {n : Nat} {B w : Int} {i : Nat} {T D W S U : Int} (h : Fl n B w i T D W S U) {m k D' : Int} (m0 : 0 ≤ m) (m1 : m ≤ D - S) (m2 : m ≤ T) (k0 : 0 ≤ k) (k1 : k ≤ W + m)
    (hf : ¬ i < n → m = min (D - S) T ∧ k = W + m) (hgo : 0 < T ∨ 0 < W) (hD : (D' = U + k + w ∧ (w + 1) / 2 ≤ U + k + w - D) ∨ (D' = D ∧ ¬ (w + 1) / 2 ≤ U + k + w - D)) :
    Fl n B w (i + 1) (T - m) D' (W + m - k) (S + m) (U + k) := by
  obtain ⟨b1, w1, w2, t0, st, w0, uw, u0, sd, du, pr⟩ := h
  refine ⟨b1, w1, w2, by omega, by omega, by omega, by omega, by omega, by omega, by omega, ?_⟩
  by_cases hi : i < n
  · exact .inl hi
  · obtain ⟨f1, f2⟩ := hf hi
    right
    refine ⟨by omega, by omega, ?_⟩
    rcases pr with pr | ⟨p1, p2, p3⟩
    · have : (i : Int) ≤ n := by omega
      omega
    · have : 1 ≤ m := by omega
      omega

/-- What the calls of a round answer. -/
structure Fa (w T D W S U m k : Int) : Prop where
  e1 : (Gv.mk D S (-1)).spe m = (0, ⟨D, S + m, -1⟩)
  e2 : (Tv.mk w S U D).tak m = (0, ⟨w, S + m, U, D⟩)
  e3 : (Tv.mk w (S + m) U D).tak (D + 1) = (30, ⟨w, S + m, U, D⟩)
  e4 : (Tv.mk w (S + m) U D).use k = (0, ⟨w, S + m, U + k, D⟩)
  j3 : IntKind.i64.wrap (D + 1) = D + 1
  j4 : IntKind.i64.wrap (T - m) = T - m
  j7 : IntKind.i64.wrap (W + m - k) = W + m - k
  i8 : IntKind.i64.wrap (W + m) = W + m
  l1 : ¬ S + m < U + k
  eu : (w + 1) / 2 ≤ U + k + w - D → (Tv.mk w (S + m) (U + k) D).upd = (U + k + w, true, ⟨w, S + m, U + k, U + k + w⟩) ∧ ¬ U + k + w ≤ D ∧ (Gv.mk D (S + m) (-1)).rai (U + k + w) = (0, ⟨U + k + w, S + m, -1⟩)
  en : ¬ (w + 1) / 2 ≤ U + k + w - D → (Tv.mk w (S + m) (U + k) D).upd = (0, false, ⟨w, S + m, U + k, D⟩)
  ef : ∀ D', ((D' = U + k + w ∧ (w + 1) / 2 ≤ U + k + w - D) ∨ (D' = D ∧ ¬ (w + 1) / 2 ≤ U + k + w - D)) → IntKind.i64.wrap (T - m + D') = T - m + D' ∧ IntKind.i64.wrap (T - m + D' + 1) = T - m + D' + 1 ∧ ¬ D' < S + m ∧ (Gv.mk D' (S + m) (-1)).spe (T - m + D' + 1) = (30, ⟨D', S + m, -1⟩)
theorem Fl.fa {n : Nat} {B w : Int} {i : Nat} {T D W S U : Int} (h : Fl n B w i T D W S U) {m k : Int} (m0 : 0 ≤ m) (m1 : m ≤ D - S) (m2 : m ≤ T) (k0 : 0 ≤ k) (k1 : k ≤ W + m) : Fa w T D W S U m k := by
  obtain ⟨b1, w1, w2, t0, st, w0, uw, u0, sd, du, pr⟩ := h
  clear pr
  have a1 : IntKind.i64.wrap (D - S) = D - S := wrp _ (by omega) (by omega)
  have j1 : IntKind.i64.wrap (S + m) = S + m := wrp _ (by omega) (by omega)
  have j2 : IntKind.i64.wrap (D - (S + m)) = D - (S + m) := wrp _ (by omega) (by omega)
  have j5 : IntKind.i64.wrap (S + m - U) = S + m - U := wrp _ (by omega) (by omega)
  have j6 : IntKind.i64.wrap (U + k) = U + k := wrp _ (by omega) (by omega)
  have j8 : IntKind.i64.wrap (U + k + w) = U + k + w := wrp _ (by omega) (by omega)
  have j9 : IntKind.i64.wrap (U + k + w - D) = U + k + w - D := wrp _ (by omega) (by omega)
  refine ⟨lo_spe a1 j1 m0 m1, lo_tak a1 j1 m0 m1, hi_tak j2 (by omega) (by omega), lo_use j5 j6 k0 (by omega), wrp _ (by omega) (by omega), wrp _ (by omega) (by omega), wrp _ (by omega) (by omega), wrp _ (by omega) (by omega), by omega,
    fun hu => ⟨y_upd j8 j9 (by omega) hu, by omega, up_rai' (by omega) (by omega) (by omega)⟩, fun hu => n_upd j8 j9 hu, ?_⟩
  intro D' hD
  have d0 : S + m ≤ D' := by omega
  have d1 : D' ≤ 10000 := by omega
  exact ⟨wrp _ (by omega) (by omega), wrp _ (by omega) (by omega), by omega, hi_spe (wrp _ (by omega) (by omega)) (by omega) (by omega)⟩

set_option maxRecDepth 100000 in
set_option maxHeartbeats 2000000 in
theorem through_walk (a0 b0 : Int) (la : Option Addr) (n c : Nat) (Z : Nat → Int) (w : World) (hZ : ∀ i, i < n → ∃ ad, la = some ad ∧ w.cell? (ad.add i) = some (.int .i64 (Z i))) (hn : n ≤ 20000000000000) :
    Calls Try.prog 6 #[.int .i64 a0, .int .i64 b0, .slice la n c] w fun e w' => e = .returned (.bool true) ∧ Below w.heap.size w w' := by
  have HZ : Aside (∀ i, i < n → ∃ ad, la = some ad ∧ w.cell? (ad.add i) = some (.int .i64 (Z i))) := hZ
  clear hZ
  have ha := and8 a0
  have hb := and12 b0
  obtain ⟨win, hwin⟩ : ∃ win, 1 + a0 % 256 = win := ⟨_, rfl⟩
  obtain ⟨Bn, hBn⟩ : ∃ Bn : Nat, b0 % 4096 = (Bn : Int) := ⟨(b0 % 4096).toNat, by omega⟩
  have i0 : IntKind.i64.wrap (1 + a0 % 256) = win := by rw [← hwin]; exact wrp _ (by omega) (by omega)
  have w1 : 1 ≤ win := by omega
  have w2 : win ≤ 256 := by omega
  have B1 : (Bn : Int) ≤ 4095 := by omega
  rw [hBn] at hb
  generalize a0 % 256 = a1 at *
  clear hwin hBn
  have hnew := newt_c win w (by simp only [mayt, Bool.and_eq_true, decide_eq_true_eq]; omega)
  have HO : Aside ((tv0 win).ok ∧ (gv0 win).ok) := ⟨tv0_ok (by simp only [mayt, Bool.and_eq_true, decide_eq_true_eq]; omega), gv0_ok (by simp only [may, Bool.and_eq_true, decide_eq_true_eq]; omega)⟩
  have HG : Aside (∀ X, Calls Try.prog 8 #[.int .i64 win] X fun e w' => e = .returned (.tuple #[.pointer (some ⟨X.heap.size, 0, none⟩), .int .i64 0]) ∧ Rt 53 (gv0 win).p w' X.heap.size ∧ Below X.heap.size X w') := fun X => newg_c win X (by simp only [may, Bool.and_eq_true, decide_eq_true_eq]; omega)
  have HF : Aside (Fl n (Bn : Int) win 0 (Bn : Int) win 0 0 0) := ⟨B1, w1, w2, by omega, by omega, by omega, by omega, by omega, by omega, by omega, .inl (by omega)⟩
  go_enter Try.func6, Try.ntmps6
  go_wp2_with fail
  refine hnew.mono ?_
  rintro e w1' ⟨rfl, hr1, hb1⟩
  have HR1 : Aside (Rt 56 (tv0 win).p w1' w.heap.size) := hr1
  have HB1 : Aside (Below w.heap.size w w1') := hb1
  have h2 := HG.out w1'
  clear hnew hr1 hb1 HG
  go_wp2_with fail
  refine h2.mono ?_
  rintro e w2' ⟨rfl, hr2, hb2⟩
  have HH : Aside (Th w w1'.heap.size w.heap.size ⟨win, 0, -1⟩ ⟨win, 0, 0, win⟩ w2') := ⟨hr2, HR1.out.below hb2, HO.out.2, HO.out.1, by have := HR1.out.lt; omega, HB1.out.size, Nat.le_refl _, HB1.out.trans (hb2.mono HB1.out.size)⟩
  clear h2 hr2 hb2 HR1 HB1 HO
  generalize hs : w.heap.size = r at HH ⊢
  generalize w1'.heap.size = s at HH ⊢
  go_wp2
  go_loopg [11, 12, 13, 14] (n + Bn + 4) (fun kx s11 s12 s13 s14 wr => ∃ (i : Nat) (T D W S U : Int), s11 = .int .i64 T ∧ s12 = .int .i64 D ∧ s13 = .int .i64 W ∧ s14 = .int .i64 (i : Int) ∧ n + Bn + 4 - i ≤ kx ∧ Aside (Fl n (Bn : Int) win i T D W S U) ∧ Aside (Th w s r ⟨D, S, -1⟩ ⟨win, S, U, D⟩ wr))
  case atStart => exact ⟨0, Bn, win, 0, 0, 0, rfl, rfl, rfl, rfl, by omega, HF.out, HH.out⟩
  case round =>
    obtain ⟨i, T, D, W, S, U, rfl, rfl, rfl, rfl, hk, HI, HQ⟩ := hrel
    clear HH HF ha hb i0 w1 w2 B1
    by_cases hT : 0 < T
    rotate_left
    · by_cases hW : 0 < W
      rotate_left
      · have HB : Aside (Below w.heap.size w wr) := HQ.out.b
        clear HQ
        go_wp2
        go_ret
        first | exact ⟨rfl, HB.out⟩ | (rw [← hs]; exact ⟨rfl, HB.out⟩)
      have HGO : Aside (0 < T ∨ 0 < W) := .inr hW
      have HC : Aside (IntKind.i64.wrap (3 * (Bn : Int)) = 3 * (Bn : Int) ∧ IntKind.i64.wrap (3 * (Bn : Int) + 10) = 3 * (Bn : Int) + 10 ∧ IntKind.i64.wrap (3 * (Bn : Int) + 10 + (n : Int)) = 3 * (Bn : Int) + 10 + (n : Int) ∧ ¬ 3 * (Bn : Int) + 10 + (n : Int) < (i : Int) ∧ IntKind.i64.wrap ((i : Int) + 1) = (i : Int) + 1 ∧ (i : Int) ≤ (n : Int) + (Bn : Int) + 2 ∧ IntKind.i64.wrap (D - S) = D - S ∧ 0 ≤ min (D - S) T ∧ min (D - S) T ≤ D - S ∧ min (D - S) T ≤ T) := by
        obtain ⟨b1, w1, w2, t0, st, ww0, uw, u0, sd, du, pr⟩ := HI.out
        have hg := HGO.out
        clear HGO HI
        have hi9 : (i : Int) ≤ (n : Int) + (Bn : Int) + 2 := by omega
        clear pr hg
        exact ⟨wrp _ (by omega) (by omega), wrp _ (by omega) (by omega), wrp _ (by omega) (by omega), by omega, wrp _ (by omega) (by omega), hi9, wrp _ (by omega) (by omega), by omega, by omega, by omega⟩
      have HW : Aside (0 ≤ W) := HI.out.w0
      obtain ⟨i1, i2, i3, i4, n7, hki, i5, M1, M2, M3⟩ := HC.out
      have MM : Aside (0 ≤ min (D - S) T ∧ min (D - S) T ≤ D - S ∧ min (D - S) T ≤ T) := ⟨M1, M2, M3⟩
      have HKI : Aside ((i : Int) ≤ (n : Int) + (Bn : Int) + 2) := hki
      have HN7 : Aside (IntKind.i64.wrap ((i : Int) + 1) = (i : Int) + 1) := n7
      have hc := HQ.out.left
      dsimp only at hc
      rw [i5] at hc
      clear M1 M2 M3 hki HC i5 n7
      go_wp2_with fail
      refine hc.mono ?_
      rintro e u1 ⟨rfl, hp⟩
      have H1 : Aside (Th w s r ⟨D, S, -1⟩ ⟨win, S, U, D⟩ u1) := hp
      clear hp hc HQ i1 i2 i3 i4
      have i6 := min_if (D - S) T
      by_cases hlt : i < n
      · have c3 : (i : Int) < (n : Int) := by omega
        obtain ⟨ad, hla, hcz⟩ := HZ.out i hlt
        have HCZ : Aside (∀ X, Below w.heap.size w X → X.cell? (ad.add i) = some (.int .i64 (Z i))) := fun X hb => (hb.cell (World.block_lt_of_cell? _ _ hcz)).trans hcz
        subst hla
        have hz := HCZ.out u1 H1.out.b
        have hm := and6 (Z i)
        have hm2 := and6 (Z i / 64)
        clear hcz
        generalize Z i = z at *
        have z0 : 0 ≤ z % 64 := by omega
        have y0 : 0 ≤ z / 64 % 64 := by omega
        generalize z % 64 = z6 at *
        generalize z / 64 % 64 = y6 at *
        have i7 := min_if (min (D - S) T) z6
        obtain ⟨m, hm9⟩ : ∃ m, min (min (D - S) T) z6 = m := ⟨_, rfl⟩
        have i9 := min_if (W + m) y6
        obtain ⟨k, hk9⟩ : ∃ k, min (W + m) y6 = k := ⟨_, rfl⟩
        have MK : Aside (0 ≤ m ∧ m ≤ D - S ∧ m ≤ T ∧ 0 ≤ k ∧ k ≤ W + m) := by
          obtain ⟨p1, p2, p3⟩ := MM.out
          have p4 := HW.out
          refine ⟨by omega, by omega, by omega, by omega, by omega⟩
        rw [hm9] at i7
        rw [hk9] at i9
        have HX : Aside (¬ i < n → m = min (D - S) T ∧ k = W + m) := fun h => absurd hlt h
        clear hm9 hk9 z0 y0 MM HW
        generalize min (D - S) T = m9 at i6 i7
        have I9 : Aside ((if y6 < W + m then y6 else W + m) = k) := i9
        have HM2 : Aside (bits .and .i64 (z / 64) 63 = y6) := hm2
        clear i9 hm2
        obtain ⟨m0, m1, m2, k0, k1⟩ := MK.out
        have FA : Aside (Fa win T D W S U m k) := HI.out.fa m0 m1 m2 k0 k1
        clear m0 m1 m2 k0 k1 hlt
        have hc := H1.out.spend m
        rw [FA.out.e1] at hc
        dsimp only at hc
        go_wp2_with fail
        refine hc.mono ?_
        rintro e u2 ⟨rfl, hp⟩
        have Hu2 : Aside (Th w s r ⟨D, S + m, -1⟩ ⟨win, S, U, D⟩ u2) := hp
        clear hp hc H1 i6 hz hm i7
        have hc := Hu2.out.take m
        rw [FA.out.e2] at hc
        dsimp only at hc
        go_wp2_with fail
        refine hc.mono ?_
        rintro e u3 ⟨rfl, hp⟩
        have Hu3 : Aside (Th w s r ⟨D, S + m, -1⟩ ⟨win, S + m, U, D⟩ u3) := hp
        clear hp hc Hu2
        have j3 := FA.out.j3
        have hc := Hu3.out.take (D + 1)
        rw [FA.out.e3] at hc
        dsimp only at hc
        go_wp2_with fail
        refine hc.mono ?_
        rintro e u4 ⟨rfl, hp⟩
        have Hu4 : Aside (Th w s r ⟨D, S + m, -1⟩ ⟨win, S + m, U, D⟩ u4) := hp
        clear hp hc Hu3 j3
        have hz := HCZ.out u4 Hu4.out.b
        have i9 := I9.out
        have hm2 := HM2.out
        have j4 := FA.out.j4
        have i8 := FA.out.i8
        have hc := Hu4.out.used k
        rw [FA.out.e4] at hc
        dsimp only at hc
        go_wp2_with fail
        refine hc.mono ?_
        rintro e u5 ⟨rfl, hp⟩
        have Hu5 : Aside (Th w s r ⟨D, S + m, -1⟩ ⟨win, S + m, U + k, D⟩ u5) := hp
        clear hp hc Hu4 j4 i8 hz i9 hm2 I9 HM2
        have j7 := FA.out.j7
        by_cases hu : (win + 1) / 2 ≤ U + k + win - D
        · obtain ⟨eu1, eu2, eu3⟩ := FA.out.eu hu
          have hc := Hu5.out.update
          rw [eu1] at hc
          dsimp only at hc
          have EU3 : Aside _ := eu3
          clear eu1 eu3
          have HU9 : Aside ((win + 1) / 2 ≤ U + k + win - D) := hu
          clear hu
          go_wp2_with fail
          refine hc.mono ?_
          rintro e u6 ⟨rfl, hp⟩
          have Hu6 : Aside (Th w s r ⟨D, S + m, -1⟩ ⟨win, S + m, U + k, U + k + win⟩ u6) := hp
          clear hp hc Hu5
          have hc := Hu6.out.raise (U + k + win)
          rw [EU3.out] at hc
          dsimp only at hc
          go_wp2_with fail
          refine hc.mono ?_
          rintro e u7 ⟨rfl, hp⟩
          have Hu7 : Aside (Th w s r ⟨U + k + win, S + m, -1⟩ ⟨win, S + m, U + k, U + k + win⟩ u7) := hp
          clear hp hc Hu6 EU3
          have hu : (win + 1) / 2 ≤ U + k + win - D := by have := HU9.out; omega
          have HN' : Aside (Fl n (Bn : Int) win (i + 1) (T - m) (U + k + win) (W + m - k) (S + m) (U + k)) := by
            obtain ⟨m0, m1, m2, k0, k1⟩ := MK.out
            have HN := HI.out.next m0 m1 m2 k0 k1 HX.out HGO.out (.inl ⟨rfl, hu⟩)
            exact HN
          obtain ⟨q1, q2, q4, q5⟩ := FA.out.ef (U + k + win) (.inl ⟨rfl, hu⟩)
          have Q5 : Aside _ := q5
          have l1 := FA.out.l1
          clear q5 hu HI HX HGO
          have hc := Hu7.out.told
          dsimp only at hc
          go_wp2_with fail
          refine hc.mono ?_
          rintro e u8 ⟨rfl, hp⟩
          have Hu8 : Aside (Th w s r ⟨(U + k + win), S + m, -1⟩ ⟨win, S + m, U + k, (U + k + win)⟩ u8) := hp
          clear hp hc Hu7
          have hc := Hu8.out.spend (T - m + (U + k + win) + 1)
          rw [Q5.out] at hc
          dsimp only at hc
          go_wp2_with fail
          refine hc.mono ?_
          rintro e u9 ⟨rfl, hp⟩
          have Hu9 : Aside (Th w s r ⟨(U + k + win), S + m, -1⟩ ⟨win, S + m, U + k, (U + k + win)⟩ u9) := hp
          clear hp hc q1 q2 Hu8
          have n7 := HN7.out
          go_wp2
          have hki := HKI.out
          go_roundg (n + Bn + 4 - (i + 1))
          case measure => omega
          case rel => exact ⟨i + 1, _, _, _, _, _, rfl, rfl, rfl, rfl, Nat.le_refl _, HN'.out, Hu9.out⟩
        · skip
          have hc := Hu5.out.update
          rw [FA.out.en hu] at hc
          dsimp only at hc
          have HU9 : Aside (¬ (win + 1) / 2 ≤ U + k + win - D) := hu
          clear hu
          go_wp2_with fail
          refine hc.mono ?_
          rintro e u6 ⟨rfl, hp⟩
          have Hu6 : Aside (Th w s r ⟨D, S + m, -1⟩ ⟨win, S + m, U + k, D⟩ u6) := hp
          clear hp hc Hu5
          have hu : ¬ (win + 1) / 2 ≤ U + k + win - D := by have := HU9.out; omega
          have HN' : Aside (Fl n (Bn : Int) win (i + 1) (T - m) D (W + m - k) (S + m) (U + k)) := by
            obtain ⟨m0, m1, m2, k0, k1⟩ := MK.out
            have HN := HI.out.next m0 m1 m2 k0 k1 HX.out HGO.out (.inr ⟨rfl, hu⟩)
            exact HN
          obtain ⟨q1, q2, q4, q5⟩ := FA.out.ef D (.inr ⟨rfl, hu⟩)
          have Q5 : Aside _ := q5
          have l1 := FA.out.l1
          clear q5 hu HI HX HGO
          have hc := Hu6.out.told
          dsimp only at hc
          go_wp2_with fail
          refine hc.mono ?_
          rintro e u8 ⟨rfl, hp⟩
          have Hu8 : Aside (Th w s r ⟨D, S + m, -1⟩ ⟨win, S + m, U + k, D⟩ u8) := hp
          clear hp hc Hu6
          have hc := Hu8.out.spend (T - m + D + 1)
          rw [Q5.out] at hc
          dsimp only at hc
          go_wp2_with fail
          refine hc.mono ?_
          rintro e u9 ⟨rfl, hp⟩
          have Hu9 : Aside (Th w s r ⟨D, S + m, -1⟩ ⟨win, S + m, U + k, D⟩ u9) := hp
          clear hp hc q1 q2 Hu8
          have n7 := HN7.out
          go_wp2
          have hki := HKI.out
          go_roundg (n + Bn + 4 - (i + 1))
          case measure => omega
          case rel => exact ⟨i + 1, _, _, _, _, _, rfl, rfl, rfl, rfl, Nat.le_refl _, HN'.out, Hu9.out⟩
      · have c3 : ¬ (i : Int) < (n : Int) := by omega
        obtain ⟨m, hm9⟩ : ∃ m, min (D - S) T = m := ⟨_, rfl⟩
        have HX9 : Aside (¬ i < n → m = min (D - S) T) := fun _ => hm9.symm
        rw [hm9] at i6 MM
        obtain ⟨k, hk9⟩ : ∃ k, W + m = k := ⟨_, rfl⟩
        have HX : Aside (¬ i < n → m = min (D - S) T ∧ k = W + m) := fun h => ⟨HX9.out h, hk9.symm⟩
        have HK9 : Aside (W + m = k) := hk9
        have MK : Aside (0 ≤ m ∧ m ≤ D - S ∧ m ≤ T ∧ 0 ≤ k ∧ k ≤ W + m) := by
          obtain ⟨p1, p2, p3⟩ := MM.out
          have p4 := HW.out
          refine ⟨by omega, by omega, by omega, by omega, by omega⟩
        clear hm9 MM HX9 hk9 HW
        obtain ⟨m0, m1, m2, k0, k1⟩ := MK.out
        have FA : Aside (Fa win T D W S U m k) := HI.out.fa m0 m1 m2 k0 k1
        clear m0 m1 m2 k0 k1 hlt
        have hc := H1.out.spend m
        rw [FA.out.e1] at hc
        dsimp only at hc
        go_wp2_with fail
        refine hc.mono ?_
        rintro e u2 ⟨rfl, hp⟩
        have Hu2 : Aside (Th w s r ⟨D, S + m, -1⟩ ⟨win, S, U, D⟩ u2) := hp
        clear hp hc H1 i6
        have hc := Hu2.out.take m
        rw [FA.out.e2] at hc
        dsimp only at hc
        go_wp2_with fail
        refine hc.mono ?_
        rintro e u3 ⟨rfl, hp⟩
        have Hu3 : Aside (Th w s r ⟨D, S + m, -1⟩ ⟨win, S + m, U, D⟩ u3) := hp
        clear hp hc Hu2
        have j3 := FA.out.j3
        have hc := Hu3.out.take (D + 1)
        rw [FA.out.e3] at hc
        dsimp only at hc
        go_wp2_with fail
        refine hc.mono ?_
        rintro e u4 ⟨rfl, hp⟩
        have Hu4 : Aside (Th w s r ⟨D, S + m, -1⟩ ⟨win, S + m, U, D⟩ u4) := hp
        clear hp hc Hu3 j3
        have j4 := FA.out.j4
        have i8 : IntKind.i64.wrap (W + m) = k := FA.out.i8.trans HK9.out
        have hc := Hu4.out.used k
        rw [FA.out.e4] at hc
        dsimp only at hc
        go_wp2_with fail
        refine hc.mono ?_
        rintro e u5 ⟨rfl, hp⟩
        have Hu5 : Aside (Th w s r ⟨D, S + m, -1⟩ ⟨win, S + m, U + k, D⟩ u5) := hp
        clear hp hc Hu4 j4 i8
        have j7 : IntKind.i64.wrap (k - k) = 0 := by rw [show k - k = 0 by omega]; rfl
        have j0 : IntKind.i64.wrap 0 = 0 := rfl
        by_cases hu : (win + 1) / 2 ≤ U + k + win - D
        · obtain ⟨eu1, eu2, eu3⟩ := FA.out.eu hu
          have hc := Hu5.out.update
          rw [eu1] at hc
          dsimp only at hc
          have EU3 : Aside _ := eu3
          clear eu1 eu3
          have HU9 : Aside ((win + 1) / 2 ≤ U + k + win - D) := hu
          clear hu
          go_wp2_with fail
          refine hc.mono ?_
          rintro e u6 ⟨rfl, hp⟩
          have Hu6 : Aside (Th w s r ⟨D, S + m, -1⟩ ⟨win, S + m, U + k, U + k + win⟩ u6) := hp
          clear hp hc Hu5
          have hc := Hu6.out.raise (U + k + win)
          rw [EU3.out] at hc
          dsimp only at hc
          go_wp2_with fail
          refine hc.mono ?_
          rintro e u7 ⟨rfl, hp⟩
          have Hu7 : Aside (Th w s r ⟨U + k + win, S + m, -1⟩ ⟨win, S + m, U + k, U + k + win⟩ u7) := hp
          clear hp hc Hu6 EU3
          have hu : (win + 1) / 2 ≤ U + k + win - D := by have := HU9.out; omega
          have HN' : Aside (Fl n (Bn : Int) win (i + 1) (T - m) (U + k + win) 0 (S + m) (U + k)) := by
            obtain ⟨m0, m1, m2, k0, k1⟩ := MK.out
            have HN := HI.out.next m0 m1 m2 k0 k1 HX.out HGO.out (.inl ⟨rfl, hu⟩)
            rw [show W + m - k = 0 by have := HK9.out; omega] at HN
            exact HN
          obtain ⟨q1, q2, q4, q5⟩ := FA.out.ef (U + k + win) (.inl ⟨rfl, hu⟩)
          have Q5 : Aside _ := q5
          have l1 := FA.out.l1
          clear q5 hu HI HX HGO
          have hc := Hu7.out.told
          dsimp only at hc
          go_wp2_with fail
          refine hc.mono ?_
          rintro e u8 ⟨rfl, hp⟩
          have Hu8 : Aside (Th w s r ⟨(U + k + win), S + m, -1⟩ ⟨win, S + m, U + k, (U + k + win)⟩ u8) := hp
          clear hp hc Hu7
          have hc := Hu8.out.spend (T - m + (U + k + win) + 1)
          rw [Q5.out] at hc
          dsimp only at hc
          go_wp2_with fail
          refine hc.mono ?_
          rintro e u9 ⟨rfl, hp⟩
          have Hu9 : Aside (Th w s r ⟨(U + k + win), S + m, -1⟩ ⟨win, S + m, U + k, (U + k + win)⟩ u9) := hp
          clear hp hc q1 q2 Hu8
          have n7 := HN7.out
          go_wp2
          have hki := HKI.out
          go_roundg (n + Bn + 4 - (i + 1))
          case measure => omega
          case rel => exact ⟨i + 1, _, _, _, _, _, rfl, rfl, rfl, rfl, Nat.le_refl _, HN'.out, Hu9.out⟩
        · skip
          have hc := Hu5.out.update
          rw [FA.out.en hu] at hc
          dsimp only at hc
          have HU9 : Aside (¬ (win + 1) / 2 ≤ U + k + win - D) := hu
          clear hu
          go_wp2_with fail
          refine hc.mono ?_
          rintro e u6 ⟨rfl, hp⟩
          have Hu6 : Aside (Th w s r ⟨D, S + m, -1⟩ ⟨win, S + m, U + k, D⟩ u6) := hp
          clear hp hc Hu5
          have hu : ¬ (win + 1) / 2 ≤ U + k + win - D := by have := HU9.out; omega
          have HN' : Aside (Fl n (Bn : Int) win (i + 1) (T - m) D 0 (S + m) (U + k)) := by
            obtain ⟨m0, m1, m2, k0, k1⟩ := MK.out
            have HN := HI.out.next m0 m1 m2 k0 k1 HX.out HGO.out (.inr ⟨rfl, hu⟩)
            rw [show W + m - k = 0 by have := HK9.out; omega] at HN
            exact HN
          obtain ⟨q1, q2, q4, q5⟩ := FA.out.ef D (.inr ⟨rfl, hu⟩)
          have Q5 : Aside _ := q5
          have l1 := FA.out.l1
          clear q5 hu HI HX HGO
          have hc := Hu6.out.told
          dsimp only at hc
          go_wp2_with fail
          refine hc.mono ?_
          rintro e u8 ⟨rfl, hp⟩
          have Hu8 : Aside (Th w s r ⟨D, S + m, -1⟩ ⟨win, S + m, U + k, D⟩ u8) := hp
          clear hp hc Hu6
          have hc := Hu8.out.spend (T - m + D + 1)
          rw [Q5.out] at hc
          dsimp only at hc
          go_wp2_with fail
          refine hc.mono ?_
          rintro e u9 ⟨rfl, hp⟩
          have Hu9 : Aside (Th w s r ⟨D, S + m, -1⟩ ⟨win, S + m, U + k, D⟩ u9) := hp
          clear hp hc q1 q2 Hu8
          have n7 := HN7.out
          go_wp2
          have hki := HKI.out
          go_roundg (n + Bn + 4 - (i + 1))
          case measure => omega
          case rel => exact ⟨i + 1, _, _, _, _, _, rfl, rfl, rfl, rfl, Nat.le_refl _, HN'.out, Hu9.out⟩
    · have HGO : Aside (0 < T ∨ 0 < W) := .inl hT
      have HC : Aside (IntKind.i64.wrap (3 * (Bn : Int)) = 3 * (Bn : Int) ∧ IntKind.i64.wrap (3 * (Bn : Int) + 10) = 3 * (Bn : Int) + 10 ∧ IntKind.i64.wrap (3 * (Bn : Int) + 10 + (n : Int)) = 3 * (Bn : Int) + 10 + (n : Int) ∧ ¬ 3 * (Bn : Int) + 10 + (n : Int) < (i : Int) ∧ IntKind.i64.wrap ((i : Int) + 1) = (i : Int) + 1 ∧ (i : Int) ≤ (n : Int) + (Bn : Int) + 2 ∧ IntKind.i64.wrap (D - S) = D - S ∧ 0 ≤ min (D - S) T ∧ min (D - S) T ≤ D - S ∧ min (D - S) T ≤ T) := by
        obtain ⟨b1, w1, w2, t0, st, ww0, uw, u0, sd, du, pr⟩ := HI.out
        have hg := HGO.out
        clear HGO HI
        have hi9 : (i : Int) ≤ (n : Int) + (Bn : Int) + 2 := by omega
        clear pr hg
        exact ⟨wrp _ (by omega) (by omega), wrp _ (by omega) (by omega), wrp _ (by omega) (by omega), by omega, wrp _ (by omega) (by omega), hi9, wrp _ (by omega) (by omega), by omega, by omega, by omega⟩
      have HW : Aside (0 ≤ W) := HI.out.w0
      obtain ⟨i1, i2, i3, i4, n7, hki, i5, M1, M2, M3⟩ := HC.out
      have MM : Aside (0 ≤ min (D - S) T ∧ min (D - S) T ≤ D - S ∧ min (D - S) T ≤ T) := ⟨M1, M2, M3⟩
      have HKI : Aside ((i : Int) ≤ (n : Int) + (Bn : Int) + 2) := hki
      have HN7 : Aside (IntKind.i64.wrap ((i : Int) + 1) = (i : Int) + 1) := n7
      have hc := HQ.out.left
      dsimp only at hc
      rw [i5] at hc
      clear M1 M2 M3 hki HC i5 n7
      go_wp2_with fail
      refine hc.mono ?_
      rintro e u1 ⟨rfl, hp⟩
      have H1 : Aside (Th w s r ⟨D, S, -1⟩ ⟨win, S, U, D⟩ u1) := hp
      clear hp hc HQ i1 i2 i3 i4
      have i6 := min_if (D - S) T
      by_cases hlt : i < n
      · have c3 : (i : Int) < (n : Int) := by omega
        obtain ⟨ad, hla, hcz⟩ := HZ.out i hlt
        have HCZ : Aside (∀ X, Below w.heap.size w X → X.cell? (ad.add i) = some (.int .i64 (Z i))) := fun X hb => (hb.cell (World.block_lt_of_cell? _ _ hcz)).trans hcz
        subst hla
        have hz := HCZ.out u1 H1.out.b
        have hm := and6 (Z i)
        have hm2 := and6 (Z i / 64)
        clear hcz
        generalize Z i = z at *
        have z0 : 0 ≤ z % 64 := by omega
        have y0 : 0 ≤ z / 64 % 64 := by omega
        generalize z % 64 = z6 at *
        generalize z / 64 % 64 = y6 at *
        have i7 := min_if (min (D - S) T) z6
        obtain ⟨m, hm9⟩ : ∃ m, min (min (D - S) T) z6 = m := ⟨_, rfl⟩
        have i9 := min_if (W + m) y6
        obtain ⟨k, hk9⟩ : ∃ k, min (W + m) y6 = k := ⟨_, rfl⟩
        have MK : Aside (0 ≤ m ∧ m ≤ D - S ∧ m ≤ T ∧ 0 ≤ k ∧ k ≤ W + m) := by
          obtain ⟨p1, p2, p3⟩ := MM.out
          have p4 := HW.out
          refine ⟨by omega, by omega, by omega, by omega, by omega⟩
        rw [hm9] at i7
        rw [hk9] at i9
        have HX : Aside (¬ i < n → m = min (D - S) T ∧ k = W + m) := fun h => absurd hlt h
        clear hm9 hk9 z0 y0 MM HW
        generalize min (D - S) T = m9 at i6 i7
        have I9 : Aside ((if y6 < W + m then y6 else W + m) = k) := i9
        have HM2 : Aside (bits .and .i64 (z / 64) 63 = y6) := hm2
        clear i9 hm2
        obtain ⟨m0, m1, m2, k0, k1⟩ := MK.out
        have FA : Aside (Fa win T D W S U m k) := HI.out.fa m0 m1 m2 k0 k1
        clear m0 m1 m2 k0 k1 hlt
        have hc := H1.out.spend m
        rw [FA.out.e1] at hc
        dsimp only at hc
        go_wp2_with fail
        refine hc.mono ?_
        rintro e u2 ⟨rfl, hp⟩
        have Hu2 : Aside (Th w s r ⟨D, S + m, -1⟩ ⟨win, S, U, D⟩ u2) := hp
        clear hp hc H1 i6 hz hm i7
        have hc := Hu2.out.take m
        rw [FA.out.e2] at hc
        dsimp only at hc
        go_wp2_with fail
        refine hc.mono ?_
        rintro e u3 ⟨rfl, hp⟩
        have Hu3 : Aside (Th w s r ⟨D, S + m, -1⟩ ⟨win, S + m, U, D⟩ u3) := hp
        clear hp hc Hu2
        have j3 := FA.out.j3
        have hc := Hu3.out.take (D + 1)
        rw [FA.out.e3] at hc
        dsimp only at hc
        go_wp2_with fail
        refine hc.mono ?_
        rintro e u4 ⟨rfl, hp⟩
        have Hu4 : Aside (Th w s r ⟨D, S + m, -1⟩ ⟨win, S + m, U, D⟩ u4) := hp
        clear hp hc Hu3 j3
        have hz := HCZ.out u4 Hu4.out.b
        have i9 := I9.out
        have hm2 := HM2.out
        have j4 := FA.out.j4
        have i8 := FA.out.i8
        have hc := Hu4.out.used k
        rw [FA.out.e4] at hc
        dsimp only at hc
        go_wp2_with fail
        refine hc.mono ?_
        rintro e u5 ⟨rfl, hp⟩
        have Hu5 : Aside (Th w s r ⟨D, S + m, -1⟩ ⟨win, S + m, U + k, D⟩ u5) := hp
        clear hp hc Hu4 j4 i8 hz i9 hm2 I9 HM2
        have j7 := FA.out.j7
        by_cases hu : (win + 1) / 2 ≤ U + k + win - D
        · obtain ⟨eu1, eu2, eu3⟩ := FA.out.eu hu
          have hc := Hu5.out.update
          rw [eu1] at hc
          dsimp only at hc
          have EU3 : Aside _ := eu3
          clear eu1 eu3
          have HU9 : Aside ((win + 1) / 2 ≤ U + k + win - D) := hu
          clear hu
          go_wp2_with fail
          refine hc.mono ?_
          rintro e u6 ⟨rfl, hp⟩
          have Hu6 : Aside (Th w s r ⟨D, S + m, -1⟩ ⟨win, S + m, U + k, U + k + win⟩ u6) := hp
          clear hp hc Hu5
          have hc := Hu6.out.raise (U + k + win)
          rw [EU3.out] at hc
          dsimp only at hc
          go_wp2_with fail
          refine hc.mono ?_
          rintro e u7 ⟨rfl, hp⟩
          have Hu7 : Aside (Th w s r ⟨U + k + win, S + m, -1⟩ ⟨win, S + m, U + k, U + k + win⟩ u7) := hp
          clear hp hc Hu6 EU3
          have hu : (win + 1) / 2 ≤ U + k + win - D := by have := HU9.out; omega
          have HN' : Aside (Fl n (Bn : Int) win (i + 1) (T - m) (U + k + win) (W + m - k) (S + m) (U + k)) := by
            obtain ⟨m0, m1, m2, k0, k1⟩ := MK.out
            have HN := HI.out.next m0 m1 m2 k0 k1 HX.out HGO.out (.inl ⟨rfl, hu⟩)
            exact HN
          obtain ⟨q1, q2, q4, q5⟩ := FA.out.ef (U + k + win) (.inl ⟨rfl, hu⟩)
          have Q5 : Aside _ := q5
          have l1 := FA.out.l1
          clear q5 hu HI HX HGO
          have hc := Hu7.out.told
          dsimp only at hc
          go_wp2_with fail
          refine hc.mono ?_
          rintro e u8 ⟨rfl, hp⟩
          have Hu8 : Aside (Th w s r ⟨(U + k + win), S + m, -1⟩ ⟨win, S + m, U + k, (U + k + win)⟩ u8) := hp
          clear hp hc Hu7
          have hc := Hu8.out.spend (T - m + (U + k + win) + 1)
          rw [Q5.out] at hc
          dsimp only at hc
          go_wp2_with fail
          refine hc.mono ?_
          rintro e u9 ⟨rfl, hp⟩
          have Hu9 : Aside (Th w s r ⟨(U + k + win), S + m, -1⟩ ⟨win, S + m, U + k, (U + k + win)⟩ u9) := hp
          clear hp hc q1 q2 Hu8
          have n7 := HN7.out
          go_wp2
          have hki := HKI.out
          go_roundg (n + Bn + 4 - (i + 1))
          case measure => omega
          case rel => exact ⟨i + 1, _, _, _, _, _, rfl, rfl, rfl, rfl, Nat.le_refl _, HN'.out, Hu9.out⟩
        · skip
          have hc := Hu5.out.update
          rw [FA.out.en hu] at hc
          dsimp only at hc
          have HU9 : Aside (¬ (win + 1) / 2 ≤ U + k + win - D) := hu
          clear hu
          go_wp2_with fail
          refine hc.mono ?_
          rintro e u6 ⟨rfl, hp⟩
          have Hu6 : Aside (Th w s r ⟨D, S + m, -1⟩ ⟨win, S + m, U + k, D⟩ u6) := hp
          clear hp hc Hu5
          have hu : ¬ (win + 1) / 2 ≤ U + k + win - D := by have := HU9.out; omega
          have HN' : Aside (Fl n (Bn : Int) win (i + 1) (T - m) D (W + m - k) (S + m) (U + k)) := by
            obtain ⟨m0, m1, m2, k0, k1⟩ := MK.out
            have HN := HI.out.next m0 m1 m2 k0 k1 HX.out HGO.out (.inr ⟨rfl, hu⟩)
            exact HN
          obtain ⟨q1, q2, q4, q5⟩ := FA.out.ef D (.inr ⟨rfl, hu⟩)
          have Q5 : Aside _ := q5
          have l1 := FA.out.l1
          clear q5 hu HI HX HGO
          have hc := Hu6.out.told
          dsimp only at hc
          go_wp2_with fail
          refine hc.mono ?_
          rintro e u8 ⟨rfl, hp⟩
          have Hu8 : Aside (Th w s r ⟨D, S + m, -1⟩ ⟨win, S + m, U + k, D⟩ u8) := hp
          clear hp hc Hu6
          have hc := Hu8.out.spend (T - m + D + 1)
          rw [Q5.out] at hc
          dsimp only at hc
          go_wp2_with fail
          refine hc.mono ?_
          rintro e u9 ⟨rfl, hp⟩
          have Hu9 : Aside (Th w s r ⟨D, S + m, -1⟩ ⟨win, S + m, U + k, D⟩ u9) := hp
          clear hp hc q1 q2 Hu8
          have n7 := HN7.out
          go_wp2
          have hki := HKI.out
          go_roundg (n + Bn + 4 - (i + 1))
          case measure => omega
          case rel => exact ⟨i + 1, _, _, _, _, _, rfl, rfl, rfl, rfl, Nat.le_refl _, HN'.out, Hu9.out⟩
      · have c3 : ¬ (i : Int) < (n : Int) := by omega
        obtain ⟨m, hm9⟩ : ∃ m, min (D - S) T = m := ⟨_, rfl⟩
        have HX9 : Aside (¬ i < n → m = min (D - S) T) := fun _ => hm9.symm
        rw [hm9] at i6 MM
        obtain ⟨k, hk9⟩ : ∃ k, W + m = k := ⟨_, rfl⟩
        have HX : Aside (¬ i < n → m = min (D - S) T ∧ k = W + m) := fun h => ⟨HX9.out h, hk9.symm⟩
        have HK9 : Aside (W + m = k) := hk9
        have MK : Aside (0 ≤ m ∧ m ≤ D - S ∧ m ≤ T ∧ 0 ≤ k ∧ k ≤ W + m) := by
          obtain ⟨p1, p2, p3⟩ := MM.out
          have p4 := HW.out
          refine ⟨by omega, by omega, by omega, by omega, by omega⟩
        clear hm9 MM HX9 hk9 HW
        obtain ⟨m0, m1, m2, k0, k1⟩ := MK.out
        have FA : Aside (Fa win T D W S U m k) := HI.out.fa m0 m1 m2 k0 k1
        clear m0 m1 m2 k0 k1 hlt
        have hc := H1.out.spend m
        rw [FA.out.e1] at hc
        dsimp only at hc
        go_wp2_with fail
        refine hc.mono ?_
        rintro e u2 ⟨rfl, hp⟩
        have Hu2 : Aside (Th w s r ⟨D, S + m, -1⟩ ⟨win, S, U, D⟩ u2) := hp
        clear hp hc H1 i6
        have hc := Hu2.out.take m
        rw [FA.out.e2] at hc
        dsimp only at hc
        go_wp2_with fail
        refine hc.mono ?_
        rintro e u3 ⟨rfl, hp⟩
        have Hu3 : Aside (Th w s r ⟨D, S + m, -1⟩ ⟨win, S + m, U, D⟩ u3) := hp
        clear hp hc Hu2
        have j3 := FA.out.j3
        have hc := Hu3.out.take (D + 1)
        rw [FA.out.e3] at hc
        dsimp only at hc
        go_wp2_with fail
        refine hc.mono ?_
        rintro e u4 ⟨rfl, hp⟩
        have Hu4 : Aside (Th w s r ⟨D, S + m, -1⟩ ⟨win, S + m, U, D⟩ u4) := hp
        clear hp hc Hu3 j3
        have j4 := FA.out.j4
        have i8 : IntKind.i64.wrap (W + m) = k := FA.out.i8.trans HK9.out
        have hc := Hu4.out.used k
        rw [FA.out.e4] at hc
        dsimp only at hc
        go_wp2_with fail
        refine hc.mono ?_
        rintro e u5 ⟨rfl, hp⟩
        have Hu5 : Aside (Th w s r ⟨D, S + m, -1⟩ ⟨win, S + m, U + k, D⟩ u5) := hp
        clear hp hc Hu4 j4 i8
        have j7 : IntKind.i64.wrap (k - k) = 0 := by rw [show k - k = 0 by omega]; rfl
        have j0 : IntKind.i64.wrap 0 = 0 := rfl
        by_cases hu : (win + 1) / 2 ≤ U + k + win - D
        · obtain ⟨eu1, eu2, eu3⟩ := FA.out.eu hu
          have hc := Hu5.out.update
          rw [eu1] at hc
          dsimp only at hc
          have EU3 : Aside _ := eu3
          clear eu1 eu3
          have HU9 : Aside ((win + 1) / 2 ≤ U + k + win - D) := hu
          clear hu
          go_wp2_with fail
          refine hc.mono ?_
          rintro e u6 ⟨rfl, hp⟩
          have Hu6 : Aside (Th w s r ⟨D, S + m, -1⟩ ⟨win, S + m, U + k, U + k + win⟩ u6) := hp
          clear hp hc Hu5
          have hc := Hu6.out.raise (U + k + win)
          rw [EU3.out] at hc
          dsimp only at hc
          go_wp2_with fail
          refine hc.mono ?_
          rintro e u7 ⟨rfl, hp⟩
          have Hu7 : Aside (Th w s r ⟨U + k + win, S + m, -1⟩ ⟨win, S + m, U + k, U + k + win⟩ u7) := hp
          clear hp hc Hu6 EU3
          have hu : (win + 1) / 2 ≤ U + k + win - D := by have := HU9.out; omega
          have HN' : Aside (Fl n (Bn : Int) win (i + 1) (T - m) (U + k + win) 0 (S + m) (U + k)) := by
            obtain ⟨m0, m1, m2, k0, k1⟩ := MK.out
            have HN := HI.out.next m0 m1 m2 k0 k1 HX.out HGO.out (.inl ⟨rfl, hu⟩)
            rw [show W + m - k = 0 by have := HK9.out; omega] at HN
            exact HN
          obtain ⟨q1, q2, q4, q5⟩ := FA.out.ef (U + k + win) (.inl ⟨rfl, hu⟩)
          have Q5 : Aside _ := q5
          have l1 := FA.out.l1
          clear q5 hu HI HX HGO
          have hc := Hu7.out.told
          dsimp only at hc
          go_wp2_with fail
          refine hc.mono ?_
          rintro e u8 ⟨rfl, hp⟩
          have Hu8 : Aside (Th w s r ⟨(U + k + win), S + m, -1⟩ ⟨win, S + m, U + k, (U + k + win)⟩ u8) := hp
          clear hp hc Hu7
          have hc := Hu8.out.spend (T - m + (U + k + win) + 1)
          rw [Q5.out] at hc
          dsimp only at hc
          go_wp2_with fail
          refine hc.mono ?_
          rintro e u9 ⟨rfl, hp⟩
          have Hu9 : Aside (Th w s r ⟨(U + k + win), S + m, -1⟩ ⟨win, S + m, U + k, (U + k + win)⟩ u9) := hp
          clear hp hc q1 q2 Hu8
          have n7 := HN7.out
          go_wp2
          have hki := HKI.out
          go_roundg (n + Bn + 4 - (i + 1))
          case measure => omega
          case rel => exact ⟨i + 1, _, _, _, _, _, rfl, rfl, rfl, rfl, Nat.le_refl _, HN'.out, Hu9.out⟩
        · skip
          have hc := Hu5.out.update
          rw [FA.out.en hu] at hc
          dsimp only at hc
          have HU9 : Aside (¬ (win + 1) / 2 ≤ U + k + win - D) := hu
          clear hu
          go_wp2_with fail
          refine hc.mono ?_
          rintro e u6 ⟨rfl, hp⟩
          have Hu6 : Aside (Th w s r ⟨D, S + m, -1⟩ ⟨win, S + m, U + k, D⟩ u6) := hp
          clear hp hc Hu5
          have hu : ¬ (win + 1) / 2 ≤ U + k + win - D := by have := HU9.out; omega
          have HN' : Aside (Fl n (Bn : Int) win (i + 1) (T - m) D 0 (S + m) (U + k)) := by
            obtain ⟨m0, m1, m2, k0, k1⟩ := MK.out
            have HN := HI.out.next m0 m1 m2 k0 k1 HX.out HGO.out (.inr ⟨rfl, hu⟩)
            rw [show W + m - k = 0 by have := HK9.out; omega] at HN
            exact HN
          obtain ⟨q1, q2, q4, q5⟩ := FA.out.ef D (.inr ⟨rfl, hu⟩)
          have Q5 : Aside _ := q5
          have l1 := FA.out.l1
          clear q5 hu HI HX HGO
          have hc := Hu6.out.told
          dsimp only at hc
          go_wp2_with fail
          refine hc.mono ?_
          rintro e u8 ⟨rfl, hp⟩
          have Hu8 : Aside (Th w s r ⟨D, S + m, -1⟩ ⟨win, S + m, U + k, D⟩ u8) := hp
          clear hp hc Hu6
          have hc := Hu8.out.spend (T - m + D + 1)
          rw [Q5.out] at hc
          dsimp only at hc
          go_wp2_with fail
          refine hc.mono ?_
          rintro e u9 ⟨rfl, hp⟩
          have Hu9 : Aside (Th w s r ⟨D, S + m, -1⟩ ⟨win, S + m, U + k, D⟩ u9) := hp
          clear hp hc q1 q2 Hu8
          have n7 := HN7.out
          go_wp2
          have hki := HKI.out
          go_roundg (n + Bn + 4 - (i + 1))
          case measure => omega
          case rel => exact ⟨i + 1, _, _, _, _, _, rfl, rfl, rfl, rfl, Nat.le_refl _, HN'.out, Hu9.out⟩
end Go.Proofs.Ytdfpfecjlpgfaaa
