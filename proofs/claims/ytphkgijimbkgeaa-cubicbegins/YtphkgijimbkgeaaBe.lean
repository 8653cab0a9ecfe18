/- CubicBegins: the walk. -/
import Derived.Test.YtphkgijimbkgeaaBs
namespace Go.Proofs.Ytphkgijimbkgeaa
open Go.RowKit
set_option linter.unusedVariables false

/-- A window of packets of 1200 bytes that lost nothing. -/
def vb (K n : Int) : Wv := ⟨K, 1200, n, -1, -1, 0, -1, 0, 0⟩
theorem vb_ok (K n : Int) (hk : K = 0 ∨ K = 1) (h0 : 12000 ≤ n) (h1 : n ≤ 1000000000) : (vb K n).ok := by
  refine ⟨hk, ?_, ?_, ?_, ?_, .inl rfl, .inl rfl⟩ <;> simp only [vb] <;> omega
theorem vb_acked (K n k i : Int) (h0 : 12000 ≤ n) (h1 : n ≤ 100000000) (k0 : 0 ≤ k) (k1 : k ≤ 65535) (i0 : 0 ≤ i) (i1 : i ≤ 100) : (vb K n).acked k 0 i 10 true = (0, vb K (n + k)) ∧ (vb K n).acked k 0 i 10 false = (0, vb K n) := by
  have hf : fitA k 0 i 10 := ⟨⟨k0, by omega⟩, by decide, ⟨i0, by omega⟩, by decide, i0⟩
  have hg : (vb K n).grow k i 10 = vb K (n + k) := by
    unfold Wv.grow
    rw [if_pos (.inl rfl)]
    simp only [vb, Wv.become, cl, Wv.mk.injEq, true_and, and_true]
    omega
  constructor
  · unfold Wv.acked
    rw [if_neg (not_not_intro hf), if_neg (by simp [vb]), hg]
  · unfold Wv.acked
    rw [if_neg (not_not_intro hf), if_pos (.inl rfl)]
theorem vb_lost (K n : Int) (hk : K = 0 ∨ K = 1) (h0 : 12000 ≤ n) (h1 : n ≤ 100000000) : ((vb K n).lost 200 300).1 = 0 ∧ ((vb K n).lost 200 300).2.b = (if K = 1 then 7 * n / 10 else n / 2) ∧ ((vb K n).lost 200 300).2.s = (if K = 1 then 7 * n / 10 else n / 2) ∧ ((vb K n).lost 200 300).2.r = 300 := by
  have hb : (vb K n).lost1.b = if K = 1 then 7 * n / 10 else n / 2 := by
    rcases hk with rfl | rfl <;> simp only [Wv.lost1, vb, Wv.become, Wv.leave, cl] <;> simp <;> omega
  unfold Wv.lost
  rw [if_neg (by decide), if_neg (by simp [vb])]
  exact ⟨rfl, hb, hb, rfl⟩
theorem wv0_vb (K : Int) : wv0 K 1200 = vb K 12000 := by simp only [wv0, vb, Wv.mk.injEq, true_and, and_true]; omega
/-- Between two calls. -/
def BeI (w : World) (b : Nat) (v : Wv) (W : World) : Prop := Rt 45 W b v ∧ w.heap.size ≤ b ∧ Below w.heap.size w W
theorem BeI.told {w : World} {b : Nat} {v : Wv} {W : World} (h : BeI w b v W) (ho : v.ok) : Calls Try.prog 11 #[.pointer (some ⟨b, 0, none⟩)] W fun e w' => e = .returned (.tuple #[.int .i64 v.b, .int .i64 v.s, .int .i64 v.r]) ∧ BeI w b v w' :=
  (told_c b v W h.1 ho).mono (by rintro e w' ⟨rfl, hb⟩; exact ⟨rfl, h.1.below hb, h.2.1, h.2.2.trans (hb.mono h.2.2.size)⟩)
theorem BeI.acked {w : World} {b : Nat} {v : Wv} {W : World} (h : BeI w b v W) (ho : v.ok) (n s t r : Int) (f : Bool) (E : Int) (v' : Wv) (he : v.acked n s t r f = (E, v')) : Calls Try.prog 12 #[.pointer (some ⟨b, 0, none⟩), .int .i64 n, .int .i64 s, .int .i64 t, .int .i64 r, .bool f] W fun e w' => e = .returned (.int .i64 E) ∧ BeI w b v' w' := by
  have hc := acked_c b v n s t r f W h.1 ho
  rw [he] at hc
  exact hc.mono (by rintro e w' ⟨rfl, hr, ht⟩; exact ⟨rfl, hr, h.2.1, h.2.2.trans (ht.toBelow h.2.2.size h.2.1)⟩)
theorem BeI.lost {w : World} {b : Nat} {v : Wv} {W : World} (h : BeI w b v W) (ho : v.ok) (s t : Int) : Calls Try.prog 14 #[.pointer (some ⟨b, 0, none⟩), .int .i64 s, .int .i64 t] W fun e w' => e = .returned (.int .i64 (v.lost s t).1) ∧ BeI w b (v.lost s t).2 w' :=
  (lost_c b v s t W h.1 ho).mono (by rintro e w' ⟨rfl, hr, ht⟩; exact ⟨rfl, hr, h.2.1, h.2.2.trans (ht.toBelow h.2.2.size h.2.1)⟩)

set_option maxRecDepth 100000 in
set_option maxHeartbeats 2000000 in
theorem begins_walk (k : Int) (la : Option Addr) (n c : Nat) (Z : Nat → Int) (w : World) (hZ : ∀ i, i < n → ∃ ad, la = some ad ∧ w.cell? (ad.add i) = some (.int .i64 (Z i))) :
    Calls Try.prog 7 #[.int .i64 k, .slice la n c] w fun e w' => e = .returned (.bool true) ∧ Below w.heap.size w w' := by
  have HZ : Aside _ := hZ
  clear hZ
  have e1 := and1 k
  have hk : k % 2 = 0 ∨ k % 2 = 1 := by omega
  generalize k % 2 = K at *
  have hnew := new_c K 1200 w hk (by omega) (by omega)
  rw [wv0_vb] at hnew
  go_enter Try.func7, Try.ntmps7
  go_wp2_with fail
  refine hnew.mono ?_
  rintro e w1 ⟨rfl, hr1, hb1⟩
  have H0 : Aside (BeI w w.heap.size (vb K 12000) w1) := ⟨hr1, Nat.le_refl _, hb1⟩
  generalize hb : w.heap.size = b at H0 ⊢
  have ht0 := BeI.told H0.out (vb_ok K 12000 hk (by omega) (by omega))
  rw [show (vb K 12000).b = 12000 from rfl, show (vb K 12000).s = -1 from rfl, show (vb K 12000).r = -1 from rfl] at ht0
  clear hr1 hb1 hnew
  go_wp2_with fail
  refine ht0.mono ?_
  rintro e w2 ⟨rfl, h2⟩
  have H2 : Aside (BeI w b (vb K 12000) w2) := h2
  clear h2 ht0 H0
  have HK : Aside _ := hk
  go_wp2
  go_loopg [7, 10, 12, 13, 14] n (fun kx s7 s10 s12 s13 s14 wr => ∃ (i : Nat) (x : Int), s7 = .int .i64 x ∧ s10 = .int .i64 (i : Int) ∧ i ≤ n ∧ i ≤ 100 ∧ 12000 ≤ x ∧ x ≤ 12000 + 65535 * (i : Int) ∧ n - i ≤ kx ∧ Aside (BeI w b (vb K x) wr))
  case atStart => exact ⟨0, 12000, rfl, rfl, by omega, by omega, by omega, by omega, by omega, H2.out⟩
  case round =>
    obtain ⟨i, x, rfl, rfl, hi, hi1, hx0, hx1, hm, HI⟩ := hrel
    clear H2
    by_cases hlt : i < n ∧ i < 100
    · obtain ⟨hl1, hl2⟩ := hlt
      have d1 : (i : Int) < (n : Int) := by omega
      have d2 : (i : Int) < 100 := by omega
      obtain ⟨ad, hla, hcz⟩ := HZ.out i hl1
      subst hla
      have hbw : Below w.heap.size w wr := HI.out.2.2
      have czr : wr.cell? (ad.add i) = some (.int .i64 (Z i)) := (hbw.cell (World.block_lt_of_cell? _ _ hcz)).trans hcz
      clear hcz hbw
      generalize Z i = z at czr
      have e3 := and16 z
      have q0 : 0 ≤ z % 65536 := by omega
      have q1 : z % 65536 ≤ 65535 := by omega
      generalize z % 65536 = y at *
      obtain ⟨ha1, ha2⟩ := vb_acked K x y (i : Int) hx0 (by omega) q0 q1 (by omega) (by omega)
      obtain ⟨ha3, ha4⟩ := vb_acked K (x + y) y (i : Int) (by omega) (by omega) q0 q1 (by omega) (by omega)
      have hc1 := BeI.acked HI.out (vb_ok K x hk hx0 (by omega)) y 0 (i : Int) 10 true 0 _ ha1
      have i3 : IntKind.i64.wrap (x + y) = x + y := wrp _ (by omega) (by omega)
      have n7 : IntKind.i64.wrap ((i : Int) + 1) = (i : Int) + 1 := wrp _ (by omega) (by omega)
      clear ha1 ha2 ha3
      go_wp2_with fail
      refine hc1.mono ?_
      rintro e w3 ⟨rfl, h3⟩
      have hc2 := BeI.acked h3 (vb_ok K (x + y) hk (by omega) (by omega)) y 0 (i : Int) 10 false 0 _ ha4
      clear h3 hc1 czr ha4
      go_wp2_with fail
      refine hc2.mono ?_
      rintro e w4 ⟨rfl, h4⟩
      have hc3 := BeI.told h4 (vb_ok K (x + y) hk (by omega) (by omega))
      rw [show (vb K (x + y)).b = x + y from rfl, show (vb K (x + y)).s = -1 from rfl, show (vb K (x + y)).r = -1 from rfl] at hc3
      clear h4 hc2
      go_wp2_with fail
      refine hc3.mono ?_
      rintro e w5 ⟨rfl, h5⟩
      have H5 : Aside (BeI w b (vb K (x + y)) w5) := h5
      clear h5 hc3 HI
      go_wp2
      go_roundg (n - (i + 1))
      case measure => omega
      case rel => exact ⟨i + 1, x + y, rfl, rfl, by omega, by omega, by omega, by omega, Nat.le_refl _, H5.out⟩
    · obtain ⟨g1, g2, g3, g4⟩ := vb_lost K x hk hx0 (by omega)
      have hok := Wv.lost_ok (vb K x) 200 300 (vb_ok K x hk hx0 (by omega))
      have hc1 := BeI.lost HI.out (vb_ok K x hk hx0 (by omega)) 200 300
      rw [g1] at hc1
      generalize (vb K x).lost 200 300 = Q at hc1 g2 g3 g4 hok
      obtain ⟨E', v'⟩ := Q
      dsimp only at hc1 g2 g3 g4 hok
      have j1 : x.tdiv 2 = x / 2 := Int.tdiv_eq_ediv_of_nonneg (by omega)
      have j2 : IntKind.i64.wrap (x / 2) = x / 2 := wrp _ (by omega) (by omega)
      have j3 : IntKind.i64.wrap (7 * x) = 7 * x := wrp _ (by omega) (by omega)
      have j4 : (7 * x).tdiv 10 = 7 * x / 10 := Int.tdiv_eq_ediv_of_nonneg (by omega)
      have j5 : IntKind.i64.wrap (7 * x / 10) = 7 * x / 10 := wrp _ (by omega) (by omega)
      have HO : Aside _ := hok
      have hd : ¬ (i : Int) < (n : Int) ∨ ((i : Int) < (n : Int) ∧ ¬ (i : Int) < 100) := by omega
      clear hlt hok
      have HG2 : Aside _ := g2
      have HG3 : Aside _ := g3
      have HG4 : Aside _ := g4
      clear g1 g2 g3 g4
      rcases hk with rfl | rfl
      all_goals rcases hd with d1 | ⟨d1, d2⟩
      all_goals
        go_wp2_with fail
        refine hc1.mono ?_
        rintro e w3 ⟨rfl, h3⟩
        have hc2 := BeI.told h3 HO.out
        rw [HG2.out, HG3.out, HG4.out] at hc2
        clear h3
        simp only [if_true, show (0 : Int) = 1 ↔ False from by decide, if_false] at hc2
        go_wp2_with fail
        refine hc2.mono ?_
        rintro e w4 ⟨rfl, h4⟩
        have H4 : Aside (Below w.heap.size w w4) := h4.2.2
        clear h4 hc2
        go_wp2
        go_ret
        exact ⟨rfl, H4.out⟩
end Go.Proofs.Ytphkgijimbkgeaa
