/- RttBounds: the walk. -/
import Derived.Test.YthjfhckpgindfaaSt
import Derived.Deep.QuietTactic
namespace Go.Proofs.Ythjfhckpgindfaa
open Go.RowKit
set_option linter.unusedVariables false

/-- Between two rounds of RttBounds: lo, hi: the least and the greatest sample so far; n: how many. -/
def BoI (w : World) (b : Nat) (n : Nat) (lo hi : Int) (W : World) : Prop :=
  ∃ v : Rv, Rt 43 W b v ∧ v.ok ∧ Below w.heap.size w W ∧ w.heap.size ≤ b ∧ ((n = 0 ∧ v = rv0 25000 ∧ lo = 1125899906842624 ∧ hi = 0) ∨ (v.h = true ∧ v.l = lo ∧ lo ≤ v.s ∧ v.s ≤ hi ∧ v.y ≤ max hi 4 ∧ lo ≤ hi ∧ 0 ≤ lo ∧ hi ≤ 1125899906842624))
/-- Behind a sample. -/
def BoJ (w : World) (b : Nat) (lo hi a l s y : Int) (W : World) : Prop :=
  ∃ v : Rv, Rt 43 W b v ∧ v.ok ∧ Below w.heap.size w W ∧ w.heap.size ≤ b ∧ v.h = true ∧ v.a = a ∧ v.l = l ∧ v.s = s ∧ v.y = y ∧ l = lo ∧ lo ≤ s ∧ s ≤ hi ∧ 0 ≤ y ∧ y ≤ max hi 4 ∧ lo ≤ hi ∧ 0 ≤ lo ∧ hi ≤ 1125899906842624
theorem BoI.sample {w : World} {b n : Nat} {lo hi : Int} {W : World} (h : BoI w b n lo hi W) (t : Int) (h0 : 0 ≤ t) (h1 : t ≤ 1125899906842624) :
    ∃ s y, Calls Try.prog 15 #[.pointer (some ⟨b, 0, none⟩), .int .i64 t, .int .i64 0, .bool true] W fun e w' => e = .returned (.int .i64 0) ∧ BoJ w b (min lo t) (max hi t) t (min lo t) s y w' := by
  obtain ⟨v, hr, ho, hb, hs, hv⟩ := h
  have hc := sample_c b v t 0 true W hr ho h0 h1 (by omega) (by omega)
  have hok := v.samp_ok t 0 true ho h0 h1 (by omega)
  refine ⟨(v.samp t 0 true).s, (v.samp t 0 true).y, hc.mono ?_⟩
  rintro e w' ⟨rfl, hr', ht⟩
  refine ⟨rfl, _, hr', hok, hb.trans (ht.toBelow hb.size hs), hs, ?_⟩
  have hy0 := ho.y0
  have hs0 := ho.s0
  rcases hv with ⟨_, rfl, rfl, rfl⟩ | ⟨q1, q2, q3, q4, q5, q6, q7, q8⟩
  · have e : (rv0 25000).samp t 0 true = ⟨25000, true, t, t, t, t / 2⟩ := by simp [Rv.samp, rv0]
    rw [e]
    dsimp only
    refine ⟨rfl, rfl, by omega, rfl, rfl, rfl, ?_⟩
    omega
  · have ow : v.own t 0 true = t := by
      unfold Rv.own
      have := ho.m0
      rw [if_pos rfl]
      split <;> omega
    simp only [Rv.samp, if_pos q1, ow, true_and]
    omega
theorem BoJ.told {w : World} {b : Nat} {lo hi a l s y : Int} {W : World} (h : BoJ w b lo hi a l s y W) :
    Calls Try.prog 10 #[.pointer (some ⟨b, 0, none⟩)] W fun e w' => e = .returned (.tuple #[.int .i64 a, .int .i64 l, .int .i64 s, .int .i64 y]) ∧ BoJ w b lo hi a l s y w' := by
  obtain ⟨v, r1, r2, r3, r4, r5, rfl, rfl, rfl, rfl, r6⟩ := h
  refine (told_c b v W r1 r2).mono ?_
  rintro e w' ⟨rfl, hb⟩
  exact ⟨rfl, v, r1.below hb, r2, r3.trans (hb.mono r3.size), r4, r5, rfl, rfl, rfl, rfl, r6⟩
theorem BoJ.num {w : World} {b : Nat} {lo hi a l s y : Int} {W : World} (h : BoJ w b lo hi a l s y W) : l = lo ∧ lo ≤ s ∧ s ≤ hi ∧ 0 ≤ y ∧ y ≤ max hi 4 ∧ lo ≤ hi ∧ 0 ≤ lo ∧ hi ≤ 1125899906842624 := by
  obtain ⟨v, r1, r2, r3, r4, r5, rfl, rfl, rfl, rfl, r6⟩ := h
  exact r6
theorem BoJ.next {w : World} {b n : Nat} {lo hi a l s y : Int} {W : World} (h : BoJ w b lo hi a l s y W) : BoI w b n lo hi W := by
  obtain ⟨v, r1, r2, r3, r4, r5, rfl, rfl, rfl, rfl, r6, r7, r8, r9, r10, r11, r12, r13⟩ := h
  exact ⟨v, r1, r2, r3, r4, .inr ⟨r5, r6, r7, r8, r10, r11, r12, r13⟩⟩
theorem BoJ.bel {w : World} {b : Nat} {lo hi a l s y : Int} {W W' : World} (h : BoJ w b lo hi a l s y W) (hb : Below W.heap.size W W') : BoJ w b lo hi a l s y W' := by
  obtain ⟨v, r1, r2, r3, r4, r6⟩ := h
  exact ⟨v, r1.below hb, r2, r3.trans (hb.mono r3.size), r4, r6⟩
theorem BoJ.old {w : World} {b : Nat} {lo hi a l s y : Int} {W : World} (h : BoJ w b lo hi a l s y W) : Below w.heap.size w W := by
  obtain ⟨v, r1, r2, r3, r4, r6⟩ := h
  exact r3
theorem BoI.no {w : World} {b n : Nat} {lo hi : Int} {W : World} (h : BoI w b n lo hi W) (t : Int) (hn : t < 0 ∨ 1125899906842624 < t) :
    Calls Try.prog 15 #[.pointer (some ⟨b, 0, none⟩), .int .i64 t, .int .i64 0, .bool true] W fun e w' => e = .returned (.int .i64 2) ∧ BoI w b n lo hi w' := by
  obtain ⟨v, hr, ho, hb, hs, hv⟩ := h
  refine (sample_no b v t 0 true W hr ho (by omega)).mono ?_
  rintro e w' ⟨rfl, hb'⟩
  exact ⟨rfl, v, hr.below hb', ho, hb.trans (hb'.mono hb.size), hs, hv⟩

set_option maxRecDepth 100000 in
set_option maxHeartbeats 2000000 in
theorem bounds_walk (la : Option Addr) (n c : Nat) (Z : Nat → Int) (t : Int) (w : World) (hZ : ∀ i, i < n → ∃ ad, la = some ad ∧ w.cell? (ad.add i) = some (.int .i64 (Z i))) (hn : n ≤ 9223372036854775807) :
    Calls Try.prog 5 #[.slice la n c, .int .i64 t] w fun e w' => e = .returned (.bool true) ∧ Below w.heap.size w w' := by
  obtain ⟨K, hK⟩ : ∃ K : Nat, t % 8 = (K : Int) := ⟨(t % 8).toNat, by omega⟩
  have hK7 : K ≤ 7 := by omega
  have e3 : bits .and .i64 t 7 = (K : Int) := by rw [i64_and3, hK]
  have HZ : Aside _ := hZ
  clear hK hZ
  go_enter Try.func5, Try.ntmps5
  go_wp2_with fail
  refine (new_c 25000 w (by omega) (by omega)).mono ?_
  rintro e w1 ⟨b, rfl, hr, hs, hb⟩
  have hok := rv0_ok 25000 (by omega) (by omega)
  have hw0 := wait_c b _ 0 false w1 hr hok
  rw [show Rv.wait (rv0 25000) 0 false = 999000 from rfl] at hw0
  have HR0 : Aside (Rt 43 w1 b _) := hr
  have HB0 : Aside _ := hb
  clear hr hb
  go_wp2_with fail
  refine hw0.mono ?_
  rintro e w2 ⟨rfl, hb2⟩
  have HI : Aside (BoI w b 0 1125899906842624 0 w2) := ⟨_, Rt.below HR0.out hb2, hok, HB0.out.trans (hb2.mono HB0.out.size), hs, .inl ⟨rfl, rfl, rfl, rfl⟩⟩
  clear hb2 hw0 HR0 HB0
  go_wp2
  go_loopg [7, 8, 9, 10] n (fun kx s7 s8 s9 s10 wr => ∃ (lo hi : Int) (q i : Nat), s7 = .int .i64 lo ∧ s8 = .int .i64 hi ∧ s9 = .int .i64 (q : Int) ∧ s10 = .int .i64 (i : Int) ∧ q ≤ i ∧ i ≤ n ∧ n - i ≤ kx ∧ Aside (BoI w b q lo hi wr))
  case atStart => exact ⟨_, _, 0, 0, rfl, rfl, rfl, rfl, by omega, by omega, by omega, HI.out⟩
  case round =>
    obtain ⟨lo, hi, q, i, rfl, rfl, rfl, rfl, hqi, hin, hk, HR⟩ := hrel
    clear HI
    by_cases hlt : i < n
    · obtain ⟨ad, hla, hcz⟩ := HZ.out i hlt
      subst hla
      have hbw : Below w.heap.size w wr := by obtain ⟨_, _, _, h, _⟩ := HR.out; exact h
      have czr : wr.cell? (ad.add i) = some (.int .i64 (Z i)) := (hbw.cell (World.block_lt_of_cell? _ _ hcz)).trans hcz
      have HCZ : Aside (∀ X : World, Below w.heap.size w X → X.cell? (ad.add i) = some (.int .i64 (Z i))) := fun X hX => (hX.cell (World.block_lt_of_cell? _ _ hcz)).trans hcz
      clear hcz hbw
      generalize Z i = z at czr HCZ
      by_cases hz : 0 ≤ z ∧ z ≤ 1125899906842624
      · obtain ⟨s, y, hc⟩ := BoI.sample HR.out z hz.1 hz.2
        go_wp2_with fail
        refine hc.mono ?_
        rintro e w3 ⟨rfl, hj⟩
        have cz3 := HCZ.out w3 (by obtain ⟨_, _, _, h, _⟩ := hj; exact h)
        have ht := hj.told
        obtain ⟨j1, j2, j3, j4, j5, j6, j7, j8⟩ := hj.num
        have HJ : Aside (BoJ w b (min lo z) (max hi z) z (min lo z) s y w3) := hj
        have i1 := min_if lo z
        have i2 := max_if hi z
        have i3 : IntKind.i64.wrap ((q : Int) + 1) = (q : Int) + 1 := wrp _ (by omega) (by omega)
        have HL : Aside _ := j1
        clear hj hc czr j1
        go_wp2_with fail
        go_quiet (fail)
        have HJ4 : Aside (BoJ w b (min lo z) (max hi z) z (min lo z) s y (w3.drewN nq)) := BoJ.bel (W' := w3.drewN nq) HJ.out (below_drewN (Below.refl _ w3) _)
        generalize w3.drewN nq = w4 at HJ4 ⊢
        have ht4 := BoJ.told HJ4.out
        generalize hlo : min lo z = lo' at *
        generalize hhi : max hi z = hi' at *
        clear ht cz3 HJ
        go_wp2_with fail
        refine ht4.mono ?_
        rintro e w5 ⟨rfl, hj5⟩
        have cz5 := HCZ.out w5 hj5.old
        have HJ5 : Aside (BoJ w b lo' hi' z lo' s y w5) := hj5
        have n1 : ¬ hi' < s := by omega
        have n2 : IntKind.i64.wrap (lo' - 8) = lo' - 8 := wrp _ (by omega) (by omega)
        have n3 : ¬ s < lo' - 8 := by omega
        have n4 : ¬ y < 0 := by omega
        have n5 := max_if hi' 4
        have n6 : ¬ max hi' 4 < y := by omega
        have n7 : IntKind.i64.wrap ((i : Int) + 1) = (i : Int) + 1 := wrp _ (by omega) (by omega)
        clear hj5 ht4 hlo hhi i1 i2
        go_wp2
        go_roundg (n - (i + 1))
        case measure => omega
        case rel => exact ⟨lo', hi', q + 1, i + 1, rfl, rfl, rfl, rfl, by omega, by omega, Nat.le_refl _, BoJ.next HJ5.out⟩
      · have hno := BoI.no HR.out z (by omega)
        have n7 : IntKind.i64.wrap ((i : Int) + 1) = (i : Int) + 1 := wrp _ (by omega) (by omega)
        go_wp2_with fail
        refine hno.mono ?_
        rintro e w3 ⟨rfl, hj⟩
        have cz3 := HCZ.out w3 (by obtain ⟨_, _, _, h, _⟩ := hj; exact h)
        have HJ : Aside (BoI w b q lo hi w3) := hj
        clear hj hno czr
        by_cases h0 : 0 ≤ z
        · have h1 : ¬ z ≤ 1125899906842624 := by omega
          clear hz
          go_wp2
          go_roundg (n - (i + 1))
          case measure => omega
          case rel => exact ⟨lo, hi, q, i + 1, rfl, rfl, rfl, rfl, by omega, by omega, Nat.le_refl _, HJ.out⟩
        · clear hz
          go_wp2
          go_roundg (n - (i + 1))
          case measure => omega
          case rel => exact ⟨lo, hi, q, i + 1, rfl, rfl, rfl, rfl, by omega, by omega, Nat.le_refl _, HJ.out⟩
    · obtain rfl : i = n := by omega
      obtain ⟨v, hr, hok, hb, _⟩ := HR.out
      obtain ⟨P, hP⟩ : ∃ P, v.wait (K : Int) true = P := ⟨_, rfl⟩
      obtain ⟨p0, p1⟩ : 0 ≤ P ∧ P ≤ 1000000000000000000 := by
        rw [← hP]
        unfold Rv.wait
        obtain ⟨x0, x1⟩ := hok.base0 true
        rw [show (min (max (K : Int) 0) 10).toNat = K by omega]
        generalize v.base true = X at x0 x1
        have : K = 0 ∨ K = 1 ∨ K = 2 ∨ K = 3 ∨ K = 4 ∨ K = 5 ∨ K = 6 ∨ K = 7 := by omega
        rcases this with rfl | rfl | rfl | rfl | rfl | rfl | rfl | rfl <;> omega
      have hP2 : v.wait ((K : Int) + 1) true = 2 * P := by
        rw [← hP]
        unfold Rv.wait
        rw [show (min (max ((K : Int) + 1) 0) 10).toNat = K + 1 by omega, show (min (max (K : Int) 0) 10).toNat = K by omega, Int.pow_succ, ← Int.mul_assoc, Int.mul_comm 2]
      obtain ⟨Q, hQ⟩ : ∃ Q, v.wait 10 false = Q := ⟨_, rfl⟩
      have hQ' : v.wait 11 false = Q := by rw [← hQ]; rfl
      obtain ⟨R, hR⟩ : ∃ R, v.wait 0 true = R := ⟨_, rfl⟩
      have hR' : v.wait (-1) true = R := by rw [← hR]; rfl
      have g1 : IntKind.i64.wrap (2 * P) = 2 * P := wrp _ (by omega) (by omega)
      have g2 : IntKind.i64.wrap ((K : Int) + 1) = (K : Int) + 1 := wrp _ (by omega) (by omega)
      have HW : Aside (∀ X : World, Below wr.heap.size wr X → ∀ tt d, Calls Try.prog 11 #[.pointer (some ⟨b, 0, none⟩), .int .i64 tt, .bool d] X fun e w' => e = .returned (.int .i64 (v.wait tt d)) ∧ Below wr.heap.size wr w') := by
        intro X hX tt d
        refine (wait_c b v tt d X (hr.below hX) hok).mono ?_
        rintro e w' ⟨rfl, hbb⟩
        exact ⟨rfl, bel_trans hX hbb⟩
      have HB : Aside _ := hb
      have h1 := HW.out wr (Below.refl _ _) ((K : Int) + 1) true
      rw [hP2] at h1
      clear hr hb hP2
      go_wp2_with fail
      refine h1.mono ?_
      rintro e u1 ⟨rfl, hb1⟩
      have h2 := HW.out u1 hb1 (K : Int) true
      rw [hP] at h2
      clear h1 hb1
      go_wp2_with fail
      refine h2.mono ?_
      rintro e u2 ⟨rfl, hb2⟩
      have h3 := HW.out u2 hb2 11 false
      rw [hQ'] at h3
      clear h2 hb2
      go_wp2_with fail
      refine h3.mono ?_
      rintro e u3 ⟨rfl, hb3⟩
      have h4 := HW.out u3 hb3 10 false
      rw [hQ] at h4
      clear h3 hb3
      go_wp2_with fail
      refine h4.mono ?_
      rintro e u4 ⟨rfl, hb4⟩
      have h5 := HW.out u4 hb4 (-1) true
      rw [hR'] at h5
      clear h4 hb4
      go_wp2_with fail
      refine h5.mono ?_
      rintro e u5 ⟨rfl, hb5⟩
      have h6 := HW.out u5 hb5 0 true
      rw [hR] at h6
      clear h5 hb5
      go_wp2_with fail
      refine h6.mono ?_
      rintro e u6 ⟨rfl, hb6⟩
      have HB6 : Aside _ := hb6
      clear h6 hb6 hP hQ hQ' hR hR'
      go_wp2
      go_ret
      exact ⟨rfl, HB.out.trans (HB6.out.mono HB.out.size)⟩
end Go.Proofs.Ythjfhckpgindfaa
