/- RttPlays: the estimate and the reference's side by side; the walk. -/
import Derived.Test.YthjfhckpgindfaaRf
import Derived.Deep.QuietTactic
import Derived.Deep.RegionHeld3
namespace Go.Proofs.Ythjfhckpgindfaa
open Go.RowKit
set_option linter.unusedVariables false

/-- What the reference's Sample does. -/
def RSam : Prop := ∀ (b : Nat) (v : Rv) (t x : Int) (k : Bool) (w : World), Rt 34 w b v → v.ok → 0 ≤ t → t ≤ 1125899906842624 → 0 ≤ x → x ≤ 9223372036854775807 → Calls Try.prog 16 #[.pointer (some ⟨b, 0, none⟩), .int .i64 t, .int .i64 x, .bool k] w fun e w' => e = .returned (.int .i64 0) ∧ Rt 34 w' b (v.samp t x k) ∧ Tn b w w'
def RSno : Prop := ∀ (b : Nat) (t x : Int) (k : Bool) (w : World), t < 0 ∨ 1125899906842624 < t ∨ x < 0 → Calls Try.prog 16 #[.pointer (some ⟨b, 0, none⟩), .int .i64 t, .int .i64 x, .bool k] w fun e w' => e = .returned (.int .i64 2) ∧ w' = w

/-- Both estimates: the program's v, the reference's u. -/
structure Pw (w : World) (s r : Nat) (v u : Rv) (W : World) : Prop where
  p : Rt 43 W s v
  q : Rt 34 W r u
  vo : v.ok
  uo : u.ok
  ne : s ≠ r
  s0 : w.heap.size ≤ s
  r0 : w.heap.size ≤ r
  b : Below w.heap.size w W
theorem Pw.bel {w : World} {s r : Nat} {v u : Rv} {W W' : World} (h : Pw w s r v u W) (hb : Below W.heap.size W W') : Pw w s r v u W' :=
  ⟨h.p.below hb, h.q.below hb, h.vo, h.uo, h.ne, h.s0, h.r0, h.b.trans (hb.mono h.b.size)⟩
theorem Pw.told {w : World} {s r : Nat} {v u : Rv} {W : World} (h : Pw w s r v u W) : Calls Try.prog 10 #[.pointer (some ⟨s, 0, none⟩)] W fun e w' => e = .returned (.tuple #[.int .i64 v.a, .int .i64 v.l, .int .i64 v.s, .int .i64 v.y]) ∧ Pw w s r v u w' :=
  (told_c s v W h.p h.vo).mono (by rintro e w' ⟨rfl, hb⟩; exact ⟨rfl, h.bel hb⟩)
theorem Pw.wait {w : World} {s r : Nat} {v u : Rv} {W : World} (h : Pw w s r v u W) (t : Int) (d : Bool) : Calls Try.prog 11 #[.pointer (some ⟨s, 0, none⟩), .int .i64 t, .bool d] W fun e w' => e = .returned (.int .i64 (v.wait t d)) ∧ Pw w s r v u w' :=
  (wait_c s v t d W h.p h.vo).mono (by rintro e w' ⟨rfl, hb⟩; exact ⟨rfl, h.bel hb⟩)
theorem Pw.rwait {w : World} {s r : Nat} {v u : Rv} {W : World} (h : Pw w s r v u W) (t : Int) (d : Bool) : Calls Try.prog 12 #[.pointer (some ⟨r, 0, none⟩), .int .i64 t, .bool d] W fun e w' => e = .returned (.int .i64 (u.wait t d)) ∧ Pw w s r v u w' :=
  (rwait_c r u t d W h.q h.uo).mono (by rintro e w' ⟨rfl, rfl⟩; exact ⟨rfl, h⟩)
theorem Pw.late {w : World} {s r : Nat} {v u : Rv} {W : World} (h : Pw w s r v u W) : Calls Try.prog 13 #[.pointer (some ⟨s, 0, none⟩)] W fun e w' => e = .returned (.int .i64 v.late) ∧ Pw w s r v u w' :=
  (late_c s v W h.p h.vo).mono (by rintro e w' ⟨rfl, hb⟩; exact ⟨rfl, h.bel hb⟩)
theorem Pw.rlate {w : World} {s r : Nat} {v u : Rv} {W : World} (h : Pw w s r v u W) : Calls Try.prog 14 #[.pointer (some ⟨r, 0, none⟩)] W fun e w' => e = .returned (.int .i64 u.late) ∧ Pw w s r v u w' :=
  (rlate_c r u W h.q h.uo).mono (by rintro e w' ⟨rfl, rfl⟩; exact ⟨rfl, h⟩)
/-- A sample on both sides: the same error, the same estimate behind it. -/
theorem Pw.sample (hs : RSam) (hno : RSno) (w : World) (s r : Nat) (v : Rv) (t x : Int) (k : Bool) (hv : v.ok) (hx1 : x ≤ 9223372036854775807) :
    ∃ (E : Int) (v' : Rv), (∀ W u, Pw w s r v u W → Calls Try.prog 15 #[.pointer (some ⟨s, 0, none⟩), .int .i64 t, .int .i64 x, .bool k] W fun e w' => e = .returned (.int .i64 E) ∧ Pw w s r v' u w') ∧
      (∀ W u, Pw w s r u v W → Calls Try.prog 16 #[.pointer (some ⟨r, 0, none⟩), .int .i64 t, .int .i64 x, .bool k] W fun e w' => e = .returned (.int .i64 E) ∧ Pw w s r u v' w') := by
  by_cases hc : t < 0 ∨ 1125899906842624 < t ∨ x < 0
  · refine ⟨2, v, fun W u h => ?_, fun W u h => ?_⟩
    · exact (sample_no s v t x k W h.p h.vo hc).mono (by rintro e w' ⟨rfl, hb⟩; exact ⟨rfl, h.bel hb⟩)
    · exact (hno r t x k W hc).mono (by rintro e w' ⟨rfl, rfl⟩; exact ⟨rfl, h⟩)
  · have h0 : 0 ≤ t := by omega
    have h1 : t ≤ 1125899906842624 := by omega
    have h2 : 0 ≤ x := by omega
    refine ⟨0, v.samp t x k, fun W u h => ?_, fun W u h => ?_⟩
    · refine (sample_c s v t x k W h.p h.vo h0 h1 h2 hx1).mono ?_
      rintro e w' ⟨rfl, hr, ht⟩
      exact ⟨rfl, hr, ht.rt h.q (fun e => h.ne e.symm), v.samp_ok t x k h.vo h0 h1 h2, h.uo, h.ne, h.s0, h.r0, h.b.trans (ht.toBelow h.b.size h.s0)⟩
    · refine (hs r v t x k W h.q h.uo h0 h1 h2 hx1).mono ?_
      rintro e w' ⟨rfl, hr, ht⟩
      exact ⟨rfl, ht.rt h.p h.ne, hr, h.vo, v.samp_ok t x k h.uo h0 h1 h2, h.ne, h.s0, h.r0, h.b.trans (ht.toBelow h.b.size h.r0)⟩
theorem names_c (W : World) : Calls Try.prog 9 #[] W fun e w' => e = .returned (.bool true) ∧ w' = W := by
  go_enter Try.func9, Try.ntmps9
  go_wp2
  go_ret
  exact ⟨rfl, rfl⟩
/-- Acts as they lie. -/
def Ac (w : World) (la : Option Addr) (l : List (Int × Int × Bool)) : Prop := ∀ i (h : i < l.length), ∃ b off, la = some ⟨b, off, none⟩ ∧ w.cell? ⟨b, off + i * 3, none⟩ = some (.int .i64 l[i].1) ∧ w.cell? ⟨b, off + i * 3 + 1, none⟩ = some (.int .i64 l[i].2.1) ∧ w.cell? ⟨b, off + i * 3 + 2, none⟩ = some (.bool l[i].2.2) ∧ l[i].2.1 ≤ 9223372036854775807

set_option maxRecDepth 100000 in
set_option maxHeartbeats 2000000 in
theorem plays_walk (hsa : RSam) (hsn : RSno) (m : Int) (la : Option Addr) (cap : Nat) (l : List (Int × Int × Bool)) (t : Int) (w : World) (hl : Ac w la l) (hsz : l.length ≤ 1000000000000000) :
    Calls Try.prog 3 #[.int .i64 m, .slice la l.length cap, .int .i64 t] w fun e w' => e = .returned (.bool true) ∧ Below w.heap.size w w' := by
  have HL : Aside (Ac w la l) := hl
  clear hl
  obtain ⟨N, hN⟩ : ∃ N, l.length = N := ⟨_, rfl⟩
  rw [hN] at hsz ⊢
  have HN : Aside _ := hN
  clear hN
  by_cases hm : m < 0 ∨ 1125899906842624 < m
  · go_enter Try.func3, Try.ntmps3
    go_wp2_with fail
    refine (new_no m w hm).mono ?_
    rintro e w1 ⟨rfl, hb1⟩
    have HB1 : Aside _ := hb1
    clear hb1
    go_wp2_with fail
    refine (rnew_no m w1 hm).mono ?_
    rintro e w2 ⟨rfl, hw2⟩
    subst w2
    clear hm
    go_wp2_with fail
    refine (names_c w1).mono ?_
    rintro e w2 ⟨rfl, hw2⟩
    subst w2
    have i0 : (0 : Int) ≤ (N : Int) := by omega
    go_wp2
    refine wp_loop_rounds 1 ?_
    rw [rounds_succ]
    go_wp2
    go_ret
    exact ⟨rfl, HB1.out⟩
  · have m0 : 0 ≤ m := by omega
    have m1 : m ≤ 1125899906842624 := by omega
    clear hm
    go_enter Try.func3, Try.ntmps3
    go_wp2_with fail
    refine (new_c m w m0 m1).mono ?_
    rintro e w1 ⟨s, rfl, hr1, hs0, hb1⟩
    have HR1 : Aside (Rt 43 w1 s (rv0 m)) := hr1
    have HB1 : Aside _ := hb1
    clear hb1 hr1
    go_wp2_with fail
    refine (rnew_c m w1 m0 m1).mono ?_
    rintro e w2 ⟨rfl, hr2, hb2⟩
    have HP : Aside (Pw w s w1.heap.size (rv0 m) (rv0 m) w2) := ⟨Rt.below HR1.out hb2, hr2, rv0_ok m m0 m1, rv0_ok m m0 m1, by have := Rt.lt HR1.out; omega, hs0, HB1.out.size, HB1.out.trans (hb2.mono HB1.out.size)⟩
    generalize w1.heap.size = r at HP ⊢
    clear hr2 hb2 HR1 HB1
    go_wp2_with fail
    refine (names_c w2).mono ?_
    rintro e w3 ⟨rfl, hw3⟩
    subst w3
    go_wp2
    go_loopg [11] (N + 1) (fun kx s11 wr => ∃ (i : Nat) (v : Rv), s11 = .int .i64 (i : Int) ∧ i ≤ N + 1 ∧ N + 1 - i ≤ kx ∧ Aside (Pw w s r v v wr))
    case atStart => exact ⟨0, _, rfl, by omega, by omega, HP.out⟩
    case round =>
      obtain ⟨i, v, rfl, hi, hk, HQ⟩ := hrel
      clear HP
      by_cases hlt : i ≤ N
      · have c1 : (i : Int) ≤ (N : Int) := by omega
        have h1 := Pw.told HQ.out
        go_wp2_with fail
        refine h1.mono ?_
        rintro e u1 ⟨rfl, hp⟩
        obtain ⟨e0, e1, e2, e3, e4, e5⟩ := hp.q.cells
        have h2 := Pw.wait hp t true
        clear hp h1
        go_wp2_with fail
        refine h2.mono ?_
        rintro e u2 ⟨rfl, hp⟩
        have h3 := Pw.rwait hp t true
        clear hp h2 e0 e1 e2 e3 e4 e5
        go_wp2_with fail
        refine h3.mono ?_
        rintro e u3 ⟨rfl, hp⟩
        have h4 := Pw.wait hp t false
        clear hp h3
        go_wp2_with fail
        refine h4.mono ?_
        rintro e u4 ⟨rfl, hp⟩
        have h5 := Pw.rwait hp t false
        clear hp h4
        go_wp2_with fail
        refine h5.mono ?_
        rintro e u5 ⟨rfl, hp⟩
        have h6 := Pw.late hp
        clear hp h5
        go_wp2_with fail
        refine h6.mono ?_
        rintro e u6 ⟨rfl, hp⟩
        have h7 := Pw.rlate hp
        clear hp h6
        go_wp2_with fail
        refine h7.mono ?_
        rintro e u7 ⟨rfl, hp⟩
        have HP7 : Aside (Pw w s r v v u7) := hp
        clear hp h7
        by_cases hlt2 : i < N
        · have c2 : (i : Int) < (N : Int) := by omega
          obtain ⟨ba, off, hla, q0, q1, q2, q3⟩ := HL.out i (by rw [HN.out]; exact hlt2)
          subst hla
          generalize (l[i]'(by rw [HN.out]; exact hlt2)) = act at q0 q1 q2 q3
          obtain ⟨tk, wt, kn⟩ := act
          dsimp only at q0 q1 q2 q3
          have lb : ba < w.heap.size := World.block_lt_of_cell? _ _ q0
          have HC : Aside (∀ X : World, Below w.heap.size w X → X.cell? ⟨ba, off + i * 3, none⟩ = some (.int .i64 tk) ∧ X.cell? ⟨ba, off + i * 3 + 1, none⟩ = some (.int .i64 wt) ∧ X.cell? ⟨ba, off + i * 3 + 2, none⟩ = some (.bool kn)) := fun X hX => ⟨(hX.cell (p := ⟨ba, off + i * 3, none⟩) lb).trans q0, (hX.cell (p := ⟨ba, off + i * 3 + 1, none⟩) lb).trans q1, (hX.cell (p := ⟨ba, off + i * 3 + 2, none⟩) lb).trans q2⟩
          obtain ⟨E, v', hA, hB⟩ := Pw.sample hsa hsn w s r v tk wt kn HP7.out.vo q3
          have HA : Aside _ := hA
          have HB : Aside _ := hB
          clear hA hB q0 q1 q2 q3
          have HPd : Aside (Pw w s r v v u7.drew) := Pw.bel HP7.out (Below.refl _ _).drew
          go_wp2_with fail
          go_region_held3 (fun w' => w'.cell? ⟨ba, off + i * 3, none⟩ = some (.int .i64 tk) ∧ w'.cell? ⟨ba, off + i * 3 + 1, none⟩ = some (.int .i64 wt) ∧ w'.cell? ⟨ba, off + i * 3 + 2, none⟩ = some (.bool kn)) (first | exact HC.out _ HP5.out.b | exact HC.out _ HP4.out.b | exact HC.out _ HPd.out.b) (first
            | (go_at_call 16; refine Calls.mono (HB.out _ _ HP4.out) ?_; rintro e w5 ⟨rfl, hp⟩; have HP5 : Aside (Pw w s r v' v' w5) := hp; clear hp)
            | (go_at_call 15; refine Calls.mono (HA.out _ _ HPd.out) ?_; rintro e w4 ⟨rfl, hp⟩; have HP4 : Aside (Pw w s r v' v w4) := hp; clear hp))
          have n7 : IntKind.i64.wrap ((i : Int) + 1) = (i : Int) + 1 := wrp _ (by omega) (by omega)
          go_wp2
          go_roundg (N + 1 - (i + 1))
          case measure => omega
          case rel => exact ⟨i + 1, v', rfl, by omega, Nat.le_refl _, HP5.out⟩
        · have c2 : ¬ (i : Int) < (N : Int) := by omega
          have n7 : IntKind.i64.wrap ((i : Int) + 1) = (i : Int) + 1 := wrp _ (by omega) (by omega)
          go_wp2_with fail
          go_quiet (fail)
          have HP8 : Aside (Pw w s r v v (u7.drewN nq)) := Pw.bel HP7.out (below_drewN (Below.refl _ _) _)
          go_wp2
          go_roundg (N + 1 - (i + 1))
          case measure => omega
          case rel => exact ⟨i + 1, v, rfl, by omega, Nat.le_refl _, HP8.out⟩
      · have c1 : ¬ (i : Int) ≤ (N : Int) := by omega
        have HB : Aside (Below w.heap.size w wr) := HQ.out.b
        go_wp2
        go_ret
        exact ⟨rfl, HB.out⟩
end Go.Proofs.Ythjfhckpgindfaa
