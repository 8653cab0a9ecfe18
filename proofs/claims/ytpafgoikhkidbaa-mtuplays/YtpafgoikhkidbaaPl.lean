/- MtuPlays: the search and the reference's side by side; the walk. -/
import Derived.Test.YtpafgoikhkidbaaRa
import Derived.Test.YtpafgoikhkidbaaOpen
namespace Go.Proofs.Ytpafgoikhkidbaa
open Go.RowKit
set_option linter.unusedVariables false

/-- Both searches: the program's v in block s, the reference's u in block r. -/
structure Pw (w : World) (s r : Nat) (v u : Mv) (W : World) : Prop where
  p : Rt 42 W s v
  q : Rt 35 W r u
  vo : v.ok
  uo : u.ok
  ne : s ≠ r
  s0 : w.heap.size ≤ s
  r0 : w.heap.size ≤ r
  b : Below w.heap.size w W
theorem Pw.bl {w : World} {s r : Nat} {v u : Mv} {W W' : World} (h : Pw w s r v u W) (hb : Below W.heap.size W W') : Pw w s r v u W' := ⟨h.p.below hb, h.q.below hb, h.vo, h.uo, h.ne, h.s0, h.r0, h.b.trans (hb.mono h.b.size)⟩
theorem Pw.left {w : World} {s r : Nat} {v v' u : Mv} {W W' : World} (h : Pw w s r v u W) (ht : Tn s W W') (hr : Rt 42 W' s v') (ho : v'.ok) : Pw w s r v' u W' :=
  ⟨hr, ht.rt h.q (fun e => h.ne e.symm), ho, h.uo, h.ne, h.s0, h.r0, h.b.trans (ht.toBelow h.b.size h.s0)⟩
theorem Pw.right {w : World} {s r : Nat} {v u u' : Mv} {W W' : World} (h : Pw w s r v u W) (ht : Tn r W W') (hr : Rt 35 W' r u') (ho : u'.ok) : Pw w s r v u' W' :=
  ⟨ht.rt h.p h.ne, hr, h.vo, ho, h.ne, h.s0, h.r0, h.b.trans (ht.toBelow h.b.size h.r0)⟩
theorem Pw.size {w : World} {s r : Nat} {v u : Mv} {W : World} (h : Pw w s r v u W) : Calls Try.prog 12 #[.pointer (some ⟨s, 0, none⟩)] W fun e w' => e = .returned (.int .i64 v.s) ∧ w' = W := size_c s v W h.p h.vo
theorem Pw.probe {w : World} {s r : Nat} {v u : Mv} {W : World} (h : Pw w s r v u W) : Calls Try.prog 10 #[.pointer (some ⟨s, 0, none⟩)] W fun e w' => e = .returned (.tuple #[.int .i64 v.prb, .bool v.on]) ∧ Pw w s r v u w' :=
  (probe_c s v W h.p h.vo).mono (by rintro e w' ⟨rfl, hb⟩; exact ⟨rfl, h.bl hb⟩)
theorem Pw.rprobe {w : World} {s r : Nat} {v u : Mv} {W : World} (h : Pw w s r v u W) : Calls Try.prog 11 #[.pointer (some ⟨r, 0, none⟩)] W fun e w' => e = .returned (.tuple #[.int .i64 u.prb, .bool u.on]) ∧ Pw w s r v u w' :=
  (rprobe_c r u W h.q h.uo).mono (by rintro e w' ⟨rfl, hb⟩; exact ⟨rfl, h.bl hb⟩)
theorem Pw.acked {w : World} {s r : Nat} {v u : Mv} {W : World} (h : Pw w s r v u W) (n : Int) : Calls Try.prog 13 #[.pointer (some ⟨s, 0, none⟩), .int .i64 n] W fun e w' => e = .returned (.int .i64 (v.ack n).1) ∧ Pw w s r (v.ack n).2 u w' :=
  (acked_c s v n W h.p h.vo).mono (by rintro e w' ⟨rfl, hr, ht⟩; exact ⟨rfl, h.left ht hr (v.ack_ok n h.vo)⟩)
theorem Pw.racked {w : World} {s r : Nat} {v u : Mv} {W : World} (h : Pw w s r v u W) (n : Int) : Calls Try.prog 14 #[.pointer (some ⟨r, 0, none⟩), .int .i64 n] W fun e w' => e = .returned (.int .i64 (u.ack n).1) ∧ Pw w s r v (u.ack n).2 w' :=
  (racked_c r u n W h.q h.uo).mono (by rintro e w' ⟨rfl, hr, ht⟩; exact ⟨rfl, h.right ht hr (u.ack_ok n h.uo)⟩)
theorem Pw.lost {w : World} {s r : Nat} {v u : Mv} {W : World} (h : Pw w s r v u W) (n : Int) : Calls Try.prog 15 #[.pointer (some ⟨s, 0, none⟩), .int .i64 n] W fun e w' => e = .returned (.int .i64 (v.lose n).1) ∧ Pw w s r (v.lose n).2 u w' :=
  (lost_c s v n W h.p h.vo).mono (by rintro e w' ⟨rfl, hr, ht⟩; exact ⟨rfl, h.left ht hr (v.lose_ok n h.vo)⟩)
theorem Pw.rlost {w : World} {s r : Nat} {v u : Mv} {W : World} (h : Pw w s r v u W) (n : Int) : Calls Try.prog 16 #[.pointer (some ⟨r, 0, none⟩), .int .i64 n] W fun e w' => e = .returned (.int .i64 (u.lose n).1) ∧ Pw w s r v (u.lose n).2 w' :=
  (rlost_c r u n W h.q h.uo).mono (by rintro e w' ⟨rfl, hr, ht⟩; exact ⟨rfl, h.right ht hr (u.lose_ok n h.uo)⟩)
theorem Pw.hole {w : World} {s r : Nat} {v u : Mv} {W : World} (h : Pw w s r v u W) : Calls Try.prog 17 #[.pointer (some ⟨s, 0, none⟩)] W fun e w' => e = .returned (.tuple #[]) ∧ Pw w s r v.hole u w' :=
  (hole_c s v W h.p h.vo).mono (by rintro e w' ⟨rfl, hr, ht⟩; exact ⟨rfl, h.left ht hr (v.hole_ok h.vo)⟩)
theorem Pw.rhole {w : World} {s r : Nat} {v u : Mv} {W : World} (h : Pw w s r v u W) : Calls Try.prog 18 #[.pointer (some ⟨r, 0, none⟩)] W fun e w' => e = .returned (.tuple #[]) ∧ Pw w s r v u.hole w' :=
  (rhole_c r u W h.q h.uo).mono (by rintro e w' ⟨rfl, hr, ht⟩; exact ⟨rfl, h.right ht hr (u.hole_ok h.uo)⟩)

set_option maxRecDepth 100000 in
theorem plays_no (b m : Int) (la : Option Addr) (cap n : Nat) (w : World) (h : may b m = false) :
    Calls Try.prog 3 #[.int .i64 b, .int .i64 m, .slice la n cap] w fun e w' => e = .returned (.bool true) ∧ Below w.heap.size w w' := by
  have h1 := new_no b m w h
  have h2 := rnew_no b m w h
  have h3 := names_c w
  clear h
  go_enter Try.func3, Try.ntmps3
  go_wp2_with fail
  refine h1.mono ?_
  rintro e w1 ⟨rfl, hw⟩
  subst w1
  go_wp2_with fail
  refine h2.mono ?_
  rintro e w1 ⟨rfl, hw⟩
  subst w1
  go_wp2_with fail
  refine h3.mono ?_
  rintro e w1 ⟨rfl, hw⟩
  subst w1
  go_wp2
  refine wp_loop_rounds 1 ?_
  rw [rounds_succ]
  go_wp2
  go_ret
  exact ⟨rfl, Below.refl _ _⟩
set_option maxRecDepth 100000 in
set_option maxHeartbeats 2000000 in
theorem plays_yes (b m : Int) (la : Option Addr) (cap : Nat) (l : List Ac) (w : World) (hl : Acs w la l) (hsz : l.length ≤ 1000000000000000) (h : may b m = true) :
    Calls Try.prog 3 #[.int .i64 b, .int .i64 m, .slice la l.length cap] w fun e w' => e = .returned (.bool true) ∧ Below w.heap.size w w' := by
  have HL : Aside (Acs w la l) := hl
  clear hl
  obtain ⟨N, hN⟩ : ∃ N, l.length = N := ⟨_, rfl⟩
  rw [hN] at hsz ⊢
  have HN : Aside (l.length = N) := hN
  clear hN
  have h1 := new_c b m w h
  have HR : Aside (∀ X, Calls Try.prog 8 #[.int .i64 b, .int .i64 m] X fun e w' => e = .returned (.tuple #[.pointer (some ⟨X.heap.size, 0, none⟩), .int .i64 0]) ∧ Rt 35 w' X.heap.size (mv0 b m) ∧ Below X.heap.size X w') := fun X => rnew_c b m X h
  have HO : Aside (mv0 b m).ok := mv0_ok h
  clear h
  generalize mv0 b m = v0 at *
  go_enter Try.func3, Try.ntmps3
  go_wp2_with fail
  refine h1.mono ?_
  rintro e w1 ⟨rfl, hr1, hb1⟩
  have h2 := HR.out w1
  have HR1 : Aside (Rt 42 w1 w.heap.size v0) := hr1
  have HB1 : Aside (Below w.heap.size w w1) := hb1
  clear hr1 hb1 h1 HR
  go_wp2_with fail
  refine h2.mono ?_
  rintro e w2 ⟨rfl, hr2, hb2⟩
  have HP : Aside (Pw w w.heap.size w1.heap.size v0 v0 w2) := ⟨HR1.out.below hb2, hr2, HO.out, HO.out, by have := HR1.out.lt; omega, Nat.le_refl _, HB1.out.size, HB1.out.trans (hb2.mono HB1.out.size)⟩
  clear hr2 hb2 h2 HR1 HB1
  generalize hs : w.heap.size = s at HP ⊢
  generalize w1.heap.size = r at HP ⊢
  have h3 := names_c w2
  go_wp2_with fail
  refine h3.mono ?_
  rintro e w3 ⟨rfl, hw⟩
  subst w3
  clear h3
  go_wp2
  go_loopg [11] (N + 1) (fun kx s11 wr => ∃ (i : Nat) (v : Mv), s11 = .int .i64 (i : Int) ∧ i ≤ N ∧ N + 1 - i ≤ kx ∧ Aside (Pw w s r v v wr))
  case atStart => exact ⟨0, v0, rfl, by omega, by omega, HP.out⟩
  case round =>
    obtain ⟨i, v, rfl, hi, hk, HQ⟩ := hrel
    clear HP HO
    have c1 : (i : Int) ≤ (N : Int) := by omega
    have h1 := HQ.out.probe
    go_wp2_with fail
    refine h1.mono ?_
    rintro e w4 ⟨rfl, hp⟩
    have h2 := hp.rprobe
    clear h1 hp HQ
    go_wp2_with fail
    refine h2.mono ?_
    rintro e w5 ⟨rfl, hp⟩
    clear h2
    have HP5 : Aside (Pw w s r v v w5.drew) := hp.bl (Below.refl _ _).drew
    have z0 := HP5.out.q.cells.2.1
    have HSZ := HP5.out.size
    clear hp
    generalize v.prb = P at *
    generalize v.on = ON at *
    generalize v.s = SZ at *
    have hon : (ON != ON) = false := by simp
    have hpr : (P != P) = false := by simp
    have hsz : (SZ != SZ) = false := by simp
    all_goals
      go_wp2_with fail
      go_region_held3 (fun w' => w'.cell? ⟨r, 1, none⟩ = some (.int .i64 SZ)) (exact z0) (first | (go_at_call 12; refine Calls.mono HSZ ?_; rintro e w9 ⟨rfl, hw9⟩; subst w9))
      clear z0 HSZ
      generalize w5.drew = X at *
      by_cases hlt : i < N
      rotate_left
      · obtain rfl : i = N := by omega
        have HB : Aside (Below w.heap.size w X) := HP5.out.b
        clear hlt
        go_wp2
        go_ret
        exact ⟨rfl, HB.out⟩
      · have c2 : ¬ (i : Int) = (N : Int) := by omega
        have c3 : (i : Int) < (N : Int) := by omega
        have n7 : IntKind.i64.wrap ((i : Int) + 1) = (i : Int) + 1 := wrp _ (by omega) (by omega)
        obtain ⟨ba, off, hla, qc, hwf⟩ := HL.out i (by rw [HN.out]; exact hlt)
        subst hla
        generalize (l[i]'(by rw [HN.out]; exact hlt)) = a at qc hwf
        have hBw : Below w.heap.size w X := HP5.out.b
        have lb : ba < w.heap.size := World.block_lt_of_cell? _ _ (qc 0 (by omega))
        have q0 : X.cell? ⟨ba, off + i * 3, none⟩ = some (.int .i64 a.k) := (hBw.cell (p := ⟨ba, off + i * 3, none⟩) lb).trans (qc 0 (by omega))
        have q1 : X.cell? ⟨ba, off + i * 3 + 1, none⟩ = some (.int .i64 a.n) := (hBw.cell (p := ⟨ba, off + i * 3 + 1, none⟩) lb).trans (qc 1 (by omega))
        have q2 : X.cell? ⟨ba, off + i * 3 + 2, none⟩ = some (.bool a.f) := (hBw.cell (p := ⟨ba, off + i * 3 + 2, none⟩) lb).trans (qc 2 (by omega))
        clear hBw lb qc hwf
        obtain ⟨kk, n, f⟩ := a
        dsimp only at q0 q1 q2
        cases f
        all_goals
          by_cases k0 : kk = 0
          · subst k0
            have HK : Aside (∀ X n, Pw w s r v v X → Calls Try.prog 13 #[.pointer (some ⟨s, 0, none⟩), .int .i64 n] X fun e w' => e = .returned (.int .i64 (v.ack n).1) ∧ Pw w s r (v.ack n).2 v w') := fun X n h => h.acked n
            have HK2 : Aside (∀ X v' n, Pw w s r v' v X → Calls Try.prog 14 #[.pointer (some ⟨r, 0, none⟩), .int .i64 n] X fun e w' => e = .returned (.int .i64 (v.ack n).1) ∧ Pw w s r v' (v.ack n).2 w') := fun X v' n h => h.racked n
            go_wp2_with fail
            refine Calls.mono (HK.out _ _ HP5.out) ?_
            rintro e w6 ⟨rfl, hp6⟩
            have HP6 : Aside _ := hp6
            clear hp6 HK q0 q1 q2
            go_wp2_with fail
            refine Calls.mono (HK2.out _ _ _ HP6.out) ?_
            rintro e w7 ⟨rfl, hp7⟩
            have HP7 : Aside (Pw w s r _ _ w7) := hp7
            clear hp7 HK2
            go_wp2
            go_roundg (N + 1 - (i + 1))
            case measure => omega
            case rel => exact ⟨i + 1, _, rfl, by omega, Nat.le_refl _, HP7.out⟩
          by_cases k1 : kk = 1
          · subst k1
            have HK : Aside (∀ X n, Pw w s r v v X → Calls Try.prog 15 #[.pointer (some ⟨s, 0, none⟩), .int .i64 n] X fun e w' => e = .returned (.int .i64 (v.lose n).1) ∧ Pw w s r (v.lose n).2 v w') := fun X n h => h.lost n
            have HK2 : Aside (∀ X v' n, Pw w s r v' v X → Calls Try.prog 16 #[.pointer (some ⟨r, 0, none⟩), .int .i64 n] X fun e w' => e = .returned (.int .i64 (v.lose n).1) ∧ Pw w s r v' (v.lose n).2 w') := fun X v' n h => h.rlost n
            go_wp2_with fail
            refine Calls.mono (HK.out _ _ HP5.out) ?_
            rintro e w6 ⟨rfl, hp6⟩
            have HP6 : Aside _ := hp6
            clear hp6 HK q0 q1 q2
            go_wp2_with fail
            refine Calls.mono (HK2.out _ _ _ HP6.out) ?_
            rintro e w7 ⟨rfl, hp7⟩
            have HP7 : Aside (Pw w s r _ _ w7) := hp7
            clear hp7 HK2
            go_wp2
            go_roundg (N + 1 - (i + 1))
            case measure => omega
            case rel => exact ⟨i + 1, _, rfl, by omega, Nat.le_refl _, HP7.out⟩
          by_cases k2 : kk = 2
          · subst k2
            have h6 := HP5.out.hole
            have HK2 : Aside (∀ X v', Pw w s r v' v X → Calls Try.prog 18 #[.pointer (some ⟨r, 0, none⟩)] X fun e w' => e = .returned (.tuple #[]) ∧ Pw w s r v' v.hole w') := fun X v' h => h.rhole
            go_wp2_with fail
            refine Calls.mono h6 ?_
            rintro e w6 ⟨rfl, hp6⟩
            have HP6 : Aside _ := hp6
            clear hp6 h6 q0 q1 q2
            go_wp2_with fail
            refine Calls.mono (HK2.out _ _ HP6.out) ?_
            rintro e w7 ⟨rfl, hp7⟩
            have HP7 : Aside (Pw w s r _ _ w7) := hp7
            clear hp7
            go_wp2
            go_roundg (N + 1 - (i + 1))
            case measure => omega
            case rel => exact ⟨i + 1, _, rfl, by omega, Nat.le_refl _, HP7.out⟩
          · go_wp2
            go_roundg (N + 1 - (i + 1))
            case measure => omega
            case rel => exact ⟨i + 1, v, rfl, by omega, Nat.le_refl _, HP5.out⟩
theorem plays_walk (b m : Int) (la : Option Addr) (cap : Nat) (l : List Ac) (w : World) (hl : Acs w la l) (hsz : l.length ≤ 1000000000000000) :
    Calls Try.prog 3 #[.int .i64 b, .int .i64 m, .slice la l.length cap] w fun e w' => e = .returned (.bool true) ∧ Below w.heap.size w w' := by
  cases h : may b m
  · exact plays_no b m la cap l.length w h
  · exact plays_yes b m la cap l w hl hsz h
end Go.Proofs.Ytpafgoikhkidbaa
