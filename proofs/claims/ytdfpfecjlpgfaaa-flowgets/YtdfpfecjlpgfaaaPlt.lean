/- FlowGets: both Gets side by side; the walk. -/
import Derived.Test.YtdfpfecjlpgfaaaWt
import Derived.Test.YtdfpfecjlpgfaaaOpen
namespace Go.Proofs.Ytdfpfecjlpgfaaa
open Go.RowKit
set_option linter.unusedVariables false

/-- Both: the program's v in block s, the reference's u in block r; an act in block A. -/
structure Pta (w : World) (s r A : Nat) (v u : Tv) (a : Ac) (W : World) : Prop where
  p : Rt 56 v.p W s
  q : Rt 51 u.r W r
  vo : v.ok
  uo : u.ok
  ne : s ≠ r
  s0 : w.heap.size ≤ s
  r0 : w.heap.size ≤ r
  h : Rt 32 a.cs.toArray W A
  ns : A ≠ s
  nr : A ≠ r
  b : Below w.heap.size w W
/-- Both, between two rounds. -/
structure Pt (w : World) (s r : Nat) (v : Tv) (W : World) : Prop where
  p : Rt 56 v.p W s
  q : Rt 51 v.r W r
  vo : v.ok
  ne : s ≠ r
  s0 : w.heap.size ≤ s
  r0 : w.heap.size ≤ r
  b : Below w.heap.size w W
theorem Pt.bl {w : World} {s r : Nat} {v : Tv} {W W' : World} (h : Pt w s r v W) (hb : Below W.heap.size W W') : Pt w s r v W' := ⟨h.p.below hb, h.q.below hb, h.vo, h.ne, h.s0, h.r0, h.b.trans (hb.mono h.b.size)⟩
theorem Pt.act {w : World} {s r : Nat} {v : Tv} {W : World} (h : Pt w s r v W) (a : Ac) : Pta w s r W.heap.size v v a (W.alloc (.cells a.cs.toArray 32)) :=
  ⟨h.p.below (bel1 W _), h.q.below (bel1 W _), h.vo, h.vo, h.ne, h.s0, h.r0, heap_alloc_new W _, by have := h.p.lt; omega, by have := h.q.lt; omega, h.b.trans ((bel1 W _).mono h.b.size)⟩
section
variable {w : World} {s r A : Nat} {v v' u u' : Tv} {a : Ac} {W W' : World}
theorem Pta.pw (h : Pta w s r A v v a W) : Pt w s r v W := ⟨h.p, h.q, h.vo, h.ne, h.s0, h.r0, h.b⟩
theorem Pta.cells (h : Pta w s r A v u a W) : W.cell? ⟨A, 0, none⟩ = some (.int .i64 a.k) ∧ W.cell? ⟨A, 1, none⟩ = some (.int .i64 a.n) := ⟨h.h.cell 0, h.h.cell 1⟩
theorem Pta.bl (h : Pta w s r A v u a W) (hb : Below W.heap.size W W') : Pta w s r A v u a W' :=
  ⟨h.p.below hb, h.q.below hb, h.vo, h.uo, h.ne, h.s0, h.r0, h.h.below hb, h.ns, h.nr, h.b.trans (hb.mono h.b.size)⟩
theorem Pta.left (h : Pta w s r A v u a W) (ht : Tn s W W') (hr : Rt 56 v'.p W' s) (ho : v'.ok) : Pta w s r A v' u a W' :=
  ⟨hr, ht.rt h.q (fun e => h.ne e.symm), ho, h.uo, h.ne, h.s0, h.r0, ht.rt h.h h.ns, h.ns, h.nr, h.b.trans (ht.toBelow h.b.size h.s0)⟩
theorem Pta.right (h : Pta w s r A v u a W) (ht : Tn r W W') (hr : Rt 51 u'.r W' r) (ho : u'.ok) : Pta w s r A v u' a W' :=
  ⟨ht.rt h.p h.ne, hr, h.vo, ho, h.ne, h.s0, h.r0, ht.rt h.h h.nr, h.ns, h.nr, h.b.trans (ht.toBelow h.b.size h.r0)⟩
theorem Pta.tak (h : Pta w s r A v u a W) (n : Int) : Calls Try.prog 20 #[.pointer (some ⟨s, 0, none⟩), .int .i64 n] W fun e w' => e = .returned (.int .i64 (v.tak n).1) ∧ Pta w s r A (v.tak n).2 u a w' :=
  (take_c s v n W h.p).mono (by rintro e w' ⟨rfl, hr, ht⟩; exact ⟨rfl, h.left ht hr (v.tak_ok n h.vo)⟩)
theorem Pta.rtak (h : Pta w s r A v u a W) (n : Int) : Calls Try.prog 21 #[.pointer (some ⟨r, 0, none⟩), .int .i64 n] W fun e w' => e = .returned (.int .i64 (u.tak n).1) ∧ Pta w s r A v (u.tak n).2 a w' :=
  (rtake_c r u n W h.q).mono (by rintro e w' ⟨rfl, hr, ht⟩; exact ⟨rfl, h.right ht hr (u.tak_ok n h.uo)⟩)
theorem Pta.use (h : Pta w s r A v u a W) (n : Int) : Calls Try.prog 22 #[.pointer (some ⟨s, 0, none⟩), .int .i64 n] W fun e w' => e = .returned (.int .i64 (v.use n).1) ∧ Pta w s r A (v.use n).2 u a w' :=
  (used_c s v n W h.p).mono (by rintro e w' ⟨rfl, hr, ht⟩; exact ⟨rfl, h.left ht hr (v.use_ok n h.vo)⟩)
theorem Pta.ruse (h : Pta w s r A v u a W) (n : Int) : Calls Try.prog 23 #[.pointer (some ⟨r, 0, none⟩), .int .i64 n] W fun e w' => e = .returned (.int .i64 (u.use n).1) ∧ Pta w s r A v (u.use n).2 a w' :=
  (ruse_c r u n W h.q).mono (by rintro e w' ⟨rfl, hr, ht⟩; exact ⟨rfl, h.right ht hr (u.use_ok n h.uo)⟩)
theorem Pta.upd (h : Pta w s r A v u a W) : Calls Try.prog 24 #[.pointer (some ⟨s, 0, none⟩)] W fun e w' => e = .returned (.tuple #[.int .i64 v.upd.1, .bool v.upd.2.1]) ∧ Pta w s r A v.upd.2.2 u a w' :=
  (update_c s v W h.p h.vo).mono (by rintro e w' ⟨rfl, hr, ht⟩; exact ⟨rfl, h.left ht hr (v.upd_ok h.vo)⟩)
theorem Pta.rupd (h : Pta w s r A v u a W) : Calls Try.prog 25 #[.pointer (some ⟨r, 0, none⟩)] W fun e w' => e = .returned (.tuple #[.int .i64 u.upd.1, .bool u.upd.2.1]) ∧ Pta w s r A v u.upd.2.2 a w' :=
  (rupdate_c r u W h.q h.uo).mono (by rintro e w' ⟨rfl, hr, ht⟩; exact ⟨rfl, h.right ht hr (u.upd_ok h.uo)⟩)
end
theorem names_c (w : World) : Calls Try.prog 10 #[] w fun e w' => e = .returned (.bool true) ∧ w' = w := by
  go_enter Try.func10, Try.ntmps10
  go_wp2
  go_ret
  exact ⟨rfl, rfl⟩
set_option maxRecDepth 100000 in
theorem gets_no (m : Int) (la : Option Addr) (cap n : Nat) (w : World) (h : mayt m = false) :
    Calls Try.prog 4 #[.int .i64 m, .slice la n cap] w fun e w' => e = .returned (.bool true) ∧ Below w.heap.size w w' := by
  have h1 := newt_no m w h
  have h2 := rnewt_no m w h
  have h3 := names_c w
  clear h
  go_enter Try.func4, Try.ntmps4
  go_wp2_with fail
  refine h1.mono ?_
  rintro e w1 ⟨rfl, hw⟩
  subst w1
  go_wp2_with fail
  refine h2.mono ?_
  rintro e w1 ⟨rfl, hw⟩
  subst w1
  go_wp2_with fail
  refine h3.mono ?_
  rintro e w1 ⟨rfl, hw⟩
  subst w1
  go_wp2
  refine wp_loop_rounds 1 ?_
  rw [rounds_succ]
  go_wp2
  all_goals
    go_ret
    exact ⟨rfl, Below.refl _ _⟩
set_option maxRecDepth 100000 in
set_option maxHeartbeats 2000000 in
theorem gets_yes (m : Int) (la : Option Addr) (cap : Nat) (l : List Ac) (w : World) (hl : Acs w la l) (hsz : l.length ≤ 1000000000000000) (h : mayt m = true) :
    Calls Try.prog 4 #[.int .i64 m, .slice la l.length cap] w fun e w' => e = .returned (.bool true) ∧ Below w.heap.size w w' := by
  have HL : Aside (Acs w la l) := hl
  clear hl
  obtain ⟨N, hN⟩ : ∃ N, l.length = N := ⟨_, rfl⟩
  rw [hN] at hsz ⊢
  have HN : Aside (l.length = N) := hN
  clear hN
  have h1 := newt_c m w h
  have HR : Aside (∀ X, Calls Try.prog 19 #[.int .i64 m] X fun e w' => e = .returned (.tuple #[.pointer (some ⟨X.heap.size, 0, none⟩), .int .i64 0]) ∧ Rt 51 (tv0 m).r w' X.heap.size ∧ Below X.heap.size X w') := fun X => rnewt_c m X h
  have HO : Aside (tv0 m).ok := tv0_ok h
  clear h
  generalize tv0 m = v0 at *
  go_enter Try.func4, Try.ntmps4
  go_wp2_with fail
  refine h1.mono ?_
  rintro e w1 ⟨rfl, hr1, hb1⟩
  have h2 := HR.out w1
  have HR1 : Aside (Rt 56 v0.p w1 w.heap.size) := hr1
  have HB1 : Aside (Below w.heap.size w w1) := hb1
  clear hr1 hb1 h1 HR
  go_wp2_with fail
  refine h2.mono ?_
  rintro e w2 ⟨rfl, hr2, hb2⟩
  have HP : Aside (Pt w w.heap.size w1.heap.size v0 w2) := ⟨HR1.out.below hb2, hr2, HO.out, by have := HR1.out.lt; omega, Nat.le_refl _, HB1.out.size, HB1.out.trans (hb2.mono HB1.out.size)⟩
  clear hr2 hb2 h2 HR1 HB1
  generalize hs : w.heap.size = s at HP ⊢
  generalize w1.heap.size = r at HP ⊢
  have h3 := names_c w2
  go_wp2_with fail
  refine h3.mono ?_
  rintro e w3 ⟨rfl, hw⟩
  subst w3
  clear h3
  go_wp2
  go_loopg [9] (N + 1) (fun kx s9 wr => ∃ (i : Nat) (v : Tv), s9 = .int .i64 (i : Int) ∧ i ≤ N ∧ N + 1 - i ≤ kx ∧ Aside (Pt w s r v wr))
  case atStart => exact ⟨0, v0, rfl, by omega, by omega, HP.out⟩
  case round =>
    obtain ⟨i, v, rfl, hi, hk, HQ⟩ := hrel
    clear HP HO
    have c1 : (i : Int) ≤ (N : Int) := by omega
    by_cases hlt : i < N
    rotate_left
    · obtain rfl : i = N := by omega
      have HB : Aside (Below w.heap.size w wr) := HQ.out.b
      clear hlt
      go_wp2
      go_ret
      exact ⟨rfl, HB.out⟩
    · have c2 : ¬ (i : Int) = (N : Int) := by omega
      have c3 : (i : Int) < (N : Int) := by omega
      have n7 : IntKind.i64.wrap ((i : Int) + 1) = (i : Int) + 1 := wrp _ (by omega) (by omega)
      obtain ⟨ba, off, hla, qc, hwf⟩ := HL.out i (by rw [HN.out]; exact hlt)
      subst hla
      generalize (l[i]'(by rw [HN.out]; exact hlt)) = a at qc hwf
      have hBw : Below w.heap.size w wr := HQ.out.b
      have lb : ba < w.heap.size := World.block_lt_of_cell? _ _ (qc 0 (by omega))
      have q0 : wr.cell? ⟨ba, off + i * 2, none⟩ = some (.int .i64 a.k) := (hBw.cell (p := ⟨ba, off + i * 2, none⟩) lb).trans (qc 0 (by omega))
      have q1 : wr.cell? ⟨ba, off + i * 2 + 1, none⟩ = some (.int .i64 a.n) := (hBw.cell (p := ⟨ba, off + i * 2 + 1, none⟩) lb).trans (qc 1 (by omega))
      have P2 : Aside (Pta w s r wr.heap.size v v a (wr.alloc (.cells a.cs.toArray 32))) := HQ.out.act a
      obtain ⟨W0, hW0⟩ : ∃ W0, wr.alloc (.cells #[.int .i64 a.k, .int .i64 a.n] 32) = W0 := ⟨_, rfl⟩
      have hW0' : wr.alloc (.cells a.cs.toArray 32) = W0 := hW0
      rw [hW0'] at P2
      clear hW0' qc hBw lb HQ hwf
      generalize hA : wr.heap.size = A at P2
      obtain ⟨kk, n⟩ := a
      dsimp only at q0 q1 hW0
      obtain ⟨x0, x1⟩ := P2.out.cells
      dsimp only at x0 x1
      by_cases k0 : kk = 0
      · subst k0
        have P2d : Aside (Pta w s r A v v ⟨0, n⟩ W0.drew) := P2.out.bl (Below.refl _ _).drew
        have HA : Aside (∀ X u, Pta w s r A v u ⟨0, n⟩ X → Calls Try.prog 20 #[.pointer (some ⟨s, 0, none⟩), .int .i64 n] X fun e w' => e = .returned (.int .i64 (v.tak n).1) ∧ Pta w s r A (v.tak n).2 u ⟨0, n⟩ w') := fun X u h => h.tak n
        have HB : Aside (∀ X u, Pta w s r A u v ⟨0, n⟩ X → Calls Try.prog 21 #[.pointer (some ⟨r, 0, none⟩), .int .i64 n] X fun e w' => e = .returned (.int .i64 (v.tak n).1) ∧ Pta w s r A u (v.tak n).2 ⟨0, n⟩ w') := fun X u h => h.rtak n
        generalize v.tak n = sn at *
        obtain ⟨E', v'⟩ := sn
        dsimp only at HA HB
        go_wp2_with fail
        clear q0 q1 hW0
        go_region_held3 (fun w' => w'.cell? ⟨A, 1, none⟩ = some (.int .i64 n)) (first | exact (Pta.cells HP5.out).2 | exact (Pta.cells HP4.out).2 | exact (Pta.cells P2d.out).2) (first
          | (go_at_call 21; refine Calls.mono (HB.out _ _ HP4.out) ?_; rintro e w5 ⟨rfl, hp⟩; have HP5 : Aside (Pta w s r A v' v' ⟨0, n⟩ w5) := hp; clear hp)
          | (go_at_call 20; refine Calls.mono (HA.out _ _ P2d.out) ?_; rintro e w4 ⟨rfl, hp⟩; have HP4 : Aside (Pta w s r A v' v ⟨0, n⟩ w4) := hp; clear hp))
        have HE : Aside (Pt w s r v' w5) := HP5.out.pw
        clear x0 x1 HA HB
        generalize w5 = wE at HE ⊢
        have h9 := told_c s v' _ HE.out.p
        have HEd : Aside (Pt w s r v' wE.drew) := HE.out.bl (Below.refl _ _).drew
        have HEe : Aside (Pt w s r v' wE.drew.drew) := HEd.out.bl (Below.refl _ _).drew
        have z0 : wE.drew.cell? ⟨r, 1, none⟩ = some (.int .i64 v'.l) := HEd.out.q.cell 1
        have z1 : wE.drew.cell? ⟨r, 2, none⟩ = some (.int .i64 v'.c) := HEd.out.q.cell 2
        have z2 : wE.drew.cell? ⟨r, 3, none⟩ = some (.int .i64 v'.u) := HEd.out.q.cell 3
        generalize hLL : v'.l = LL at *
        generalize hCC : v'.c = CC at *
        generalize hUU : v'.u = UU at *
        go_wp2_with fail
        refine h9.mono ?_
        rintro e w9 ⟨rfl, hw9⟩
        subst w9
        clear h9 hLL hCC hUU
        go_wp2
        go_roundg (N + 1 - (i + 1))
        case measure => omega
        case rel => exact ⟨i + 1, v', rfl, by omega, Nat.le_refl _, by first | exact HEe.out | exact HEd.out⟩
      by_cases k1 : kk = 1
      · subst k1
        have P2d : Aside (Pta w s r A v v ⟨1, n⟩ W0.drew) := P2.out.bl (Below.refl _ _).drew
        have HA : Aside (∀ X u, Pta w s r A v u ⟨1, n⟩ X → Calls Try.prog 22 #[.pointer (some ⟨s, 0, none⟩), .int .i64 n] X fun e w' => e = .returned (.int .i64 (v.use n).1) ∧ Pta w s r A (v.use n).2 u ⟨1, n⟩ w') := fun X u h => h.use n
        have HB : Aside (∀ X u, Pta w s r A u v ⟨1, n⟩ X → Calls Try.prog 23 #[.pointer (some ⟨r, 0, none⟩), .int .i64 n] X fun e w' => e = .returned (.int .i64 (v.use n).1) ∧ Pta w s r A u (v.use n).2 ⟨1, n⟩ w') := fun X u h => h.ruse n
        generalize v.use n = sn at *
        obtain ⟨E', v'⟩ := sn
        dsimp only at HA HB
        go_wp2_with fail
        clear q0 q1 hW0
        go_region_held3 (fun w' => w'.cell? ⟨A, 1, none⟩ = some (.int .i64 n)) (first | exact (Pta.cells HP5.out).2 | exact (Pta.cells HP4.out).2 | exact (Pta.cells P2d.out).2) (first
          | (go_at_call 23; refine Calls.mono (HB.out _ _ HP4.out) ?_; rintro e w5 ⟨rfl, hp⟩; have HP5 : Aside (Pta w s r A v' v' ⟨1, n⟩ w5) := hp; clear hp)
          | (go_at_call 22; refine Calls.mono (HA.out _ _ P2d.out) ?_; rintro e w4 ⟨rfl, hp⟩; have HP4 : Aside (Pta w s r A v' v ⟨1, n⟩ w4) := hp; clear hp))
        have HE : Aside (Pt w s r v' w5) := HP5.out.pw
        clear x0 x1 HA HB
        generalize w5 = wE at HE ⊢
        have h9 := told_c s v' _ HE.out.p
        have HEd : Aside (Pt w s r v' wE.drew) := HE.out.bl (Below.refl _ _).drew
        have HEe : Aside (Pt w s r v' wE.drew.drew) := HEd.out.bl (Below.refl _ _).drew
        have z0 : wE.drew.cell? ⟨r, 1, none⟩ = some (.int .i64 v'.l) := HEd.out.q.cell 1
        have z1 : wE.drew.cell? ⟨r, 2, none⟩ = some (.int .i64 v'.c) := HEd.out.q.cell 2
        have z2 : wE.drew.cell? ⟨r, 3, none⟩ = some (.int .i64 v'.u) := HEd.out.q.cell 3
        generalize hLL : v'.l = LL at *
        generalize hCC : v'.c = CC at *
        generalize hUU : v'.u = UU at *
        go_wp2_with fail
        refine h9.mono ?_
        rintro e w9 ⟨rfl, hw9⟩
        subst w9
        clear h9 hLL hCC hUU
        go_wp2
        go_roundg (N + 1 - (i + 1))
        case measure => omega
        case rel => exact ⟨i + 1, v', rfl, by omega, Nat.le_refl _, by first | exact HEe.out | exact HEd.out⟩
      by_cases k2 : kk = 2
      · subst k2
        have h1 := P2.out.upd
        have HRA : Aside (∀ X u, Pta w s r A u v ⟨2, n⟩ X → Calls Try.prog 25 #[.pointer (some ⟨r, 0, none⟩)] X fun e w' => e = .returned (.tuple #[.int .i64 v.upd.1, .bool v.upd.2.1]) ∧ Pta w s r A u v.upd.2.2 ⟨2, n⟩ w') := fun X u h => h.rupd
        generalize v.upd = sn at *
        obtain ⟨cb, E', v'⟩ := sn
        dsimp only at h1 HRA
        go_wp2_with fail
        refine h1.mono ?_
        rintro e w4 ⟨rfl, hp⟩
        have h2 := HRA.out _ _ hp
        clear x0 x1 h1 hp q0 q1 hW0 HRA
        go_wp2_with fail
        refine h2.mono ?_
        rintro e w5 ⟨rfl, hp⟩
        have HP5 : Aside (Pta w s r A v' v' ⟨2, n⟩ w5) := hp
        clear h2 hp
        have HE : Aside (Pt w s r v' w5) := HP5.out.pw
        generalize w5 = wE at HE ⊢
        have h9 := told_c s v' _ HE.out.p
        have HEd : Aside (Pt w s r v' wE.drew) := HE.out.bl (Below.refl _ _).drew
        have HEe : Aside (Pt w s r v' wE.drew.drew) := HEd.out.bl (Below.refl _ _).drew
        have z0 : wE.drew.cell? ⟨r, 1, none⟩ = some (.int .i64 v'.l) := HEd.out.q.cell 1
        have z1 : wE.drew.cell? ⟨r, 2, none⟩ = some (.int .i64 v'.c) := HEd.out.q.cell 2
        have z2 : wE.drew.cell? ⟨r, 3, none⟩ = some (.int .i64 v'.u) := HEd.out.q.cell 3
        generalize hLL : v'.l = LL at *
        generalize hCC : v'.c = CC at *
        generalize hUU : v'.u = UU at *
        go_wp2_with fail
        refine h9.mono ?_
        rintro e w9 ⟨rfl, hw9⟩
        subst w9
        clear h9 hLL hCC hUU
        go_wp2
        go_roundg (N + 1 - (i + 1))
        case measure => omega
        case rel => exact ⟨i + 1, v', rfl, by omega, Nat.le_refl _, by first | exact HEe.out | exact HEd.out⟩
      · go_wp2_with fail
        clear q0 q1 hW0 x0 x1
        have HE : Aside (Pt w s r v W0) := P2.out.pw
        generalize W0 = wE at HE ⊢
        have h9 := told_c s v _ HE.out.p
        have HEd : Aside (Pt w s r v wE.drew) := HE.out.bl (Below.refl _ _).drew
        have HEe : Aside (Pt w s r v wE.drew.drew) := HEd.out.bl (Below.refl _ _).drew
        have z0 : wE.drew.cell? ⟨r, 1, none⟩ = some (.int .i64 v.l) := HEd.out.q.cell 1
        have z1 : wE.drew.cell? ⟨r, 2, none⟩ = some (.int .i64 v.c) := HEd.out.q.cell 2
        have z2 : wE.drew.cell? ⟨r, 3, none⟩ = some (.int .i64 v.u) := HEd.out.q.cell 3
        generalize hLL : v.l = LL at *
        generalize hCC : v.c = CC at *
        generalize hUU : v.u = UU at *
        go_wp2_with fail
        refine h9.mono ?_
        rintro e w9 ⟨rfl, hw9⟩
        subst w9
        clear h9 hLL hCC hUU
        go_wp2
        go_roundg (N + 1 - (i + 1))
        case measure => omega
        case rel => exact ⟨i + 1, v, rfl, by omega, Nat.le_refl _, by first | exact HEe.out | exact HEd.out⟩
theorem gets_walk (m : Int) (la : Option Addr) (cap : Nat) (l : List Ac) (w : World) (hl : Acs w la l) (hsz : l.length ≤ 1000000000000000) :
    Calls Try.prog 4 #[.int .i64 m, .slice la l.length cap] w fun e w' => e = .returned (.bool true) ∧ Below w.heap.size w w' := by
  cases h : mayt m
  · exact gets_no m la cap l.length w h
  · exact gets_yes m la cap l w hl hsz h
end Go.Proofs.Ytdfpfecjlpgfaaa
