/- CubicPlays: the window and the reference's side by side; the walk. -/
import Derived.Test.YtphkgijimbkgeaaRa
import Derived.Test.YtphkgijimbkgeaaOpen
namespace Go.Proofs.Ytphkgijimbkgeaa
open Go.RowKit
set_option linter.unusedVariables false

/-- Both windows: the program's v in block s, the reference's u in block r; an act in block A. -/
structure Pa (w : World) (s r A : Nat) (v u : Wv) (a : Ac) (W : World) : Prop where
  p : Rt 45 W s v
  q : Rt 34 W r u
  vo : v.ok
  uo : u.ok
  ne : s ≠ r
  s0 : w.heap.size ≤ s
  r0 : w.heap.size ≤ r
  h : W.heap[A]? = some (.cells a.cs.toArray 36 (0, 0))
  ns : A ≠ s
  nr : A ≠ r
  b : Below w.heap.size w W
/-- Both windows, between two rounds. -/
structure Pw (w : World) (s r : Nat) (v : Wv) (W : World) : Prop where
  p : Rt 45 W s v
  q : Rt 34 W r v
  vo : v.ok
  ne : s ≠ r
  s0 : w.heap.size ≤ s
  r0 : w.heap.size ≤ r
  b : Below w.heap.size w W
theorem Pw.told {w : World} {s r : Nat} {v : Wv} {W : World} (h : Pw w s r v W) : Calls Try.prog 11 #[.pointer (some ⟨s, 0, none⟩)] W fun e w' => e = .returned (.tuple #[.int .i64 v.b, .int .i64 v.s, .int .i64 v.r]) ∧ Pw w s r v w' :=
  (told_c s v W h.p h.vo).mono (by rintro e w' ⟨rfl, hb⟩; exact ⟨rfl, h.p.below hb, h.q.below hb, h.vo, h.ne, h.s0, h.r0, h.b.trans (hb.mono h.b.size)⟩)
theorem Pw.act {w : World} {s r : Nat} {v : Wv} {W : World} (h : Pw w s r v W) (a : Ac) : Pa w s r W.heap.size v v a (W.alloc (.cells a.cs.toArray 36)) :=
  ⟨h.p.below (bel1 W _), h.q.below (bel1 W _), h.vo, h.vo, h.ne, h.s0, h.r0, heap_alloc_new W _, by have := h.p.lt; omega, by have := h.q.lt; omega, h.b.trans ((bel1 W _).mono h.b.size)⟩
theorem Pa.pw {w : World} {s r A : Nat} {v : Wv} {a : Ac} {W : World} (h : Pa w s r A v v a W) : Pw w s r v W := ⟨h.p, h.q, h.vo, h.ne, h.s0, h.r0, h.b⟩
theorem Pa.cells {w : World} {s r A : Nat} {v u : Wv} {a : Ac} {W : World} (h : Pa w s r A v u a W) : W.cell? ⟨A, 0, none⟩ = some (.int .i64 a.k) ∧ W.cell? ⟨A, 1, none⟩ = some (.int .i64 a.n) ∧ W.cell? ⟨A, 2, none⟩ = some (.int .i64 a.s) ∧ W.cell? ⟨A, 3, none⟩ = some (.int .i64 a.t) ∧ W.cell? ⟨A, 4, none⟩ = some (.int .i64 a.r) ∧ W.cell? ⟨A, 5, none⟩ = some (.bool a.f) := by
  have h' := h.h
  refine ⟨?_, ?_, ?_, ?_, ?_, ?_⟩ <;> simp [World.cell?, h', Ac.cs]
theorem Pa.bl {w : World} {s r A : Nat} {v u : Wv} {a : Ac} {W W' : World} (h : Pa w s r A v u a W) (hb : Below W.heap.size W W') : Pa w s r A v u a W' :=
  ⟨h.p.below hb, h.q.below hb, h.vo, h.uo, h.ne, h.s0, h.r0, (hb.block A (Array.getElem?_eq_some_iff.1 h.h).1).trans h.h, h.ns, h.nr, h.b.trans (hb.mono h.b.size)⟩
theorem Pa.left {w : World} {s r A : Nat} {v v' u : Wv} {a : Ac} {W W' : World} (h : Pa w s r A v u a W) (ht : Tn s W W') (hr : Rt 45 W' s v') (ho : v'.ok) : Pa w s r A v' u a W' :=
  ⟨hr, ht.rt h.q (fun e => h.ne e.symm), ho, h.uo, h.ne, h.s0, h.r0, (ht.2.2.2.2 A (Array.getElem?_eq_some_iff.1 h.h).1 h.ns).trans h.h, h.ns, h.nr, h.b.trans (ht.toBelow h.b.size h.s0)⟩
theorem Pa.right {w : World} {s r A : Nat} {v u u' : Wv} {a : Ac} {W W' : World} (h : Pa w s r A v u a W) (ht : Tn r W W') (hr : Rt 34 W' r u') (ho : u'.ok) : Pa w s r A v u' a W' :=
  ⟨ht.rt h.p h.ne, hr, h.vo, ho, h.ne, h.s0, h.r0, (ht.2.2.2.2 A (Array.getElem?_eq_some_iff.1 h.h).1 h.nr).trans h.h, h.ns, h.nr, h.b.trans (ht.toBelow h.b.size h.r0)⟩
theorem Pa.acked {w : World} {s r A : Nat} {v u : Wv} {a : Ac} {W : World} (h : Pa w s r A v u a W) (n x t y : Int) (f : Bool) : Calls Try.prog 12 #[.pointer (some ⟨s, 0, none⟩), .int .i64 n, .int .i64 x, .int .i64 t, .int .i64 y, .bool f] W fun e w' => e = .returned (.int .i64 (v.acked n x t y f).1) ∧ Pa w s r A (v.acked n x t y f).2 u a w' :=
  (acked_c s v n x t y f W h.p h.vo).mono (by rintro e w' ⟨rfl, hr, ht⟩; exact ⟨rfl, h.left ht hr (v.acked_ok n x t y f h.vo)⟩)
theorem Pa.racked {w : World} {s r A : Nat} {v u : Wv} {a : Ac} {W : World} (h : Pa w s r A v u a W) (n x t y : Int) (f : Bool) : Calls Try.prog 13 #[.pointer (some ⟨r, 0, none⟩), .int .i64 n, .int .i64 x, .int .i64 t, .int .i64 y, .bool f] W fun e w' => e = .returned (.int .i64 (u.acked n x t y f).1) ∧ Pa w s r A v (u.acked n x t y f).2 a w' :=
  (racked_c r u n x t y f W h.q h.uo).mono (by rintro e w' ⟨rfl, hr, ht⟩; exact ⟨rfl, h.right ht hr (u.acked_ok n x t y f h.uo)⟩)
theorem Pa.lost {w : World} {s r A : Nat} {v u : Wv} {a : Ac} {W : World} (h : Pa w s r A v u a W) (x t : Int) : Calls Try.prog 14 #[.pointer (some ⟨s, 0, none⟩), .int .i64 x, .int .i64 t] W fun e w' => e = .returned (.int .i64 (v.lost x t).1) ∧ Pa w s r A (v.lost x t).2 u a w' :=
  (lost_c s v x t W h.p h.vo).mono (by rintro e w' ⟨rfl, hr, ht⟩; exact ⟨rfl, h.left ht hr (v.lost_ok x t h.vo)⟩)
theorem Pa.rlost {w : World} {s r A : Nat} {v u : Wv} {a : Ac} {W : World} (h : Pa w s r A v u a W) (x t : Int) : Calls Try.prog 15 #[.pointer (some ⟨r, 0, none⟩), .int .i64 x, .int .i64 t] W fun e w' => e = .returned (.int .i64 (u.lost x t).1) ∧ Pa w s r A v (u.lost x t).2 a w' :=
  (rlost_c r u x t W h.q h.uo).mono (by rintro e w' ⟨rfl, hr, ht⟩; exact ⟨rfl, h.right ht hr (u.lost_ok x t h.uo)⟩)
theorem Pa.coll {w : World} {s r A : Nat} {v u : Wv} {a : Ac} {W : World} (h : Pa w s r A v u a W) : Calls Try.prog 16 #[.pointer (some ⟨s, 0, none⟩)] W fun e w' => e = .returned (.tuple #[]) ∧ Pa w s r A v.coll u a w' :=
  (collapse_c s v W h.p h.vo).mono (by rintro e w' ⟨rfl, hr, ht⟩; exact ⟨rfl, h.left ht hr (v.coll_ok h.vo)⟩)
theorem Pa.rcoll {w : World} {s r A : Nat} {v u : Wv} {a : Ac} {W : World} (h : Pa w s r A v u a W) : Calls Try.prog 17 #[.pointer (some ⟨r, 0, none⟩)] W fun e w' => e = .returned (.tuple #[]) ∧ Pa w s r A v u.coll a w' :=
  (rcollapse_c r u W h.q h.uo).mono (by rintro e w' ⟨rfl, hr, ht⟩; exact ⟨rfl, h.right ht hr (u.coll_ok h.uo)⟩)

set_option maxRecDepth 100000 in
set_option maxHeartbeats 2000000 in
theorem plays_walk (k z : Int) (la : Option Addr) (cap : Nat) (l : List Ac) (w : World) (hl : Acs w la l) (hsz : l.length ≤ 1000000000000000) :
    Calls Try.prog 3 #[.int .i64 k, .int .i64 z, .slice la l.length cap] w fun e w' => e = .returned (.bool true) ∧ Below w.heap.size w w' := by
  have HL : Aside (Acs w la l) := hl
  clear hl
  obtain ⟨N, hN⟩ : ∃ N, l.length = N := ⟨_, rfl⟩
  rw [hN] at hsz ⊢
  have HN : Aside _ := hN
  clear hN
  by_cases hm : (k = 0 ∨ k = 1) ∧ 1200 ≤ z ∧ z ≤ 65535
  rotate_left
  · have h1 := new_no k z w hm
    have h2 := rnew_no k z w hm
    clear hm
    go_enter Try.func3, Try.ntmps3
    go_wp2_with fail
    refine h1.mono ?_
    rintro e w1 ⟨rfl, hw⟩
    subst w1
    go_wp2_with fail
    refine h2.mono ?_
    rintro e w1 ⟨rfl, hw⟩
    subst w1
    go_wp2_with fail
    refine (names_c w).mono ?_
    rintro e w1 ⟨rfl, hw⟩
    subst w1
    clear h1 h2
    have i0 : (0 : Int) ≤ (N : Int) := by omega
    go_wp2
    refine wp_loop_rounds 1 ?_
    rw [rounds_succ]
    go_wp2
    go_ret
    exact ⟨rfl, Below.refl _ _⟩
  · obtain ⟨hk, hz0, hz1⟩ := hm
    have h1 := new_c k z w hk hz0 hz1
    have hok := wv0_ok k z hk hz0 hz1
    have HR : Aside (∀ X, Calls Try.prog 9 #[.int .i64 k, .int .i64 z] X fun e w' => e = .returned (.tuple #[.pointer (some ⟨X.heap.size, 0, none⟩), .int .i64 0]) ∧ Rt 34 w' X.heap.size (wv0 k z) ∧ Below X.heap.size X w') := fun X => rnew_c k z X hk hz0 hz1
    clear hk hz0 hz1
    go_enter Try.func3, Try.ntmps3
    go_wp2_with fail
    refine h1.mono ?_
    rintro e w1 ⟨rfl, hr1, hb1⟩
    have h2 := HR.out w1
    have HR1 : Aside (Rt 45 w1 w.heap.size (wv0 k z)) := hr1
    have HB1 : Aside (Below w.heap.size w w1) := hb1
    clear hr1 hb1 h1 HR
    go_wp2_with fail
    refine h2.mono ?_
    rintro e w2 ⟨rfl, hr2, hb2⟩
    have HP : Aside (Pw w w.heap.size w1.heap.size (wv0 k z) w2) := ⟨HR1.out.below hb2, hr2, hok, by have := HR1.out.lt; omega, Nat.le_refl _, HB1.out.size, HB1.out.trans (hb2.mono HB1.out.size)⟩
    clear hr2 hb2 h2 HR1 HB1 hok
    generalize wv0 k z = v0 at *
    generalize hs : w.heap.size = s at HP ⊢
    generalize w1.heap.size = r at HP ⊢
    go_wp2_with fail
    refine (names_c w2).mono ?_
    rintro e w3 ⟨rfl, hw3⟩
    subst w3
    go_wp2
    go_loopg [11] (N + 1) (fun kx s11 wr => ∃ (i : Nat) (v : Wv), s11 = .int .i64 (i : Int) ∧ i ≤ N ∧ N + 1 - i ≤ kx ∧ Aside (Pw w s r v wr))
    case atStart => exact ⟨0, _, rfl, by omega, by omega, HP.out⟩
    case round =>
      obtain ⟨i, v, rfl, hi, hk, HQ⟩ := hrel
      clear HP
      have c1 : (i : Int) ≤ (N : Int) := by omega
      have h1 := Pw.told HQ.out
      go_wp2_with fail
      refine h1.mono ?_
      rintro e u1 ⟨rfl, hp⟩
      obtain ⟨e0, e1, e2, e3, e4, e5, e6, e7, e8⟩ := hp.q.cells
      have P1 : Aside (Pw w s r v u1) := hp
      clear hp h1 HQ e0 e1 e5 e6 e7 e8
      by_cases hlt : i < N
      rotate_left
      · obtain rfl : i = N := by omega
        have HB : Aside (Below w.heap.size w u1) := P1.out.b
        go_wp2
        go_ret
        exact ⟨rfl, HB.out⟩
      · have c2 : ¬ (i : Int) = (N : Int) := by omega
        have c3 : (i : Int) < (N : Int) := by omega
        have n7 : IntKind.i64.wrap ((i : Int) + 1) = (i : Int) + 1 := wrp _ (by omega) (by omega)
        obtain ⟨ba, off, hla, qc, -⟩ := HL.out i (by rw [HN.out]; exact hlt)
        subst hla
        generalize (l[i]'(by rw [HN.out]; exact hlt)) = a at qc
        have hBw : Below w.heap.size w u1 := P1.out.b
        have lb : ba < w.heap.size := World.block_lt_of_cell? _ _ (qc 0 (by omega))
        have q0 : u1.cell? ⟨ba, off + i * 6, none⟩ = some (.int .i64 a.k) := (hBw.cell (p := ⟨ba, off + i * 6, none⟩) lb).trans (qc 0 (by omega))
        have q1 : u1.cell? ⟨ba, off + i * 6 + 1, none⟩ = some (.int .i64 a.n) := (hBw.cell (p := ⟨ba, off + i * 6 + 1, none⟩) lb).trans (qc 1 (by omega))
        have q2 : u1.cell? ⟨ba, off + i * 6 + 2, none⟩ = some (.int .i64 a.s) := (hBw.cell (p := ⟨ba, off + i * 6 + 2, none⟩) lb).trans (qc 2 (by omega))
        have q3 : u1.cell? ⟨ba, off + i * 6 + 3, none⟩ = some (.int .i64 a.t) := (hBw.cell (p := ⟨ba, off + i * 6 + 3, none⟩) lb).trans (qc 3 (by omega))
        have q4 : u1.cell? ⟨ba, off + i * 6 + 4, none⟩ = some (.int .i64 a.r) := (hBw.cell (p := ⟨ba, off + i * 6 + 4, none⟩) lb).trans (qc 4 (by omega))
        have q5 : u1.cell? ⟨ba, off + i * 6 + 5, none⟩ = some (.bool a.f) := (hBw.cell (p := ⟨ba, off + i * 6 + 5, none⟩) lb).trans (qc 5 (by omega))
        have P2 : Aside (Pa w s r u1.heap.size v v a (u1.alloc (.cells a.cs.toArray 36))) := P1.out.act a
        obtain ⟨W0, hW0⟩ : ∃ W0, u1.alloc (.cells #[.int .i64 a.k, .int .i64 a.n, .int .i64 a.s, .int .i64 a.t, .int .i64 a.r, .bool a.f] 36) = W0 := ⟨_, rfl⟩
        have hW0' : u1.alloc (.cells a.cs.toArray 36) = W0 := hW0
        rw [hW0'] at P2
        clear hW0' qc hBw lb P1
        generalize hA : u1.heap.size = A at P2
        obtain ⟨kk, n, x, t, y, f⟩ := a
        dsimp only at q0 q1 q2 q3 q4 q5 hW0
        obtain ⟨x0, x1, x2, x3, x4, x5⟩ := P2.out.cells
        dsimp only at x0 x1 x2 x3 x4 x5
        have P2d : Aside (Pa w s r A v v ⟨kk, n, x, t, y, f⟩ W0.drew) := P2.out.bl (Below.refl _ _).drew
        by_cases k0 : kk = 0
        · subst k0
          have HA : Aside (∀ X u, Pa w s r A v u ⟨0, n, x, t, y, f⟩ X → Calls Try.prog 12 #[.pointer (some ⟨s, 0, none⟩), .int .i64 n, .int .i64 x, .int .i64 t, .int .i64 y, .bool f] X fun e w' => e = .returned (.int .i64 (v.acked n x t y f).1) ∧ Pa w s r A (v.acked n x t y f).2 u ⟨0, n, x, t, y, f⟩ w') := fun X u h => h.acked n x t y f
          have HB : Aside (∀ X u, Pa w s r A u v ⟨0, n, x, t, y, f⟩ X → Calls Try.prog 13 #[.pointer (some ⟨r, 0, none⟩), .int .i64 n, .int .i64 x, .int .i64 t, .int .i64 y, .bool f] X fun e w' => e = .returned (.int .i64 (v.acked n x t y f).1) ∧ Pa w s r A u (v.acked n x t y f).2 ⟨0, n, x, t, y, f⟩ w') := fun X u h => h.racked n x t y f
          generalize (v.acked n x t y f).1 = E' at HA HB
          generalize (v.acked n x t y f).2 = v' at HA HB
          go_wp2_with fail
          clear q0 q1 q2 q3 q4 q5 hW0 e2 e3 e4
          go_region_held3 (fun w' => w'.cell? ⟨A, 1, none⟩ = some (.int .i64 n) ∧ w'.cell? ⟨A, 2, none⟩ = some (.int .i64 x) ∧ w'.cell? ⟨A, 3, none⟩ = some (.int .i64 t) ∧ w'.cell? ⟨A, 4, none⟩ = some (.int .i64 y) ∧ w'.cell? ⟨A, 5, none⟩ = some (.bool f)) (first | exact (Pa.cells HP5.out).2 | exact (Pa.cells HP4.out).2 | exact (Pa.cells P2d.out).2) (first
            | (go_at_call 13; refine Calls.mono (HB.out _ _ HP4.out) ?_; rintro e w5 ⟨rfl, hp⟩; have HP5 : Aside (Pa w s r A v' v' ⟨0, n, x, t, y, f⟩ w5) := hp; clear hp)
            | (go_at_call 12; refine Calls.mono (HA.out _ _ P2d.out) ?_; rintro e w4 ⟨rfl, hp⟩; have HP4 : Aside (Pa w s r A v' v ⟨0, n, x, t, y, f⟩ w4) := hp; clear hp))
          go_wp2
          go_roundg (N + 1 - (i + 1))
          case measure => omega
          case rel => exact ⟨i + 1, v', rfl, by omega, Nat.le_refl _, HP5.out.pw⟩
        by_cases k1 : kk = 1
        · subst k1
          have HA : Aside (∀ X u, Pa w s r A v u ⟨1, n, x, t, y, f⟩ X → Calls Try.prog 14 #[.pointer (some ⟨s, 0, none⟩), .int .i64 x, .int .i64 t] X fun e w' => e = .returned (.int .i64 (v.lost x t).1) ∧ Pa w s r A (v.lost x t).2 u ⟨1, n, x, t, y, f⟩ w') := fun X u h => h.lost x t
          have HB : Aside (∀ X u, Pa w s r A u v ⟨1, n, x, t, y, f⟩ X → Calls Try.prog 15 #[.pointer (some ⟨r, 0, none⟩), .int .i64 x, .int .i64 t] X fun e w' => e = .returned (.int .i64 (v.lost x t).1) ∧ Pa w s r A u (v.lost x t).2 ⟨1, n, x, t, y, f⟩ w') := fun X u h => h.rlost x t
          generalize (v.lost x t).1 = E' at HA HB
          generalize (v.lost x t).2 = v' at HA HB
          go_wp2_with fail
          clear q0 q1 q2 q3 q4 q5 hW0 e2 e3 e4
          go_region_held3 (fun w' => w'.cell? ⟨A, 2, none⟩ = some (.int .i64 x) ∧ w'.cell? ⟨A, 3, none⟩ = some (.int .i64 t)) (first | exact ⟨(Pa.cells HP5.out).2.2.1, (Pa.cells HP5.out).2.2.2.1⟩ | exact ⟨(Pa.cells HP4.out).2.2.1, (Pa.cells HP4.out).2.2.2.1⟩ | exact ⟨(Pa.cells P2d.out).2.2.1, (Pa.cells P2d.out).2.2.2.1⟩) (first
            | (go_at_call 15; refine Calls.mono (HB.out _ _ HP4.out) ?_; rintro e w5 ⟨rfl, hp⟩; have HP5 : Aside (Pa w s r A v' v' ⟨1, n, x, t, y, f⟩ w5) := hp; clear hp)
            | (go_at_call 14; refine Calls.mono (HA.out _ _ P2d.out) ?_; rintro e w4 ⟨rfl, hp⟩; have HP4 : Aside (Pa w s r A v' v ⟨1, n, x, t, y, f⟩ w4) := hp; clear hp))
          go_wp2
          go_roundg (N + 1 - (i + 1))
          case measure => omega
          case rel => exact ⟨i + 1, v', rfl, by omega, Nat.le_refl _, HP5.out.pw⟩
        by_cases k2 : kk = 2
        · subst k2
          have h1 := P2.out.coll
          go_wp2_with fail
          refine h1.mono ?_
          rintro e w4 ⟨rfl, hp⟩
          have h2 := hp.rcoll
          clear h1 hp q0 q1 q2 q3 q4 q5 hW0 e2 e3 e4
          go_wp2_with fail
          refine h2.mono ?_
          rintro e w5 ⟨rfl, hp⟩
          have HP5 : Aside (Pa w s r A v.coll v.coll ⟨2, n, x, t, y, f⟩ w5) := hp
          clear h2 hp
          go_wp2
          go_roundg (N + 1 - (i + 1))
          case measure => omega
          case rel => exact ⟨i + 1, v.coll, rfl, by omega, Nat.le_refl _, HP5.out.pw⟩
        · go_wp2
          go_roundg (N + 1 - (i + 1))
          case measure => omega
          case rel => exact ⟨i + 1, v, rfl, by omega, Nat.le_refl _, P2.out.pw⟩
end Go.Proofs.Ytphkgijimbkgeaa
