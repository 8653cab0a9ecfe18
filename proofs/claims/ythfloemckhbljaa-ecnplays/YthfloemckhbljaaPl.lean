/- EcnPlays: the validation and the reference's side by side; the walk. -/
import Derived.Test.YthfloemckhbljaaRb
import Derived.Test.YthfloemckhbljaaOpen
namespace Go.Proofs.Ythfloemckhbljaa
open Go.RowKit
set_option linter.unusedVariables false

/-- Both validations: the program's v in block s, the reference's u in block r; an act in block A. -/
structure Pa (w : World) (s r A : Nat) (v u : Ev) (a : Ac) (W : World) : Prop where
  p : Rt 43 W s v
  q : Rt 30 W r u
  vo : v.ok
  uo : u.ok
  ne : s ≠ r
  s0 : w.heap.size ≤ s
  r0 : w.heap.size ≤ r
  h : W.heap[A]? = some (.cells a.cs.toArray 33 (0, 0))
  ns : A ≠ s
  nr : A ≠ r
  b : Below w.heap.size w W
/-- Both validations, between two rounds. -/
structure Pw (w : World) (s r : Nat) (v : Ev) (W : World) : Prop where
  p : Rt 43 W s v
  q : Rt 30 W r v
  vo : v.ok
  ne : s ≠ r
  s0 : w.heap.size ≤ s
  r0 : w.heap.size ≤ r
  b : Below w.heap.size w W
theorem Pw.bl {w : World} {s r : Nat} {v : Ev} {W W' : World} (h : Pw w s r v W) (hb : Below W.heap.size W W') : Pw w s r v W' := ⟨h.p.below hb, h.q.below hb, h.vo, h.ne, h.s0, h.r0, h.b.trans (hb.mono h.b.size)⟩
theorem Pw.act {w : World} {s r : Nat} {v : Ev} {W : World} (h : Pw w s r v W) (a : Ac) : Pa w s r W.heap.size v v a (W.alloc (.cells a.cs.toArray 33)) :=
  ⟨h.p.below (bel1 W _), h.q.below (bel1 W _), h.vo, h.vo, h.ne, h.s0, h.r0, heap_alloc_new W _, by have := h.p.lt; omega, by have := h.q.lt; omega, h.b.trans ((bel1 W _).mono h.b.size)⟩
theorem Pa.pw {w : World} {s r A : Nat} {v : Ev} {a : Ac} {W : World} (h : Pa w s r A v v a W) : Pw w s r v W := ⟨h.p, h.q, h.vo, h.ne, h.s0, h.r0, h.b⟩
theorem Pa.cells {w : World} {s r A : Nat} {v u : Ev} {a : Ac} {W : World} (h : Pa w s r A v u a W) : W.cell? ⟨A, 0, none⟩ = some (.int .i64 a.k) ∧ W.cell? ⟨A, 1, none⟩ = some (.int .i64 a.n) ∧ W.cell? ⟨A, 2, none⟩ = some (.int .i64 a.a) ∧ W.cell? ⟨A, 3, none⟩ = some (.int .i64 a.b) ∧ W.cell? ⟨A, 4, none⟩ = some (.int .i64 a.c) ∧ W.cell? ⟨A, 5, none⟩ = some (.bool a.f) := by
  have h' := h.h
  refine ⟨?_, ?_, ?_, ?_, ?_, ?_⟩ <;> simp [World.cell?, h', Ac.cs]
theorem Pa.bl {w : World} {s r A : Nat} {v u : Ev} {a : Ac} {W W' : World} (h : Pa w s r A v u a W) (hb : Below W.heap.size W W') : Pa w s r A v u a W' :=
  ⟨h.p.below hb, h.q.below hb, h.vo, h.uo, h.ne, h.s0, h.r0, (hb.block A (Array.getElem?_eq_some_iff.1 h.h).1).trans h.h, h.ns, h.nr, h.b.trans (hb.mono h.b.size)⟩
theorem Pa.left {w : World} {s r A : Nat} {v v' u : Ev} {a : Ac} {W W' : World} (h : Pa w s r A v u a W) (ht : Tn s W W') (hr : Rt 43 W' s v') (ho : v'.ok) : Pa w s r A v' u a W' :=
  ⟨hr, ht.rt h.q (fun e => h.ne e.symm), ho, h.uo, h.ne, h.s0, h.r0, (ht.2.2.2.2 A (Array.getElem?_eq_some_iff.1 h.h).1 h.ns).trans h.h, h.ns, h.nr, h.b.trans (ht.toBelow h.b.size h.s0)⟩
theorem Pa.right {w : World} {s r A : Nat} {v u u' : Ev} {a : Ac} {W W' : World} (h : Pa w s r A v u a W) (ht : Tn r W W') (hr : Rt 30 W' r u') (ho : u'.ok) : Pa w s r A v u' a W' :=
  ⟨ht.rt h.p h.ne, hr, h.vo, ho, h.ne, h.s0, h.r0, (ht.2.2.2.2 A (Array.getElem?_eq_some_iff.1 h.h).1 h.nr).trans h.h, h.ns, h.nr, h.b.trans (ht.toBelow h.b.size h.r0)⟩
theorem Pa.sent {w : World} {s r A : Nat} {v u : Ev} {a : Ac} {W : World} (h : Pa w s r A v u a W) (hn : v.n < 4611686018427387904) : Calls Try.prog 11 #[.pointer (some ⟨s, 0, none⟩)] W fun e w' => e = .returned (.bool v.snt.1) ∧ Pa w s r A v.snt.2 u a w' :=
  (sent_c s v W h.p h.vo hn).mono (by rintro e w' ⟨rfl, hr, ht⟩; exact ⟨rfl, h.left ht hr (v.snt_ok h.vo hn)⟩)
theorem Pa.rsend {w : World} {s r A : Nat} {v u : Ev} {a : Ac} {W : World} (h : Pa w s r A v u a W) (hn : u.n < 4611686018427387904) : Calls Try.prog 12 #[.pointer (some ⟨r, 0, none⟩)] W fun e w' => e = .returned (.bool u.snt.1) ∧ Pa w s r A v u.snt.2 a w' :=
  (rsend_c r u W h.q h.uo hn).mono (by rintro e w' ⟨rfl, hr, ht⟩; exact ⟨rfl, h.right ht hr (u.snt_ok h.uo hn)⟩)
theorem Pa.lost {w : World} {s r A : Nat} {v u : Ev} {a : Ac} {W : World} (h : Pa w s r A v u a W) (m : Int) : Calls Try.prog 13 #[.pointer (some ⟨s, 0, none⟩), .int .i64 m] W fun e w' => e = .returned (.int .i64 (v.lst m).1) ∧ Pa w s r A (v.lst m).2 u a w' :=
  (lost_c s v m W h.p h.vo).mono (by rintro e w' ⟨rfl, hr, ht⟩; exact ⟨rfl, h.left ht hr (v.lst_ok m h.vo)⟩)
theorem Pa.rlose {w : World} {s r A : Nat} {v u : Ev} {a : Ac} {W : World} (h : Pa w s r A v u a W) (m : Int) : Calls Try.prog 14 #[.pointer (some ⟨r, 0, none⟩), .int .i64 m] W fun e w' => e = .returned (.int .i64 (u.lst m).1) ∧ Pa w s r A v (u.lst m).2 a w' :=
  (rlose_c r u m W h.q h.uo).mono (by rintro e w' ⟨rfl, hr, ht⟩; exact ⟨rfl, h.right ht hr (u.lst_ok m h.uo)⟩)
theorem Pa.acked {w : World} {s r A : Nat} {v u : Ev} {a : Ac} {W : World} (h : Pa w s r A v u a W) (m x y z : Int) (f : Bool) : Calls Try.prog 15 #[.pointer (some ⟨s, 0, none⟩), .int .i64 m, .agg #[.int .i64 x, .int .i64 y, .int .i64 z], .bool f] W fun e w' => e = .returned (.tuple #[.bool (v.ack m x y z f).1, .int .i64 (v.ack m x y z f).2.1]) ∧ Pa w s r A (v.ack m x y z f).2.2 u a w' :=
  (acked_c s v m x y z f W h.p h.vo).mono (by rintro e w' ⟨rfl, hr, ht⟩; exact ⟨rfl, h.left ht hr (v.ack_ok m x y z f h.vo)⟩)
theorem Pa.racked {w : World} {s r A : Nat} {v u : Ev} {a : Ac} {W : World} (h : Pa w s r A v u a W) (m x y z : Int) (f : Bool) (m0 : -9223372036854775808 ≤ m) (m1 : m ≤ 9223372036854775807) : Calls Try.prog 16 #[.pointer (some ⟨r, 0, none⟩), .int .i64 m, .agg #[.int .i64 x, .int .i64 y, .int .i64 z], .bool f] W fun e w' => e = .returned (.tuple #[.bool (u.ack m x y z f).1, .int .i64 (u.ack m x y z f).2.1]) ∧ Pa w s r A v (u.ack m x y z f).2.2 a w' :=
  (racked_c r u m x y z f W h.q h.uo m0 m1).mono (by rintro e w' ⟨rfl, hr, ht⟩; exact ⟨rfl, h.right ht hr (u.ack_ok m x y z f h.uo)⟩)
theorem names_c (w : World) : Calls Try.prog 10 #[] w fun e w' => e = .returned (.bool true) ∧ w' = w := by
  go_enter Try.func10, Try.ntmps10
  go_wp2
  go_ret
  exact ⟨rfl, rfl⟩

set_option maxRecDepth 100000 in
set_option maxHeartbeats 2000000 in
theorem plays_walk (la : Option Addr) (cap : Nat) (l : List Ac) (w : World) (hl : Acs w la l) (hsz : l.length ≤ 1000000000000000) :
    Calls Try.prog 3 #[.slice la l.length cap] w fun e w' => e = .returned (.bool true) ∧ Below w.heap.size w w' := by
  have HL : Aside (Acs w la l) := hl
  clear hl
  obtain ⟨N, hN⟩ : ∃ N, l.length = N := ⟨_, rfl⟩
  rw [hN] at hsz ⊢
  have HN : Aside (l.length = N) := hN
  clear hN
  have h1 := new_c w
  have HR : Aside (∀ X, Calls Try.prog 8 #[] X fun e w' => e = .returned (.pointer (some ⟨X.heap.size, 0, none⟩)) ∧ Rt 30 w' X.heap.size ev0 ∧ Below X.heap.size X w') := fun X => rnew_c X
  go_enter Try.func3, Try.ntmps3
  go_wp2_with fail
  refine h1.mono ?_
  rintro e w1 ⟨rfl, hr1, hb1⟩
  have h2 := HR.out w1
  have HR1 : Aside (Rt 43 w1 w.heap.size ev0) := hr1
  have HB1 : Aside (Below w.heap.size w w1) := hb1
  clear hr1 hb1 h1 HR
  go_wp2_with fail
  refine h2.mono ?_
  rintro e w2 ⟨rfl, hr2, hb2⟩
  have HP : Aside (Pw w w.heap.size w1.heap.size ev0 w2) := ⟨HR1.out.below hb2, hr2, ev0_ok, by have := HR1.out.lt; omega, Nat.le_refl _, HB1.out.size, HB1.out.trans (hb2.mono HB1.out.size)⟩
  clear hr2 hb2 h2 HR1 HB1
  have hv0 : ev0.n = 0 := rfl
  have hs0 : ev0.s = 1 := rfl
  generalize ev0 = v0 at *
  generalize hs : w.heap.size = s at HP ⊢
  generalize w1.heap.size = r at HP ⊢
  have HPd : Aside (Pw w s r v0 w2.drew) := HP.out.bl (Below.refl _ _).drew
  have d0 := HPd.out.q.cells.1
  rw [hs0] at d0
  have HST : Aside (∀ X, Pw w s r v0 X → Calls Try.prog 9 #[.pointer (some ⟨s, 0, none⟩)] X fun e w' => e = .returned (.int .i64 1) ∧ w' = X) := fun X h => by
    have := state_c s v0 X h.p h.vo
    rwa [hs0] at this
  have HNM : Aside (∀ X, Calls Try.prog 10 #[] X fun e w' => e = .returned (.bool true) ∧ w' = X) := names_c
  clear hs0
  have HV0 : Aside (v0.n = 0) := hv0
  clear hv0
  go_wp2_with fail
  go_region_held3 (fun w' => w'.cell? ⟨r, 0, none⟩ = some (.int .i64 1)) (exact d0) (first
    | (go_at_call 10; refine Calls.mono (HNM.out _) ?_; rintro e w4 ⟨rfl, hw4⟩; subst w4)
    | (go_at_call 9; refine Calls.mono (HST.out _ HPd.out) ?_; rintro e w4 ⟨rfl, hw4⟩; subst w4))
  have HP1 : Aside (Pw w s r v0 w2.drew) := HPd.out
  clear d0 HST HNM HP HPd
  generalize w2.drew = w3 at *
  go_wp2
  go_loopg [5] (N + 1) (fun kx s5 wr => ∃ (i : Nat) (v : Ev), s5 = .int .i64 (i : Int) ∧ i ≤ N ∧ N + 1 - i ≤ kx ∧ Aside (v.n ≤ (i : Int)) ∧ Aside (Pw w s r v wr))
  case atStart => exact ⟨0, v0, rfl, by omega, by omega, by have := HV0.out; show v0.n ≤ _; omega, HP1.out⟩
  case round =>
    obtain ⟨i, v, rfl, hi, hk, HVN, HQ⟩ := hrel
    clear HP1 HV0
    have c1 : (i : Int) ≤ (N : Int) := by omega
    by_cases hlt : i < N
    rotate_left
    · obtain rfl : i = N := by omega
      have HB : Aside (Below w.heap.size w wr) := HQ.out.b
      clear hlt
      go_wp2
      go_ret
      exact ⟨rfl, HB.out⟩
    · have c2 : ¬ (i : Int) = (N : Int) := by omega
      have c3 : (i : Int) < (N : Int) := by omega
      have n7 : IntKind.i64.wrap ((i : Int) + 1) = (i : Int) + 1 := wrp _ (by omega) (by omega)
      obtain ⟨ba, off, hla, qc, hwf⟩ := HL.out i (by rw [HN.out]; exact hlt)
      subst hla
      generalize (l[i]'(by rw [HN.out]; exact hlt)) = a at qc hwf
      have HWF : Aside (a.wf) := hwf
      have hBw : Below w.heap.size w wr := HQ.out.b
      have lb : ba < w.heap.size := World.block_lt_of_cell? _ _ (qc 0 (by omega))
      have q0 : wr.cell? ⟨ba, off + i * 6, none⟩ = some (.int .i64 a.k) := (hBw.cell (p := ⟨ba, off + i * 6, none⟩) lb).trans (qc 0 (by omega))
      have q1 : wr.cell? ⟨ba, off + i * 6 + 1, none⟩ = some (.int .i64 a.n) := (hBw.cell (p := ⟨ba, off + i * 6 + 1, none⟩) lb).trans (qc 1 (by omega))
      have q2 : wr.cell? ⟨ba, off + i * 6 + 2, none⟩ = some (.int .i64 a.a) := (hBw.cell (p := ⟨ba, off + i * 6 + 2, none⟩) lb).trans (qc 2 (by omega))
      have q3 : wr.cell? ⟨ba, off + i * 6 + 3, none⟩ = some (.int .i64 a.b) := (hBw.cell (p := ⟨ba, off + i * 6 + 3, none⟩) lb).trans (qc 3 (by omega))
      have q4 : wr.cell? ⟨ba, off + i * 6 + 4, none⟩ = some (.int .i64 a.c) := (hBw.cell (p := ⟨ba, off + i * 6 + 4, none⟩) lb).trans (qc 4 (by omega))
      have q5 : wr.cell? ⟨ba, off + i * 6 + 5, none⟩ = some (.bool a.f) := (hBw.cell (p := ⟨ba, off + i * 6 + 5, none⟩) lb).trans (qc 5 (by omega))
      have P2 : Aside (Pa w s r wr.heap.size v v a (wr.alloc (.cells a.cs.toArray 33))) := HQ.out.act a
      obtain ⟨W0, hW0⟩ : ∃ W0, wr.alloc (.cells #[.int .i64 a.k, .int .i64 a.n, .int .i64 a.a, .int .i64 a.b, .int .i64 a.c, .bool a.f] 33) = W0 := ⟨_, rfl⟩
      have hW0' : wr.alloc (.cells a.cs.toArray 33) = W0 := hW0
      rw [hW0'] at P2
      clear hW0' qc hBw lb HQ hwf
      generalize hA : wr.heap.size = A at P2
      obtain ⟨kk, n, x, y, z, f⟩ := a
      dsimp only at q0 q1 q2 q3 q4 q5 hW0
      obtain ⟨x0, x1, x2, x3, x4, x5⟩ := P2.out.cells
      dsimp only at x0 x1 x2 x3 x4 x5
      have HVB : Aside (v.n < 4611686018427387904) := by have := HVN.out; show v.n < _; omega
      by_cases k0 : kk = 0
      · subst k0
        have h1 := P2.out.sent HVB.out
        have HRS : Aside (∀ X u, Pa w s r A u v ⟨0, n, x, y, z, f⟩ X → Calls Try.prog 12 #[.pointer (some ⟨r, 0, none⟩)] X fun e w' => e = .returned (.bool v.snt.1) ∧ Pa w s r A u v.snt.2 ⟨0, n, x, y, z, f⟩ w') := fun X u h => h.rsend HVB.out
        have HNB : Aside (v.snt.2.n ≤ (i : Int) + 1) := by have := v.snt_n; have := HVN.out; show v.snt.2.n ≤ _; omega
        generalize v.snt = sn at *
        obtain ⟨sb, sv⟩ := sn
        dsimp only at h1 HRS HNB
        go_wp2_with fail
        refine h1.mono ?_
        rintro e w4 ⟨rfl, hp⟩
        have h2 := HRS.out _ _ hp
        clear h1 hp q0 q1 q2 q3 q4 q5 hW0 HRS
        go_wp2_with fail
        refine h2.mono ?_
        rintro e w5 ⟨rfl, hp⟩
        have HP5 : Aside (Pa w s r A sv sv ⟨0, n, x, y, z, f⟩ w5) := hp
        clear h2 hp x0 x1 x2 x3 x4 x5
        have HE : Aside (Pw w s r sv w5) := HP5.out.pw
        have HEd : Aside (Pw w s r sv w5.drew) := HE.out.bl (Below.refl _ _).drew
        have z0 := HEd.out.q.cells.1
        have HSV : Aside (∀ X, Pw w s r sv X → Calls Try.prog 9 #[.pointer (some ⟨s, 0, none⟩)] X fun e w' => e = .returned (.int .i64 (sv).s) ∧ w' = X) := fun X h => state_c s _ X h.p h.vo
        have HNV : Aside ((sv).n ≤ (i : Int) + 1) := HNB.out
        generalize sv = v9 at *
        generalize v9.s = sx at *
        go_wp2_with fail
        go_region_held3 (fun w' => w'.cell? ⟨r, 0, none⟩ = some (.int .i64 sx)) (exact z0) (first | (go_at_call 9; refine Calls.mono (HSV.out _ HEd.out) ?_; rintro e w9 ⟨rfl, hw9⟩; subst w9))
        go_wp2
        go_roundg (N + 1 - (i + 1))
        case measure => omega
        case rel => exact ⟨i + 1, v9, rfl, by omega, Nat.le_refl _, by have := HNV.out; show v9.n ≤ _; omega, HEd.out⟩
      by_cases k1 : kk = 1
      · subst k1
        have P2d : Aside (Pa w s r A v v ⟨1, n, x, y, z, f⟩ W0.drew) := P2.out.bl (Below.refl _ _).drew
        have HA : Aside (∀ X u, Pa w s r A v u ⟨1, n, x, y, z, f⟩ X → Calls Try.prog 13 #[.pointer (some ⟨s, 0, none⟩), .int .i64 n] X fun e w' => e = .returned (.int .i64 (v.lst n).1) ∧ Pa w s r A (v.lst n).2 u ⟨1, n, x, y, z, f⟩ w') := fun X u h => h.lost n
        have HB : Aside (∀ X u, Pa w s r A u v ⟨1, n, x, y, z, f⟩ X → Calls Try.prog 14 #[.pointer (some ⟨r, 0, none⟩), .int .i64 n] X fun e w' => e = .returned (.int .i64 (v.lst n).1) ∧ Pa w s r A u (v.lst n).2 ⟨1, n, x, y, z, f⟩ w') := fun X u h => h.rlose n
        have HNB : Aside ((v.lst n).2.n ≤ (i : Int) + 1) := by have := v.lst_n n; have := HVN.out; show (v.lst n).2.n ≤ _; omega
        generalize v.lst n = sn at *
        obtain ⟨E', v'⟩ := sn
        dsimp only at HA HB HNB
        go_wp2_with fail
        clear q0 q1 q2 q3 q4 q5 hW0
        go_region_held3 (fun w' => w'.cell? ⟨A, 1, none⟩ = some (.int .i64 n)) (first | exact (Pa.cells HP5.out).2.1 | exact (Pa.cells HP4.out).2.1 | exact (Pa.cells P2d.out).2.1) (first
          | (go_at_call 14; refine Calls.mono (HB.out _ _ HP4.out) ?_; rintro e w5 ⟨rfl, hp⟩; have HP5 : Aside (Pa w s r A v' v' ⟨1, n, x, y, z, f⟩ w5) := hp; clear hp)
          | (go_at_call 13; refine Calls.mono (HA.out _ _ P2d.out) ?_; rintro e w4 ⟨rfl, hp⟩; have HP4 : Aside (Pa w s r A v' v ⟨1, n, x, y, z, f⟩ w4) := hp; clear hp))
        have HE : Aside (Pw w s r v' w5) := HP5.out.pw
        have HEd : Aside (Pw w s r v' w5.drew) := HE.out.bl (Below.refl _ _).drew
        have z0 := HEd.out.q.cells.1
        have HSV : Aside (∀ X, Pw w s r v' X → Calls Try.prog 9 #[.pointer (some ⟨s, 0, none⟩)] X fun e w' => e = .returned (.int .i64 (v').s) ∧ w' = X) := fun X h => state_c s _ X h.p h.vo
        have HNV : Aside ((v').n ≤ (i : Int) + 1) := HNB.out
        generalize v' = v9 at *
        generalize v9.s = sx at *
        go_wp2_with fail
        go_region_held3 (fun w' => w'.cell? ⟨r, 0, none⟩ = some (.int .i64 sx)) (exact z0) (first | (go_at_call 9; refine Calls.mono (HSV.out _ HEd.out) ?_; rintro e w9 ⟨rfl, hw9⟩; subst w9))
        go_wp2
        go_roundg (N + 1 - (i + 1))
        case measure => omega
        case rel => exact ⟨i + 1, v9, rfl, by omega, Nat.le_refl _, by have := HNV.out; show v9.n ≤ _; omega, HEd.out⟩
      by_cases k2 : kk = 2
      · subst k2
        have h1 := P2.out.acked n x y z f
        have HRA : Aside (∀ X u, Pa w s r A u v ⟨2, n, x, y, z, f⟩ X → Calls Try.prog 16 #[.pointer (some ⟨r, 0, none⟩), .int .i64 n, .agg #[.int .i64 x, .int .i64 y, .int .i64 z], .bool f] X fun e w' => e = .returned (.tuple #[.bool (v.ack n x y z f).1, .int .i64 (v.ack n x y z f).2.1]) ∧ Pa w s r A u (v.ack n x y z f).2.2 ⟨2, n, x, y, z, f⟩ w') := fun X u h => h.racked n x y z f HWF.out.1.1 HWF.out.1.2
        have HNB : Aside ((v.ack n x y z f).2.2.n ≤ (i : Int) + 1) := by have := v.ack_n n x y z f; have := HVN.out; show (v.ack n x y z f).2.2.n ≤ _; omega
        generalize v.ack n x y z f = sn at *
        obtain ⟨cb, E', v'⟩ := sn
        dsimp only at h1 HRA HNB
        go_wp2_with fail
        refine h1.mono ?_
        rintro e w4 ⟨rfl, hp⟩
        have h2 := HRA.out _ _ hp
        clear x0 x1 x2 x3 x4 x5
        obtain ⟨x0, x1, x2, x3, x4, x5⟩ := hp.cells
        dsimp only at x0 x1 x2 x3 x4 x5
        clear h1 hp q0 q1 q2 q3 q4 q5 hW0 HRA
        go_wp2_with fail
        refine h2.mono ?_
        rintro e w5 ⟨rfl, hp⟩
        have HP5 : Aside (Pa w s r A v' v' ⟨2, n, x, y, z, f⟩ w5) := hp
        clear h2 hp x0 x1 x2 x3 x4 x5
        have HE : Aside (Pw w s r v' w5) := HP5.out.pw
        have HEd : Aside (Pw w s r v' w5.drew) := HE.out.bl (Below.refl _ _).drew
        have z0 := HEd.out.q.cells.1
        have HSV : Aside (∀ X, Pw w s r v' X → Calls Try.prog 9 #[.pointer (some ⟨s, 0, none⟩)] X fun e w' => e = .returned (.int .i64 (v').s) ∧ w' = X) := fun X h => state_c s _ X h.p h.vo
        have HNV : Aside ((v').n ≤ (i : Int) + 1) := HNB.out
        generalize v' = v9 at *
        generalize v9.s = sx at *
        go_wp2_with fail
        go_region_held3 (fun w' => w'.cell? ⟨r, 0, none⟩ = some (.int .i64 sx)) (exact z0) (first | (go_at_call 9; refine Calls.mono (HSV.out _ HEd.out) ?_; rintro e w9 ⟨rfl, hw9⟩; subst w9))
        go_wp2
        go_roundg (N + 1 - (i + 1))
        case measure => omega
        case rel => exact ⟨i + 1, v9, rfl, by omega, Nat.le_refl _, by have := HNV.out; show v9.n ≤ _; omega, HEd.out⟩
      · have HNB : Aside (v.n ≤ (i : Int) + 1) := by have := HVN.out; show v.n ≤ _; omega
        go_wp2_with fail
        clear q0 q1 q2 q3 q4 q5 hW0
        have HE : Aside (Pw w s r v W0) := P2.out.pw
        have HEd : Aside (Pw w s r v W0.drew) := HE.out.bl (Below.refl _ _).drew
        have z0 := HEd.out.q.cells.1
        have HSV : Aside (∀ X, Pw w s r v X → Calls Try.prog 9 #[.pointer (some ⟨s, 0, none⟩)] X fun e w' => e = .returned (.int .i64 (v).s) ∧ w' = X) := fun X h => state_c s _ X h.p h.vo
        have HNV : Aside ((v).n ≤ (i : Int) + 1) := HNB.out
        generalize v = v9 at *
        generalize v9.s = sx at *
        go_wp2_with fail
        go_region_held3 (fun w' => w'.cell? ⟨r, 0, none⟩ = some (.int .i64 sx)) (exact z0) (first | (go_at_call 9; refine Calls.mono (HSV.out _ HEd.out) ?_; rintro e w9 ⟨rfl, hw9⟩; subst w9))
        go_wp2
        go_roundg (N + 1 - (i + 1))
        case measure => omega
        case rel => exact ⟨i + 1, v9, rfl, by omega, Nat.le_refl _, by have := HNV.out; show v9.n ≤ _; omega, HEd.out⟩
end Go.Proofs.Ythfloemckhbljaa
