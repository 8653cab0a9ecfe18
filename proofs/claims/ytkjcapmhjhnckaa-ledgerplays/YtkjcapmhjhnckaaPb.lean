/- LedgerPlays: what an act leaves of both ledgers. -/
import Derived.Test.YtkjcapmhjhnckaaPz
import Derived.Test.YtkjcapmhjhnckaaPq
import Derived.Test.YtkjcapmhjhnckaaRz
import Derived.Test.YtkjcapmhjhnckaaRt
import Derived.Test.YtkjcapmhjhnckaaRc
import Derived.Test.YtkjcapmhjhnckaaRd
import Derived.Test.YtkjcapmhjhnckaaOS
namespace Go.Proofs.Ytkjcapmhjhnckaa
open Go.RowKit Go.Maps Go.Shelf
set_option linter.unusedVariables false
set_option maxRecDepth 100000

/-- Both ledgers between two acts. -/
def Ps (w : World) (b c M : Nat) (X : World) : Prop := ∃ A B L R, A.b = b ∧ B.b = c ∧ PlW w A B L R M X ∧ Jt L R
/-- What is neither ledger's, and no row of packets, stays. -/
def Kp (A : Ad) (B : Ra) (X V : World) : Prop := ∀ k cs t, X.heap[k]? = some (.cells cs t (0, 0)) → t ≠ 29 → ¬ A.own k → ¬ B.own k → V.heap[k]? = some (.cells cs t (0, 0))
/-- Ahead of an act: its box B8. -/
structure Bx (w : World) (A : Ad) (B : Ra) (L : Ls) (R : Rs) (M B8 : Nat) (r : ActR) (X : World) : Prop where
  s : PlW w A B L R M X
  j : Jt L R
  b8 : X.heap[B8]? = some (.cells r.cs.toArray 32 (0, 0))
  n1 : ¬ A.own B8
  n2 : ¬ B.own B8
  ok : r.ok w
section
variable {w X Y : World} {A A' : Ad} {B : Ra} {L L' : Ls} {R R' : Rs} {M B8 : Nat} {r : ActR}
theorem Ps.bl {b c : Nat} (h : Ps w b c M X) (hb : Below X.heap.size X Y) : Ps w b c M Y := by
  obtain ⟨A, B, L, R, e1, e2, h1, h2⟩ := h
  exact ⟨A, B, L, R, e1, e2, h1.bl hb, h2⟩
theorem Ps.up {b c : Nat} (h : PlW w A B L R M X) (hj : Jt L R) (e1 : A.b = b) (e2 : B.b = c) : Ps w b c (M + 1) X := ⟨A, B, L, R, e1, e2, h.mono (h.ok.mono (by omega)) (by omega), hj⟩
theorem Kp.bl {V V' : World} (h : Kp A B X V) (hb : Below V.heap.size V V') : Kp A B X V' := fun k cs t h1 h2 h3 h4 => by
  have := h k cs t h1 h2 h3 h4
  exact (hb.block k (Array.getElem?_eq_some_iff.1 this).1).trans this
theorem Bx.bl (h : Bx w A B L R M B8 r X) (hb : Below X.heap.size X Y) : Bx w A B L R M B8 r Y := ⟨h.s.bl hb, h.j, (hb.block _ (Array.getElem?_eq_some_iff.1 h.b8).1).trans h.b8, h.n1, h.n2, h.ok⟩
theorem bx_box (h : PlW w A B L R M X) (hj : Jt L R) (r : ActR) (hr : r.ok w) : Bx w A B L R M X.heap.size r (X.alloc (.cells r.cs.toArray 32)) :=
  ⟨h.bl (bel1 X _), hj, heap_alloc_new X _, fun hA => by have := h.l.lt hA; omega, fun hB => by have := h.r.lt hB; omega, hr⟩
theorem Bx.sent (h : Bx w A B L R M B8 r X) (hM : M ≤ 2000000000000) (p : Pk) :
    Calls Try.prog 10 #[.pointer (some ⟨A.b, 0, none⟩), p.v] X fun e Y => e = .returned (.int .i64 (snt L p)) ∧ Y.heap[B8]? = some (.cells r.cs.toArray 32 (0, 0)) ∧
      ∀ Y', Below Y.heap.size Y Y' → Calls Try.prog 11 #[.pointer (some ⟨B.b, 0, none⟩), .agg #[.int .i64 p.n, .int .i64 p.a, .int .i64 p.s, .bool p.e, .int .i64 0]] Y' fun e Z => e = .returned (.int .i64 (snt L p)) ∧ Z.heap[B8]? = some (.cells r.cs.toArray 32 (0, 0)) ∧ Ps w A.b B.b (M + 1) Z := by
  refine (sent_c h.s.l h.s.ok (by omega) (by have := h.s.m; omega) p).mono ?_
  rintro e Y ⟨rfl, hn, hy⟩
  have hlen := h.s.len
  by_cases hx : snt L p = 0
  · obtain ⟨A', hm, hl, hs⟩ := hy hx
    have k8 := hs.keep h.b8 h.n1
    have h2 := h.s.left hs hl (sent_ok h.s.ok hx (by omega)) (by rw [hm]; have := h.s.m; omega) (M' := M + 1) (by omega)
    refine ⟨rfl, k8.1, fun Y' hb => ?_⟩
    have h3 := h2.bl hb
    have k9 : Y'.heap[B8]? = some (.cells r.cs.toArray 32 (0, 0)) := (hb.block _ (Array.getElem?_eq_some_iff.1 k8.1).1).trans k8.1
    refine (rsent_c h3.r (by omega) p).mono ?_
    rintro e Z ⟨rfl, hn', hy'⟩
    obtain ⟨B', hr, hp⟩ := hy' (by rw [h.j.snt]; exact hx)
    refine ⟨by rw [h.j.snt], hp.chg.blk k9 h.n2, A', B', _, _, hs.b, hp.b, h3.right hp hr ?_, h.j.sent hx⟩
    show (R.L ++ [(p, 0)]).length ≤ M + 1
    rw [List.length_append]
    simp only [List.length_cons, List.length_nil]
    omega
  · obtain ⟨hl, hs⟩ := hn hx
    have k8 := hs.keep h.b8 h.n1
    have h2 := h.s.left hs hl h.s.ok h.s.m (Nat.le_refl _)
    refine ⟨rfl, k8.1, fun Y' hb => ?_⟩
    have h3 := h2.bl hb
    have k9 : Y'.heap[B8]? = some (.cells r.cs.toArray 32 (0, 0)) := (hb.block _ (Array.getElem?_eq_some_iff.1 k8.1).1).trans k8.1
    refine (rsent_c h3.r (by omega) p).mono ?_
    rintro e Z ⟨rfl, hn', hy'⟩
    obtain ⟨hr, hp⟩ := hn' (by rw [h.j.snt]; exact hx)
    exact ⟨by rw [h.j.snt], (hp.block _ (Array.getElem?_eq_some_iff.1 k9).1).trans k9, Ps.up (h3.bl hp) h.j rfl rfl⟩
theorem Rl.off {o : Option Addr} {n c : Nat} {xs : List Value} {e : TypeId} {k : Nat} (h : Rl X B R) (hr : Rw e k X o n c xs) (h1 : e ≠ 72) (h2 : e ≠ 37) {j : Nat} (hj : Blk o j) : ¬ B.own j := by
  obtain ⟨Z, hz⟩ := Rw.ty hr hj
  rintro (rfl | hk)
  · rw [h.hb] at hz
    simp at hz
    exact h1 hz.2.symm
  · obtain ⟨Z', hz'⟩ := Rw.ty h.row hk
    rw [hz'] at hz
    simp at hz
    exact h2 hz.2.symm
/-- Rows of packets that were told are turned. -/
theorem PlW.told {o1 o2 : Option Addr} {c1 c2 : Nat} {ps qs : List Pk} (h : PlW w A B L R M X) (p1 : Pr X o1 c1 ps) (p2 : Pr X o2 c2 qs) (g1 : ∀ j, Blk o1 j → w.heap.size ≤ j) (g2 : ∀ j, Blk o2 j → w.heap.size ≤ j) (hc : Chg (fun j => Blk o1 j ∨ Blk o2 j) X Y) : PlW w A B L R M Y := by
  refine ⟨h.l.chg hc fun k hk hj => ?_, h.r.chg hc fun k hk hj => ?_, h.ok, h.m, h.len, h.ap, h.a0, h.b0, h.bel.trans (hc.toBelow h.bel.size fun k hk hj => ?_)⟩
  · rcases hj with hj | hj
    · exact p1.off h.l hj hk
    · exact p2.off h.l hj hk
  · rcases hj with hj | hj
    · exact h.r.off p1 (by decide) (by decide) hj hk
    · exact h.r.off p2 (by decide) (by decide) hj hk
  · rcases hj with hj | hj
    · have := g1 k hj; omega
    · have := g2 k hj; omega
/-- The reference's result behind the program's; both are the same. -/
def Bot2 (w : World) (A : Ad) (B : Ra) (M : Nat) (X : World) (y : Nat) (Y : World) (o1 : Option Addr) (n1 c1 : Nat) (o2 : Option Addr) (n2 c2 : Nat) (s1 s2 x : Int) (e : Ending) (Z : World) : Prop :=
  ∃ p1 m1 d1 p2 m2 d2, e = .returned (.tuple #[.agg #[.slice p1 m1 d1, .slice p2 m2 d2, .int .i64 s1, .int .i64 s2], .int .i64 x]) ∧ Kp A B X Z ∧ (∀ k o, y ≤ k → Y.heap[k]? = some o → Z.heap[k]? = some o) ∧
    ∀ Z', Below Z.heap.size Z Z' → Calls Try.prog 14 #[.agg #[.slice o1 n1 c1, .slice o2 n2 c2, .int .i64 s1, .int .i64 s2], .agg #[.slice p1 m1 d1, .slice p2 m2 d2, .int .i64 s1, .int .i64 s2]] Z' fun e V => e = .returned (.bool true) ∧ Kp A B X V ∧ Ps w A.b B.b (M + 1) V
def Bot1 (w : World) (A : Ad) (B : Ra) (M : Nat) (X : World) (g : Nat) (args : Array Value) (x : Int) (e : Ending) (Y : World) : Prop :=
  ∃ o1 n1 c1 o2 n2 c2 s1 s2, e = .returned (.tuple #[.agg #[.slice o1 n1 c1, .slice o2 n2 c2, .int .i64 s1, .int .i64 s2], .int .i64 x]) ∧ Kp A B X Y ∧
    ∀ Y', Below Y.heap.size Y Y' → Calls Try.prog g args Y' (Bot2 w A B M X Y.heap.size Y' o1 n1 c1 o2 n2 c2 s1 s2 x)
theorem Bx.both (h : Bx w A B L R M B8 r X) (hM : M ≤ 2000000000000) {f g : Nat} {args args2 : Array Value} {x : Int} {ps qs : List Pk} {P T : List (Pk × Int)} {sa sd : Int}
    (hA : Calls Try.prog f args X fun e Y => (x ≠ 0 → No1 X A L x e Y) ∧ (x = 0 → Yes1 X A ps qs sa sd L' e Y))
    (hR : ∀ Y', Rl Y' B R → Below w.heap.size w Y' → Calls Try.prog g args2 Y' fun e Z => (x ≠ 0 → RNo1 Y' B R x e Z) ∧ (x = 0 → RYes1 Y' B P T sa sd R' e Z))
    (hF : x = 0 → L'.ok M ∧ Jt L' R' ∧ P.map (fun x => x.1) = ps ∧ T.map (fun x => x.1) = qs ∧ R'.L.length ≤ M ∧ ps.length ≤ 4000000000000 ∧ qs.length ≤ 4000000000000) :
    Calls Try.prog f args X (Bot1 w A B M X g args2 x) := by
  refine hA.mono ?_
  intro e Y hr
  by_cases hx : x = 0
  · obtain ⟨A', o1, c1, o2, c2, rfl, hm, hl, hs, p1, p2, g1, g2, hd⟩ := hr.2 hx
    obtain ⟨f1, f2, f3, f4, f5, f6, f7⟩ := hF hx
    have h2 := h.s.left hs hl f1 (by rw [hm]; exact h.s.m) (Nat.le_refl _)
    have kY : Kp A B X Y := fun k cs t q1 q2 q3 q4 => (hs.keep q1 q3).1
    have gw : w.heap.size ≤ X.heap.size := h.s.bel.size
    refine ⟨o1, ps.length, c1, o2, qs.length, c2, sa, sd, by rw [hx]; rfl, kY, fun Y' hb => ?_⟩
    have h3 := h2.bl hb
    have kY' := kY.bl hb
    refine (hR Y' h3.r h3.bel).mono ?_
    intro e Z hz
    obtain ⟨q1, d1, q2, d2, rfl, hl2, hp2, k1, k2, _, _⟩ := hz.2 hx
    have h4 := h3.right hp2 hl2 f5
    have kZ : Kp A B X Z := fun k cs t u1 u2 u3 u4 => hp2.chg.blk (kY' k cs t u1 u2 u3 u4) u4
    have p1Z : Pr Z o1 c1 ps := Rw.chg (p1.bel hb) hp2.chg fun j hj => h3.r.off (p1.bel hb) (by decide) (by decide) hj
    have p2Z : Pr Z o2 c2 qs := Rw.chg (p2.bel hb) hp2.chg fun j hj => h3.r.off (p2.bel hb) (by decide) (by decide) hj
    refine ⟨q1, P.length, d1, q2, T.length, d2, by rw [hx]; rfl, kZ, fun k o u1 u2 => hp2.chg.blk u2 fun hB => by have := h2.r.lt hB; omega, fun Z' hb2 => ?_⟩
    refine (results_same (p1Z.bel hb2) (p2Z.bel hb2) (Rw.bel k1 hb2) (Rw.bel k2 hb2) f3 f4 f6 f7 hd sa sd).mono ?_
    rintro e V ⟨rfl, hc⟩
    have kZ' := kZ.bl hb2
    refine ⟨rfl, fun k cs t u1 u2 u3 u4 => hc.blk (kZ' k cs t u1 u2 u3 u4) ?_, Ps.up ((h4.bl hb2).told (p1Z.bel hb2) (p2Z.bel hb2) (fun j hj => Nat.le_trans gw (g1 j hj)) (fun j hj => Nat.le_trans gw (g2 j hj)) hc) f2 hs.b rfl⟩
    have u5 := kZ' k cs t u1 u2 u3 u4
    rintro (hj | hj)
    · obtain ⟨Q, hq⟩ := Rw.ty (p1Z.bel hb2) hj
      rw [u5] at hq
      simp at hq
      exact u2 hq.2
    · obtain ⟨Q, hq⟩ := Rw.ty (p2Z.bel hb2) hj
      rw [u5] at hq
      simp at hq
      exact u2 hq.2
  · obtain ⟨rfl, hl, hs⟩ := hr.1 hx
    have h2 := h.s.left hs hl h.s.ok h.s.m (Nat.le_refl _)
    have kY : Kp A B X Y := fun k cs t q1 q2 q3 q4 => (hs.keep q1 q3).1
    refine ⟨none, 0, 0, none, 0, 0, 0, 0, rfl, kY, fun Y' hb => ?_⟩
    have h3 := h2.bl hb
    have kY' := kY.bl hb
    refine (hR Y' h3.r h3.bel).mono ?_
    intro e Z hz
    obtain ⟨rfl, hl2, hp2⟩ := hz.1 hx
    have h4 := h3.right hp2 hl2 h3.len
    have kZ : Kp A B X Z := fun k cs t u1 u2 u3 u4 => hp2.chg.blk (kY' k cs t u1 u2 u3 u4) u4
    refine ⟨none, 0, 0, none, 0, 0, rfl, kZ, fun k o u1 u2 => hp2.chg.blk u2 fun hB => by have := h2.r.lt hB; omega, fun Z' hb2 => ?_⟩
    have hq : Qr Z' none 0 [] := Rw.nil _ _ _
    refine (results_same (Pr.nil Z') (Pr.nil Z') hq hq rfl rfl (by simp) (by simp) (fun j hj => hj.no.elim) 0 0).mono ?_
    rintro e V ⟨rfl, hc⟩
    have kZ' := kZ.bl hb2
    refine ⟨rfl, fun k cs t u1 u2 u3 u4 => hc.blk (kZ' k cs t u1 u2 u3 u4) ?_, Ps.up ((h4.bl hb2).told (Pr.nil Z') (Pr.nil Z') (fun j hj => hj.no.elim) (fun j hj => hj.no.elim) hc) h.j rfl rfl⟩
    rintro (hj | hj) <;> exact hj.no
theorem Jt.rwr (h : Jt L R) (now late : Int) : rwr R now late = wrg L now late true := by
  unfold Go.Proofs.Ytkjcapmhjhnckaa.rwr wrg
  rw [h.t]
  simp
theorem Bx.g0 (h : Bx w A B L R M B8 r X) : -1 ≤ R.g ∧ R.g ≤ 4611686018427387903 := by
  rw [← h.j.g]
  exact ⟨h.s.ok.fit.g0, h.s.ok.fit.g1⟩
theorem Bx.passed (h : Bx w A B L R M B8 r X) (hM : M ≤ 2000000000000) (now late : Int) :
    Calls Try.prog 15 #[.pointer (some ⟨A.b, 0, none⟩), .int .i64 now, .int .i64 late] X (Bot1 w A B M X 16 #[.pointer (some ⟨B.b, 0, none⟩), .int .i64 now, .int .i64 late] (wrg L now late true)) := by
  have hlen := h.s.len
  have hx := h.j.rwr now late
  refine h.both hM (passed_c h.s.l h.s.ok now late) (fun Y' hl _ => ?_) (fun h0 => ?_) (P := []) (T := rlt R.g (now - late) R.L) (R' := { R with t := now, L := rlm R.g (now - late) R.L })
  · have := rpassed_c hl (by omega) h.j.ok h.g0.1 h.g0.2 now late
    by_cases h0 : wrg L now late true = 0
    · obtain ⟨⟨t0, t1⟩, ⟨l0, l1⟩, _, ht⟩ := wrg_zero h0
      obtain ⟨_, _, e3⟩ := h.j.pass now late (by rw [← h.j.t]; exact ht)
      rw [hx, e3] at this
      exact this
    · rw [hx] at this
      exact this.mono fun e Z hz => ⟨hz.1, fun q => absurd q h0⟩
  · obtain ⟨⟨t0, t1⟩, ⟨l0, l1⟩, _, ht⟩ := wrg_zero h0
    obtain ⟨e1, e2, _⟩ := h.j.pass now late (by rw [← h.j.t]; exact ht)
    have ho := h.s.ok
    have hpl := (pass_perm L now late).length_eq
    rw [List.length_append] at hpl
    have hol : (ons L.O).length ≤ L.O.length := by unfold ons; simp only [List.length_map]; exact List.length_filter_le _ _
    have hO := ho.lenO
    refine ⟨pass_ok ho.fit ho.lenO ho.lenT ho.d0 ho.d1 ho.up ho.tb ho.top now late t0 t1, e1, rfl, e2, ?_, by simp, by omega⟩
    have := congrArg List.length (rlm_fst R.g (now - late) R.L)
    rw [List.length_map, List.length_map] at this
    show (rlm R.g (now - late) R.L).length ≤ M
    rw [this]
    exact hlen
theorem Bx.clear (h : Bx w A B L R M B8 r X) (hM : M ≤ 2000000000000) :
    Calls Try.prog 18 #[.pointer (some ⟨A.b, 0, none⟩)] X fun e Y => ∃ o1 n1 c1, e = .returned (.slice o1 n1 c1) ∧ Calls Try.prog 19 #[.pointer (some ⟨B.b, 0, none⟩)] Y fun e Z => ∃ p1 m1 d1, e = .returned (.slice p1 m1 d1) ∧ Calls Try.prog 17 #[.slice o1 n1 c1, .slice p1 m1 d1] Z fun e V => e = .returned (.bool true) ∧ Ps w A.b B.b (M + 1) V := by
  refine (clear_c h.s.l h.s.ok).mono ?_
  rintro e Y ⟨A', o1, c1, rfl, hm, hl, hs, p1, g1⟩
  have h2 := h.s.left hs hl (clr_ok h.s.ok) (by rw [hm]; exact h.s.m) (Nat.le_refl _)
  have hlen := h.s.len
  obtain ⟨e1, e2⟩ := h.j.clr
  refine ⟨o1, _, c1, rfl, (rclear_c h2.r (by omega)).mono ?_⟩
  rintro e Z ⟨q1, d1, rfl, hl2, hp2, k1, _⟩
  have h3 := h2.right hp2 hl2 (by show (rcl R.L).length ≤ M; rw [rcl_len]; exact hlen)
  have p1Z : Pr Z o1 c1 (ons L.O) := Rw.chg p1 hp2.chg fun j hj => h2.r.off p1 (by decide) (by decide) hj
  have hol : (ons L.O).length ≤ L.O.length := by unfold ons; simp only [List.length_map]; exact List.length_filter_le _ _
  have hO := h.s.ok.lenO
  refine ⟨q1, _, d1, rfl, (packets_c p1Z k1 e2 (by omega)).mono ?_⟩
  rintro e V ⟨rfl, hc⟩
  have gw := h.s.bel.size
  exact ⟨rfl, Ps.up (h3.told p1Z (Pr.nil Z) (fun j hj => Nat.le_trans gw (g1 j hj)) (fun j hj => hj.no.elim) (hc.mono fun k _ hk => .inl hk)) e1 hs.b rfl⟩
/-- What both tell behind an act. -/
theorem Ps.look {b c : Nat} (h : Ps w b c M X) (hM : M ≤ 2000000000000) (late : Int) : ∃ (z k d t : Int) (y : Bool), Calls Try.prog 20 #[.pointer (some ⟨b, 0, none⟩)] X fun e Y => e = .returned (.tuple #[.int .i64 z, .int .i64 k, .int .i64 d]) ∧
    Calls Try.prog 21 #[.pointer (some ⟨c, 0, none⟩)] Y fun e Z => e = .returned (.tuple #[.int .i64 z, .int .i64 k, .int .i64 d]) ∧
    Calls Try.prog 22 #[.pointer (some ⟨b, 0, none⟩), .int .i64 late] Z fun e U => e = .returned (.tuple #[.int .i64 t, .bool y]) ∧
    Calls Try.prog 23 #[.pointer (some ⟨c, 0, none⟩), .int .i64 late] U fun e V => e = .returned (.tuple #[.int .i64 t, .bool y]) ∧ Ps w b c M V := by
  obtain ⟨A, B, L, R, rfl, rfl, h1, hj⟩ := h
  have hf := hj.flight h1.ok.z h1.ok.c
  have hd := hj.due h1.ok.hd late
  have hlen := h1.len
  refine ⟨L.z, L.c, L.d, (L.due late).1, (L.due late).2, (flight_c h1.l).mono ?_⟩
  rintro e Y ⟨rfl, b1⟩
  have h2 := h1.bl b1
  refine ⟨rfl, (rflight_c h2.r hj.ok (by omega)).mono ?_⟩
  rintro e Z ⟨rfl, b2⟩
  have h3 := h2.bl b2
  refine ⟨by rw [hf], (due_c h3.l h3.ok late).mono ?_⟩
  rintro e U ⟨rfl, b3⟩
  have h4 := h3.bl b3
  refine ⟨rfl, (rdue_c h4.r (by omega) hj.ok late).mono ?_⟩
  rintro e V ⟨rfl, b4⟩
  exact ⟨by rw [hd], A, B, L, R, rfl, rfl, h4.bl b4, hj⟩
theorem ps_start {W1 W2 : World} {A : Ad} {B : Ra} (h : Lg W1 A ls0) (hb : Below w.heap.size w W1) (ho : ∀ k, A.own k → w.heap.size ≤ k) (hm : A.m = 0) (hr : Rl W2 B rs0) (hb2 : Below W1.heap.size W1 W2) (ho2 : ∀ k, B.own k → W1.heap.size ≤ k) : Ps w A.b B.b 0 W2 :=
  ⟨A, B, ls0, rs0, rfl, rfl, ⟨h.bel hb2, hr, ls0_ok, by omega, by simp [rs0], fun k hA hB => by have := h.lt hA; have := ho2 k hB; omega, ho, fun k hk => Nat.le_trans hb.size (ho2 k hk), hb.trans (hb2.mono hb.size)⟩, jt0⟩
end
end Go.Proofs.Ytkjcapmhjhnckaa
