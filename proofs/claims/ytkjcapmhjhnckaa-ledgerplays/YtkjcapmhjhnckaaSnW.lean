/- ledger: Sent, its walk. -/
import Derived.Test.YtkjcapmhjhnckaaSn
namespace Go.Proofs.Ytkjcapmhjhnckaa
open Go.RowKit Go.Maps Go.Shelf
set_option linter.unusedVariables false
set_option maxRecDepth 100000

/-- Where Sent stands: its packet in block bx. -/
structure SnI (W : World) (A : Ad) (p : Pk) (A' : Ad) (L' : Ls) (X : World) : Prop where
  lg : Lg X A' L'
  st : Stp A A' W X
  bx : X.heap[W.heap.size]? = some (.cells #[.int .i64 p.n, .int .i64 p.a, .int .i64 p.s, .bool p.e] 29 (0, 0))
theorem SnI.bel {W X Y : World} {A A' : Ad} {p : Pk} {L' : Ls} (h : SnI W A p A' L' X) (hb : Below X.heap.size X Y) : SnI W A p A' L' Y :=
  ⟨h.lg.bel hb, h.st.below hb, (hb.block _ (Array.getElem?_eq_some_iff.1 h.bx).1).trans h.bx⟩
theorem SnI.no {W X : World} {A A' : Ad} {p : Pk} {L' : Ls} (h : SnI W A p A' L' X) : ¬ A'.own W.heap.size := by
  intro ho
  rcases ho with e | e | e | e
  · have := h.bx; rw [e, h.lg.hb] at this; simp at this
  · have := h.bx; obtain ⟨es, cl, h2⟩ := h.lg.mp.isMap; rw [e, h2] at this; cases this
  · obtain ⟨Z, hz⟩ := h.lg.ord.ty e; rw [h.bx] at hz; simp at hz
  · obtain ⟨Z, hz⟩ := h.lg.snt.ty e; rw [h.bx] at hz; simp at hz
theorem SnI.step {W X Y : World} {A A' A2 : Ad} {p : Pk} {L' L2 : Ls} (h : SnI W A p A' L' X) (hl : Lg Y A2 L2) (hs : Stp A' A2 X Y) : SnI W A p A2 L2 Y :=
  ⟨hl, h.st.trans hs, (hs.keep h.bx h.no).1⟩
/-- What Sent leaves. -/
def SnR (W : World) (A : Ad) (L : Ls) (p : Pk) (r : Ending) (w' : World) : Prop :=
  r = .returned (.int .i64 (snt L p)) ∧ (snt L p ≠ 0 → Lg w' A L ∧ Stp A A W w') ∧ (snt L p = 0 → ∃ A', A'.m = A.m + 1 ∧ Lg w' A' (L.sent p) ∧ Stp A A' W w')
set_option maxHeartbeats 1000000 in
theorem sent_c {W : World} {A : Ad} {L : Ls} {M : Nat} (h : Lg W A L) (ho : L.ok M) (hM : M ≤ 3900000000000) (hm : A.m < 8000000000000000000) (p : Pk) : Calls Try.prog 10 #[.pointer (some ⟨A.b, 0, none⟩), p.v] W (SnR W A L p) := by
  obtain ⟨n, a, s, e⟩ := p
  have hb0 := bel1 W (.cells #[.int .i64 n, .int .i64 a, .int .i64 s, .bool e] 29)
  have hI0 : SnI W A ⟨n, a, s, e⟩ A L (W.alloc (.cells #[.int .i64 n, .int .i64 a, .int .i64 s, .bool e] 29)) := ⟨h.bel hb0, Stp.of_below hb0, heap_alloc_new W _⟩
  have hn := none_c hI0.lg
  have hti := isTime_c a (W.alloc (.cells #[.int .i64 n, .int .i64 a, .int .i64 s, .bool e] 29))
  have HNO : Aside (∀ x : Int, snt L ⟨n, a, s, e⟩ = x → x ≠ 0 → ∀ Y, Below (W.alloc (.cells #[.int .i64 n, .int .i64 a, .int .i64 s, .bool e] 29)).heap.size (W.alloc (.cells #[.int .i64 n, .int .i64 a, .int .i64 s, .bool e] 29)) Y → SnR W A L ⟨n, a, s, e⟩ (.returned (.int .i64 x)) Y) := by
    intro x hx h0 Y hY
    exact ⟨by rw [hx], fun _ => ⟨hI0.lg.bel hY, hI0.st.below hY⟩, fun h1 => absurd (hx.symm.trans h1) h0⟩
  have HYES : Aside (snt L ⟨n, a, s, e⟩ = 0 → ∀ A' Y, A'.m = A.m + 1 → Lg Y A' (L.sent ⟨n, a, s, e⟩) → Stp A A' W Y → SnR W A L ⟨n, a, s, e⟩ (.returned (.int .i64 0)) Y) := by
    intro hx A' Y h1 h2 h3
    exact ⟨by rw [hx], fun h => absurd hx h, fun _ => ⟨A', h1, h2, h3⟩⟩
  have HS : Aside (snt L ⟨n, a, s, e⟩ = if n < 0 ∨ 4611686018427387903 < n ∨ ¬ (0 ≤ a ∧ a ≤ 1125899906842624) ∨ s < 1 ∨ 65535 < s then 2 else if n ≤ top L.T then 13 else if a < L.t then 42 else 0) := rfl
  have HI0 : Aside _ := hI0
  have HO : Aside _ := ho
  generalize hR : SnR W A L ⟨n, a, s, e⟩ = RR at *
  by_cases p1 : n < 0 ∨ 4611686018427387903 < n ∨ ¬ (0 ≤ a ∧ a ≤ 1125899906842624) ∨ s < 1 ∨ 65535 < s
  · have HE : Aside _ := HNO.out 2 (by rw [HS.out, if_pos p1]) (by decide) _ (Below.refl _ _)
    clear HNO HYES HS HI0 HO h ho hI0 hb0 hR
    rcases p1 with q1 | q1
    · go_enter Try.func10, Try.ntmps10
      go_wp2_with fail
      refine hn.mono ?_
      rintro e' u ⟨rfl, hu⟩
      subst u
      go_wp2
      exact HE.out
    by_cases q0 : n < 0
    · go_enter Try.func10, Try.ntmps10
      go_wp2_with fail
      refine hn.mono ?_
      rintro e' u ⟨rfl, hu⟩
      subst u
      go_wp2
      exact HE.out
    rcases q1 with q1 | q1
    · go_enter Try.func10, Try.ntmps10
      go_wp2_with fail
      refine hn.mono ?_
      rintro e' u ⟨rfl, hu⟩
      subst u
      go_wp2
      exact HE.out
    by_cases q2 : 4611686018427387903 < n
    · go_enter Try.func10, Try.ntmps10
      go_wp2_with fail
      refine hn.mono ?_
      rintro e' u ⟨rfl, hu⟩
      subst u
      go_wp2
      exact HE.out
    by_cases q3 : 0 ≤ a ∧ a ≤ 1125899906842624
    · rw [decide_eq_true q3] at hti
      rcases q1 with q1 | q1
      · exact absurd q3 q1
      by_cases q4 : s < 1
      · clear q1 q3
        go_enter Try.func10, Try.ntmps10
        go_wp2_with fail
        refine hn.mono ?_
        rintro e' u ⟨rfl, hu⟩
        subst u
        go_wp2_with fail
        refine hti.mono ?_
        rintro e' u ⟨rfl, hu⟩
        subst u
        go_wp2
        exact HE.out
      · have q5 : 65535 < s := by omega
        clear q1 q3
        go_enter Try.func10, Try.ntmps10
        go_wp2_with fail
        refine hn.mono ?_
        rintro e' u ⟨rfl, hu⟩
        subst u
        go_wp2_with fail
        refine hti.mono ?_
        rintro e' u ⟨rfl, hu⟩
        subst u
        go_wp2
        exact HE.out
    · rw [decide_eq_false q3] at hti
      clear q1 q3
      go_enter Try.func10, Try.ntmps10
      go_wp2_with fail
      refine hn.mono ?_
      rintro e' u ⟨rfl, hu⟩
      subst u
      go_wp2_with fail
      refine hti.mono ?_
      rintro e' u ⟨rfl, hu⟩
      subst u
      go_wp2
      exact HE.out
  · have q0 : ¬ n < 0 := fun h => p1 (.inl h)
    have q2 : ¬ 4611686018427387903 < n := fun h => p1 (.inr (.inl h))
    have q3 : 0 ≤ a ∧ a ≤ 1125899906842624 := Classical.byContradiction fun h => p1 (.inr (.inr (.inl h)))
    have q4 : ¬ s < 1 := fun h => p1 (.inr (.inr (.inr (.inl h))))
    have q5 : ¬ 65535 < s := fun h => p1 (.inr (.inr (.inr (.inr h))))
    have HS' : Aside (snt L ⟨n, a, s, e⟩ = if n ≤ top L.T then 13 else if a < L.t then 42 else 0) := by
      show snt L ⟨n, a, s, e⟩ = _
      rw [HS.out, if_neg p1]
    rw [decide_eq_true q3] at hti
    have HGR : Aside (∀ X, Below (W.alloc (.cells #[.int .i64 n, .int .i64 a, .int .i64 s, .bool e] 29)).heap.size (W.alloc (.cells #[.int .i64 n, .int .i64 a, .int .i64 s, .bool e] 29)) X → Calls Try.prog 27 #[.slice A.s L.T.length A.sc] X fun r w' => r = .returned (.int .i64 (top L.T)) ∧ w' = X) := fun X hX => greatest_c (hI0.lg.bel hX).snt (by have := ho.lenT; omega)
    have HBC : Aside (∀ X, Below (W.alloc (.cells #[.int .i64 n, .int .i64 a, .int .i64 s, .bool e] 29)).heap.size (W.alloc (.cells #[.int .i64 n, .int .i64 a, .int .i64 s, .bool e] 29)) X → X.cell? ⟨W.heap.size, 0, none⟩ = some (.int .i64 n) ∧ X.cell? ⟨W.heap.size, 1, none⟩ = some (.int .i64 a) ∧ X.cell? ⟨A.b, 2, none⟩ = some (.slice A.s L.T.length A.sc) ∧ X.cell? ⟨A.b, 4, none⟩ = some (.int .i64 L.t) ∧ X.cell? ⟨W.heap.size, 2, none⟩ = some (.int .i64 s)) := fun X hX => by
      have hi := hI0.bel hX
      have hb := hi.bx
      exact ⟨by simp [World.cell?, hb], by simp [World.cell?, hb], hi.lg.c2, hi.lg.c4, by simp [World.cell?, hb]⟩
    obtain ⟨a0, a1⟩ := q3
    have hbl := h.blk
    clear h hI0 HS p1 hR ho
    go_enter Try.func10, Try.ntmps10
    go_wp2_with fail
    refine hn.mono ?_
    rintro e' u ⟨rfl, hu⟩
    subst u
    go_wp2_with fail
    refine hti.mono ?_
    rintro e' u ⟨rfl, hu⟩
    subst u
    clear hn hti
    generalize hB : W.heap.size = B at *
    generalize W.alloc (.cells #[.int .i64 n, .int .i64 a, .int .i64 s, .bool e] 29) = W0 at *
    obtain ⟨k0, k1, k2, k4, ks⟩ := HBC.out W0 (Below.refl _ _)
    have hgr := HGR.out W0.drew ((Below.refl _ _).drew)
    have HD : Aside (Below W0.heap.size W0 W0.drew) := (Below.refl _ _).drew
    obtain ⟨tp, hTP⟩ : ∃ tp, top L.T = tp := ⟨_, rfl⟩
    rw [hTP] at hgr HS'
    have HTP : Aside _ := hTP
    clear hTP
    go_wp2_with fail
    refine wp_region_held_drew (S := fun X => X.cell? ⟨B, 0, none⟩ = some (.int .i64 n) ∧ X.cell? ⟨A.b, 2, none⟩ = some (.slice A.s L.T.length A.sc)) (by kernel_rfl) ⟨k0, k2⟩ (fun hHeld => ?_)
    refine wpAnyH_take (i := 0) (v := .pointer (some ⟨B, 0, none⟩)) rfl (by kernel_rfl) (by kernel_rfl) (by kernel_rfl) (fun _ _ _ h => h) (Or.inl ⟨by rfl, by intro w hs; go_simp⟩) hHeld ?_
    refine norm_any' (fun K hK => ?_)
    go_simp
    refine hK _ _ ?_
    clear hK K
    refine wpAnyH_take (i := 1) (v := .int .i64 n) rfl (by kernel_rfl) (by kernel_rfl) (by kernel_rfl) (fun _ _ _ h => h) (Or.inl ⟨by rfl, by rintro w ⟨s0, s1⟩; go_simp⟩) hHeld ?_
    refine norm_any' (fun K hK => ?_)
    go_simp
    refine hK _ _ ?_
    clear hK K
    refine wpAnyH_take (i := 2) (v := .pointer (some ⟨A.b, 0, none⟩)) rfl (by kernel_rfl) (by kernel_rfl) (by kernel_rfl) (fun _ _ _ h => h) (Or.inl ⟨by rfl, by intro w hs; go_simp⟩) hHeld ?_
    refine norm_any' (fun K hK => ?_)
    go_simp
    refine hK _ _ ?_
    clear hK K
    refine wpAnyH_take (i := 3) (v := .pointer (some ⟨A.b, 0, none⟩)) rfl (by kernel_rfl) (by kernel_rfl) (by kernel_rfl) (fun _ _ _ h => h) (Or.inl ⟨by rfl, by intro w hs; go_simp⟩) hHeld ?_
    refine norm_any' (fun K hK => ?_)
    go_simp
    refine hK _ _ ?_
    clear hK K
    refine wpAnyH_take (i := 4) (v := .pointer (some ⟨A.b, 2, none⟩)) rfl (by kernel_rfl) (by kernel_rfl) (by kernel_rfl) (fun _ _ _ h => h) (Or.inl ⟨by rfl, by intro w hs; go_simp⟩) hHeld ?_
    refine norm_any' (fun K hK => ?_)
    go_simp
    refine hK _ _ ?_
    clear hK K
    refine wpAnyH_take (i := 5) (v := .slice A.s L.T.length A.sc) rfl (by kernel_rfl) (by kernel_rfl) (by kernel_rfl) (fun _ _ _ h => h) (Or.inl ⟨by rfl, by rintro w ⟨s0, s1⟩; go_simp⟩) hHeld ?_
    refine norm_any' (fun K hK => ?_)
    go_simp
    refine hK _ _ ?_
    clear hK K
    refine wpAnyH_ready (rs := [6]) (by kernel_rfl) (by simp) (AllReadyH.cons rfl (fun K hK => ?_) AllReadyH.nil)
    go_simp
    refine hgr.mono ?_
    rintro e' u ⟨rfl, hu⟩
    subst u
    refine hK.out _ _ hHeld (fun hHeld => ?_)
    clear hK K
    refine norm_any' (fun K hK => ?_)
    go_simp
    refine hK _ _ ?_
    clear hK K
    refine wpAnyH_take (i := 7) (v := .bool (decide (n ≤ tp))) rfl (by kernel_rfl) (by kernel_rfl) (by kernel_rfl) (fun _ _ _ h => h) (Or.inl ⟨by rfl, by intro w hs; go_simp⟩) hHeld ?_
    refine norm_any' (fun K hK => ?_)
    go_simp
    refine hK _ _ ?_
    clear hK K
    refine wpAnyH_take (i := 8) (v := .bool (decide (n ≤ tp))) rfl (by kernel_rfl) (by kernel_rfl) (by kernel_rfl) (fun _ _ _ h => h) (Or.inl ⟨by rfl, by intro w hs; go_simp⟩) hHeld ?_
    refine norm_any' (fun K hK => ?_)
    go_simp
    refine hK _ _ ?_
    clear hK K
    refine wpAnyH_done (by kernel_rfl) ?_ _
    clear hHeld
    obtain ⟨m0, m1, m2, m4, ms⟩ := HBC.out W0.drew HD.out
    have HI1 : Aside (SnI W A ⟨n, a, s, e⟩ A L W0.drew) := HI0.out.bel HD.out
    clear k0 k1 k2 k4 ks hgr HGR HBC
    by_cases r1 : n ≤ tp
    · have HE : Aside _ := HNO.out 13 (by rw [HS'.out, if_pos r1]) (by decide) _ HD.out
      clear HNO HYES HI0 HO HI1 HS'
      generalize W0.drew = W1 at *
      go_wp2
      exact HE.out
    · by_cases r2 : a < L.t
      · have HE : Aside _ := HNO.out 42 (by rw [HS'.out, if_neg r1, if_pos r2]) (by decide) _ (HD.out.trans ((Below.refl _ _).drew))
        clear HNO HYES HI0 HO HI1 HS'
        generalize W0.drew = W1 at *
        go_wp2_with fail
        go_region
        go_wp2
        exact HE.out
      · have HY : Aside _ := HYES.out (by rw [HS'.out, if_neg r1, if_neg r2])
        have HI2 : Aside (SnI W A ⟨n, a, s, e⟩ A L W0.drew.drew) := HI1.out.bel ((Below.refl _ _).drew)
        clear HNO HYES HI0 HS' HD
        generalize W0.drew = W1 at *
        go_wp2_with fail
        go_region
        -- now
        obtain ⟨h3, s3⟩ := HI2.out.lg.set (L' := { L with t := a }) 4 (.int .i64 a) (by simp [Ls.cs]) rfl rfl
        have HI3 : Aside _ := HI2.out.step h3 s3
        have n4 : W1.drew.cell? ⟨A.b, 4, none⟩ = some (.int .i64 L.t) := HI2.out.lg.c4
        have nf4 : W1.drew.frozen? ⟨A.b, 4, none⟩ = false := HI2.out.lg.fz 4
        have n1 : W1.drew.cell? ⟨B, 1, none⟩ = some (.int .i64 a) := by have := HI2.out.bx; rw [hB] at this; simp [World.cell?, this]
        clear h3 s3 m0 m1 m2 m4 ms HI1 HI2
        generalize W1.drew = W2 at *
        go_wp2_with fail
        generalize W2.setCell ⟨A.b, 4, none⟩ (.int .i64 a) = W3 at *
        -- the numbers
        have HI4 : Aside (SnI W A ⟨n, a, s, e⟩ A { L with t := a } W3.drew) := HI3.out.bel ((Below.refl _ _).drew)
        have hadd := add_c HI4.out.lg n (by have := HO.out.lenT; show L.T.length ≤ _; omega) (fun x hx => by have := HO.out.tb x hx; omega)
        have n0 : W3.cell? ⟨B, 0, none⟩ = some (.int .i64 n) := by have := HI3.out.bx; rw [hB] at this; simp [World.cell?, this]
        clear n4 nf4 n1
        go_region_with (go_at_call 28; refine hadd.mono ?_; rintro e' W4 ⟨rfl, A4, hm4, hl4, hs4⟩)
        have HI5 : Aside _ := HI4.out.step hl4 hs4
        have hA4b : A4.b = A.b := hs4.b
        clear hadd n0 HI3 HI4 hl4 hs4
        -- the order, and the map
        have hgw := HI5.out.lg.grow ⟨n, a, s, e⟩ ⟨by omega, by omega, a0, a1, by omega, by omega⟩ (fun x hx => by have := HO.out.top x hx; have := r1; rw [HTP.out] at *; show x.1.n ≠ n; omega) HO.out.fit.len (by omega)
        obtain ⟨g, off, c', w3, hap, y1, yf1, hch, y0, W5, hput, hl5, hs5⟩ := hgw
        have hI6 := HI5.out.step hl5 hs5
        simp only [hA4b] at hI6 y1 yf1 hch y0 hput
        have HI6 : Aside _ := hI6
        clear hI6
        have HAP : Aside _ := hap
        have o1 : W4.cell? ⟨A.b, 1, none⟩ = some (.slice A4.o L.O.length A4.oc) := by have := HI5.out.lg.c1; rw [hA4b] at this; exact this
        have o0 : W4.cell? ⟨B, 0, none⟩ = some (.int .i64 n) := by have := HI5.out.bx; rw [hB] at this; simp [World.cell?, this]
        have o1a : (W4.alloc (.cells #[.int .i64 n] 3)).cell? ⟨A.b, 1, none⟩ = some (.slice A4.o L.O.length A4.oc) := cell_bel o1 (bel1 W4 _)
        have o0a : (W4.alloc (.cells #[.int .i64 n] 3)).cell? ⟨B, 0, none⟩ = some (.int .i64 n) := cell_bel o0 (bel1 W4 _)
        have hbx4 : (w3.setCell ⟨A.b, 1, none⟩ (.slice (some ⟨g, off, none⟩) (L.O.length + 1) c')).heap[B]? = some (.cells #[.int .i64 n, .int .i64 a, .int .i64 s, .bool e] 29 (0, 0)) := by
          have h1 := HI5.out.bx
          rw [hB] at h1
          exact hch.blk h1 (by rw [← hB]; exact HI5.out.no)
        clear hap hl5 hs5 hch
        go_wp2_with fail
        go_region_law (refine step_appr rfl (.tmp 65) (.tmp 68) 62 62 rfl _ _ rfl rfl HAP.out ?_)
        all_goals
          clear o1 o0 o1a o0a HAP y1 yf1
          generalize w3.setCell ⟨A.b, 1, none⟩ (.slice (some ⟨g, off, none⟩) (L.O.length + 1) c') = w4 at *
          have b0 : w4.cell? ⟨B, 0, none⟩ = some (.int .i64 n) := by simp [World.cell?, hbx4]
          have b1 : w4.cell? ⟨B, 1, none⟩ = some (.int .i64 a) := by simp [World.cell?, hbx4]
          have b2 : w4.cell? ⟨B, 2, none⟩ = some (.int .i64 s) := by simp [World.cell?, hbx4]
          have b3 : w4.cell? ⟨B, 3, none⟩ = some (.bool e) := by simp [World.cell?, hbx4]
          go_wp2_with fail
          go_region
          clear b0 b1 b2 b3 hbx4 hput y0
          have hb5 : W5.heap[B]? = some (.cells #[.int .i64 n, .int .i64 a, .int .i64 s, .bool e] 29 (0, 0)) := by have := HI6.out.bx; rw [hB] at this; exact this
          have d2 : W5.cell? ⟨B, 2, none⟩ = some (.int .i64 s) := by simp [World.cell?, hb5]
          have d5 : W5.cell? ⟨A.b, 5, none⟩ = some (.int .i64 L.z) := HI6.out.lg.c5
          have df5 : W5.frozen? ⟨A.b, 5, none⟩ = false := HI6.out.lg.fz 5
          have hzb := zs_bound HO.out.fit.pk
          rw [← HO.out.z] at hzb
          have hcb := ce_bound L.O
          rw [← HO.out.c] at hcb
          have hlO := HO.out.fit.len
          have iz : IntKind.i64.wrap (L.z + s) = L.z + s := wrp _ (by omega) (by omega)
          have ic : IntKind.i64.wrap (L.c + 1) = L.c + 1 := wrp _ (by omega) (by omega)
          obtain ⟨h7, s7⟩ := HI6.out.lg.set (L' := { O := L.O ++ [(⟨n, a, s, e⟩, true)], T := addT L.T n, g := L.g, t := a, z := L.z + s, c := L.c, d := L.d }) 5 (.int .i64 (L.z + s)) (by simp [Ls.cs]) rfl rfl
          have HI7 : Aside _ := (HI6.out.step h7 s7).bel ((Below.refl _ _).drew)
          clear h7 s7 HI6 hb5 hzb hcb hlO HI5
          go_wp2_with fail
          go_region
          generalize (W5.setCell ⟨A.b, 5, none⟩ (.int .i64 (L.z + s))).drew = W7 at *
          clear d2 d5 df5
          have hb7 : W7.heap[B]? = some (.cells #[.int .i64 n, .int .i64 a, .int .i64 s, .bool e] 29 (0, 0)) := by have := HI7.out.bx; rw [hB] at this; exact this
          have e3 : W7.cell? ⟨B, 3, none⟩ = some (.bool e) := by simp [World.cell?, hb7]
          have e1 : W7.cell? ⟨B, 1, none⟩ = some (.int .i64 a) := by simp [World.cell?, hb7]
          have e6 : W7.cell? ⟨A.b, 6, none⟩ = some (.int .i64 L.c) := by have := HI7.out.lg.c6; exact this
          have ef6 : W7.frozen? ⟨A.b, 6, none⟩ = false := HI7.out.lg.fz 6
          cases e with
          | false =>
            have HF : Aside _ := HY.out _ W7 (by show A4.m + 1 = _; rw [hm4]) (by have := HI7.out.lg; simpa [Ls.sent] using this) HI7.out.st
            go_wp2
            exact HF.out
          | true =>
            obtain ⟨h8, s8⟩ := HI7.out.lg.set (L' := { O := L.O ++ [(⟨n, a, s, true⟩, true)], T := addT L.T n, g := L.g, t := a, z := L.z + s, c := L.c + 1, d := L.d }) 6 (.int .i64 (L.c + 1)) (by simp [Ls.cs]) rfl rfl
            have HI8 : Aside _ := HI7.out.step h8 s8
            have e7 : (W7.setCell ⟨A.b, 6, none⟩ (.int .i64 (L.c + 1))).cell? ⟨A.b, 7, none⟩ = some (.int .i64 L.d) := h8.c7
            have ef7 : (W7.setCell ⟨A.b, 6, none⟩ (.int .i64 (L.c + 1))).frozen? ⟨A.b, 7, none⟩ = false := h8.fz 7
            have e1' : (W7.setCell ⟨A.b, 6, none⟩ (.int .i64 (L.c + 1))).cell? ⟨B, 1, none⟩ = some (.int .i64 a) := by have := HI8.out.bx; rw [hB] at this; simp [World.cell?, this]
            obtain ⟨h9, s9⟩ := h8.set (L' := L.sent ⟨n, a, s, true⟩) 7 (.int .i64 a) (by simp [Ls.cs, Ls.sent]) rfl rfl
            have HF : Aside _ := HY.out _ _ (by show A4.m + 1 = _; rw [hm4]) h9 (HI8.out.st.trans s9)
            clear h8 s8 h9 s9 HI8
            go_wp2
            exact HF.out
end Go.Proofs.Ytkjcapmhjhnckaa
