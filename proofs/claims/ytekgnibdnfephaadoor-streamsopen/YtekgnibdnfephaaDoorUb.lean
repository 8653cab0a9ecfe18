/- streams: a stream as it lies among others; Held. -/
import Derived.Test.YtekgnibdnfephaaDoorUa
import Derived.Test.YtekgnibdnfephaaDoorIPut
import Derived.Test.YtekgnibdnfephaaDoorSd
namespace Go.Proofs.YtekgnibdnfephaaDoor
open Go.RowKit Go.Maps
set_option linter.unusedVariables false

/-- A stream's inbox: none, or one that was made. -/
def Nb (W : World) (v : Value) : Prop := v = .pointer none ∨ ∃ ib m hd, ∃ cs : Array Value, v = .pointer (some ⟨ib, 0, none⟩) ∧ Rt 101 cs W ib ∧ cs[0]? = some (.map (some m)) ∧ cs[3]? = some (.int .i64 hd)
/-- A stream as it lies. -/
def Ok (W : World) (c : Value) : Prop := ∃ S v, ∃ cs : Array Value, c = .pointer (some ⟨S, 0, none⟩) ∧ Rt 80 cs W S ∧ cs[11]? = some v ∧ Nb W v
theorem chg_rt {J : Nat → Prop} {W Z : World} (hc : Chg J W Z) {T b : Nat} {cs : Array Value} (h : Rt T cs W b) (hj : ¬ J b) : Rt T cs Z b := (hc.2.2.2.2 b h.lt hj).trans h
theorem rt_ne {W : World} {T T' b b' : Nat} {cs cs' : Array Value} (h : Rt T cs W b) (h' : Rt T' cs' W b') (hT : T ≠ T') : b ≠ b' := by
  rintro rfl
  have e : some (Obj.cells cs T (0, 0)) = some (Obj.cells cs' T' (0, 0)) := h.symm.trans h'
  simp only [Option.some.injEq, Obj.cells.injEq] at e
  exact hT e.2.1
theorem rt_map {W : World} {T b b' ck : Nat} {cs : Array Value} {es : Array MapEntry} (h : Rt T cs W b) (h' : W.heap[b']? = some (.map es ck)) : b ≠ b' := by
  rintro rfl
  have e : some (Obj.cells cs T (0, 0)) = some (Obj.map es ck) := h.symm.trans h'
  simp at e
theorem Nb.chg {J : Nat → Prop} {W Z : World} {v : Value} (h : Nb W v) (hc : Chg J W Z) (hj : ∀ b (cs : Array Value), Rt 101 cs W b → ¬ J b) : Nb Z v := by
  rcases h with h | ⟨ib, m, hd, cs, h1, h2, h3⟩
  · exact .inl h
  · exact .inr ⟨ib, m, hd, cs, h1, chg_rt hc h2 (hj _ _ h2), h3⟩
theorem Ok.chg {J : Nat → Prop} {W Z : World} {c : Value} (h : Ok W c) (hc : Chg J W Z) (hj : ∀ b (cs : Array Value), Rt 101 cs W b ∨ Rt 80 cs W b → ¬ J b) : Ok Z c := by
  obtain ⟨S, v, cs, h1, h2, h3, h4⟩ := h
  exact ⟨S, v, cs, h1, chg_rt hc h2 (hj _ _ (.inr h2)), h3, h4.chg hc (fun b cs hb => hj b cs (.inl hb))⟩
theorem Ok.bel {W Z : World} {c : Value} (h : Ok W c) (hb : Below W.heap.size W Z) : Ok Z c := h.chg (bel_chg hb) (fun _ _ _ => id)
theorem nb_of {w W : World} {v : Value} {win : Int} (h : In0 w W v win) : Nb W v := by
  obtain ⟨ib, mb, h1, h2, _⟩ := h
  exact .inr ⟨ib, mb, 0, _, h1, h2.1, rfl, rfl⟩
/-- Give and how many live, of a kind. -/
def Tst.opd (st : Tst) (u : Bool) (g : Gv) (l : Int) : Tst := if u then { st with g1 := g, l1 := l } else { st with g0 := g, l0 := l }
def Tst.live (st : Tst) (u : Bool) : Int := if u then st.l1 else st.l0
theorem opd_gk (st : Tst) (u : Bool) (g : Gv) (l : Int) : (st.opd u g l).gk u = g := by cases u <;> rfl
theorem opd_gk' (st : Tst) (u : Bool) (g : Gv) (l : Int) : (st.opd u g l).gk (!u) = st.gk (!u) := by cases u <;> rfl
theorem opd_live (st : Tst) (u : Bool) (g : Gv) (l : Int) : (st.opd u g l).live u = l := by cases u <;> rfl
theorem opd_opd (st : Tst) (u : Bool) (g g' : Gv) (l l' : Int) : (st.opd u g l).opd u g' l' = st.opd u g' l' := by cases u <;> rfl
theorem opd_self (st : Tst) (u : Bool) : st.opd u (st.gk u) (st.live u) = st := by cases u <;> rfl
theorem opd_fine {st : Tst} (h : st.fine) (u : Bool) (g : Gv) (l : Int) (hg : 0 ≤ g.s ∧ g.s ≤ g.l ∧ g.l ≤ 4611686018427387903) : (st.opd u g l).fine := by
  intro v
  by_cases e : v = u
  · subst e; rw [opd_gk]; exact hg
  · obtain rfl : v = !u := by cases u <;> cases v <;> first | rfl | exact absurd rfl e
    rw [opd_gk']; exact h _
section
variable {srv : Bool} {x y : Lm} {k : Bks} {st : Tst} {W Z : World}
theorem Tb.clive (h : Tb srv x y k st W) (u : Bool) : W.cell? ⟨k.T, kof u + 1, none⟩ = some (.int .i64 (st.live u)) := by cases u; exact h.tab.cell 18; exact h.tab.cell 21
theorem Tb.flive (h : Tb srv x y k st W) (u : Bool) : W.frozen? ⟨k.T, kof u + 1, none⟩ = false := h.tab.frozen _
theorem Tb.setGive (h : Tb srv x y k st W) (u : Bool) {g : Gv} (hg : Rt 86 g.p Z (k.gk u)) (hn : Tn (k.gk u) W Z) : Tb srv x y k (st.opd u g (st.live u)) Z := by
  have nd := h.nd
  simp only [Bks.l, List.nodup_cons, List.mem_cons, not_or] at nd
  obtain ⟨⟨n1, n2, n3, n4, n5, n6, n7, n8, n9, _⟩, ⟨m1, m2, m3, m4, m5, m6, m7, m8, _⟩, ⟨p1, p2, p3, p4, p5, p6, p7, _⟩, ⟨q1, q2, q3, q4, q5, q6, _⟩, ⟨r1, r2, r3, r4, r5, _⟩, ⟨s1, s2, s3, s4, _⟩, ⟨t1, t2, t3, _⟩, ⟨v1, v2, _⟩, ⟨w1, _⟩, _⟩ := nd
  cases u
  · exact ⟨hn.rt h.tab (fun e => p4 e), hn.rt h.hg (fun e => m5 e), hn.rt h.ht (fun e => n6 e), hg, hn.rt h.ht0 (fun e => t1 e.symm), hn.rt h.hg1 (fun e => t2 e.symm), hn.rt h.ht1 (fun e => t3 e.symm), h.nd⟩
  · exact ⟨hn.rt h.tab (fun e => p6 e), hn.rt h.hg (fun e => m7 e), hn.rt h.ht (fun e => n8 e), hn.rt h.hg0 (fun e => t2 e), hn.rt h.ht0 (fun e => v1 e), hg, hn.rt h.ht1 (fun e => w1 e.symm), h.nd⟩
theorem Tb.setLive (h : Tb srv x y k st W) (u : Bool) (l : Int) : Tb srv x y k (st.opd u (st.gk u) l) (W.setCell ⟨k.T, kof u + 1, none⟩ (.int .i64 l)) := by
  have nd := h.nd
  simp only [Bks.l, List.nodup_cons, List.mem_cons, not_or] at nd
  obtain ⟨⟨n1, n2, n3, n4, n5, n6, n7, n8, n9, _⟩, ⟨m1, m2, m3, m4, m5, m6, m7, m8, _⟩, ⟨p1, p2, p3, p4, p5, p6, p7, _⟩, _⟩ := nd
  have hs : ∀ {b T : Nat} {cs : Array Value}, Rt T cs W b → b ≠ k.T → Rt T cs (W.setCell ⟨k.T, kof u + 1, none⟩ (.int .i64 l)) b := fun hr hb => (heap_set h.tab _ _ hb).trans hr
  cases u
  · exact ⟨h.tab.set 18 _, hs h.hg (fun e => m1 e), hs h.ht (fun e => n2 e), hs h.hg0 (fun e => p4 e.symm), hs h.ht0 (fun e => p5 e.symm), hs h.hg1 (fun e => p6 e.symm), hs h.ht1 (fun e => p7 e.symm), h.nd⟩
  · exact ⟨h.tab.set 21 _, hs h.hg (fun e => m1 e), hs h.ht (fun e => n2 e), hs h.hg0 (fun e => p4 e.symm), hs h.ht0 (fun e => p5 e.symm), hs h.hg1 (fun e => p6 e.symm), hs h.ht1 (fun e => p7 e.symm), h.nd⟩
theorem Tb.setMap (h : Tb srv x y k st W) (hm : ∃ es ck, W.heap[k.sb]? = some (.map es ck)) (hc : Chg (fun j => j = k.sb) W Z) : Tb srv x y k st Z := by
  obtain ⟨es, ck, hm⟩ := hm
  have hr : ∀ {b T : Nat} {cs : Array Value}, Rt T cs W b → Rt T cs Z b := fun hr => chg_rt hc hr (rt_map hr hm)
  exact ⟨hr h.tab, hr h.hg, hr h.ht, hr h.hg0, hr h.ht0, hr h.hg1, hr h.ht1, h.nd⟩
end
theorem held_nil (w : World) : Calls Tryd.prog 25 #[.pointer none] w fun e w' => e = .returned (.int .i64 0) ∧ w' = w := no_held none w (by exact Or.inl rfl)
theorem held_is (w : World) (ib m : Nat) (hd : Int) (cs : Array Value) (h : Rt 101 cs w ib) (h0 : cs[0]? = some (.map (some m))) (h3 : cs[3]? = some (.int .i64 hd)) : Calls Tryd.prog 25 #[.pointer (some ⟨ib, 0, none⟩)] w fun e w' => e = .returned (.int .i64 hd) ∧ w' = w := by
  have hn : Hid _ := some_none ib m w ((h.cell 0).trans h0)
  have c3 : w.cell? ⟨ib, 3, none⟩ = some (.int .i64 hd) := (h.cell 3).trans h3
  clear h
  go_enter Tryd.func25, Tryd.ntmps25
  go_wp2_with fail
  refine Calls.mono hn.out ?_
  rintro e w' ⟨rfl, hw⟩
  subst w'
  go_wp2
  go_ret
  exact ⟨rfl, rfl⟩
theorem held_c (w : World) (v : Value) (h : Nb w v) : Calls Tryd.prog 25 #[v] w fun e w' => (∃ hd, e = .returned (.int .i64 hd)) ∧ w' = w := by
  rcases h with rfl | ⟨ib, m, hd, cs, rfl, h2, h3, h4⟩
  · exact (held_nil w).mono fun e w' ⟨h, hw⟩ => ⟨⟨_, h⟩, hw⟩
  · exact (held_is w ib m hd cs h2 h3 h4).mono fun e w' ⟨h, hw⟩ => ⟨⟨_, h⟩, hw⟩
theorem telling_c (n : Int) (w : World) (h : n ≤ 4611686018427387903) : Calls Tryd.prog 24 #[.int .i64 n] w fun e w' => e = .returned (.int .i64 n) ∧ w' = w := by
  go_enter Tryd.func24, Tryd.ntmps24
  go_wp2
  go_ret
  exact ⟨rfl, rfl⟩
end Go.Proofs.YtekgnibdnfephaaDoor
