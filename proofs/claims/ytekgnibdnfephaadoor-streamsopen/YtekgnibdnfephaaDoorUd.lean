/- streams: Open. -/
import Derived.Test.YtekgnibdnfephaaDoorUb
namespace Go.Proofs.YtekgnibdnfephaaDoor
open Go.RowKit Go.Maps
set_option linter.unusedVariables false
set_option maxRecDepth 100000

theorem begin_m {srv : Bool} {x y : Lm} {k : Bks} {st : Tst} {w : World} (h : Tb srv x y k st w) (hx : x.le ownM = true) (hy : y.le peerM = true) (p : Nat) (u : Bool) (hp : p < 1152921504606846976) :
    Calls Tryd.prog 21 #[.pointer (some ⟨k.T, 0, none⟩), .int .i64 (sid p srv u)] w fun e w' => ∃ S, e = .returned (.pointer (some ⟨S, 0, none⟩)) ∧ Below w.heap.size w w' ∧ Ok w' (.pointer (some ⟨S, 0, none⟩)) := by
  have hq : (srv == srv) = true := by cases srv <;> rfl
  cases u
  · refine (begin_mb h hx hy p srv hp hq).mono ?_
    rintro e w' ⟨S, vo, vg, vi, rfl, hb, hi⟩
    exact ⟨S, rfl, hb.bel, S, vi, _, rfl, hb.sc, rfl, nb_of hi⟩
  · refine (begin_mu h hx hy p srv hp hq).mono ?_
    rintro e w' ⟨S, vo, vg, vi, rfl, hb, hi⟩
    exact ⟨S, rfl, hb.bel, S, vi, _, rfl, hb.sc, rfl, .inl hi⟩
/-- A table while a stream is opened. -/
structure Os (srv : Bool) (x y : Lm) (k : Bks) (st : Tst) (u : Bool) (w : World) (n : Nat) (G : Int → Option Value) (X : World) : Prop where
  tb : Tb srv x y k st X
  sx : Sx X k.sb n G
  ch : Chg (fun j => j = k.T ∨ j = k.sb ∨ j = k.gk u) w X
theorem tn_give {srv : Bool} {x y : Lm} {k : Bks} {st : Tst} {X Z : World} {n : Nat} {G : Int → Option Value} {u : Bool} (ht : Tb srv x y k st X) (hs : Sx X k.sb n G) (hn : Tn (k.gk u) X Z) : Sx Z k.sb n G := by
  obtain ⟨es, ck, hm⟩ := hs.map
  exact hs.kept (hn.2.2.2.2 k.sb hs.lt (fun e => rt_map (ht.hgk u) hm e.symm))
section
variable {srv : Bool} {x y : Lm} {k : Bks} {st : Tst} {u : Bool} {w : World} {n : Nat} {G : Int → Option Value} {X Z : World}
theorem Os.go (h : Os srv x y k st u w n G X) (hb : Below X.heap.size X Z) : Os srv x y k st u w n G Z :=
  ⟨h.tb.go hb, h.sx.kept (hb.block k.sb h.sx.lt), h.ch.andThen (bel_chg hb) (fun _ _ e => e)⟩
theorem Os.give (h : Os srv x y k st u w n G X) {g : Gv} (hg : Rt 86 g.p Z (k.gk u)) (hn : Tn (k.gk u) X Z) : Os srv x y k (st.opd u g (st.live u)) u w n G Z :=
  ⟨h.tb.setGive u hg hn, tn_give h.tb h.sx hn, h.ch.andThen (tn_chg hn) (fun _ _ e => .inr (.inr e))⟩
theorem Os.live (h : Os srv x y k st u w n G X) (l : Int) : Os srv x y k (st.opd u (st.gk u) l) u w n G (X.setCell ⟨k.T, kof u + 1, none⟩ (.int .i64 l)) := by
  obtain ⟨es, ck, hm⟩ := h.sx.map
  refine ⟨h.tb.setLive u l, h.sx.kept (heap_set h.tb.tab _ _ (fun e => rt_map h.tb.tab hm e.symm)), h.ch.andThen (tn_chg (Tn.set h.tb.tab _ _)) (fun _ _ e => .inl e)⟩
theorem Os.put (h : Os srv x y k st u w n G X) {n' : Nat} {G' : Int → Option Value} (hs : Sx Z k.sb n' G') (hc : Chg (fun j => j = k.sb) X Z) : Os srv x y k st u w n' G' Z :=
  ⟨h.tb.setMap h.sx.map hc, hs, h.ch.andThen hc (fun _ _ e => .inr (.inl e))⟩
theorem Os.c0 (h : Os srv x y k st u w n G X) : X.cell? ⟨k.T, 0, none⟩ = some (.bool srv) := h.tb.tab.cell 0
theorem Os.c13 (h : Os srv x y k st u w n G X) : X.cell? ⟨k.T, 13, none⟩ = some (.map (some k.sb)) := h.tb.tab.cell 13
theorem Os.cg (h : Os srv x y k st u w n G X) : X.cell? ⟨k.T, kof u, none⟩ = some (.pointer (some ⟨k.gk u, 0, none⟩)) := h.tb.cg u
/-- What Open turns touches no stream and no inbox. -/
theorem ok_turn {W0 : World} (ht : Tb srv x y k st W0) (hm : ∃ es ck, W0.heap[k.sb]? = some (.map es ck)) {Z : World} (hc : Chg (fun j => j = k.T ∨ j = k.sb ∨ j = k.gk u) W0 Z) {c : Value} (h : Ok W0 c) : Ok Z c := by
  obtain ⟨es, ck, hm⟩ := hm
  refine h.chg hc (fun b cs hb => ?_)
  rintro (rfl | rfl | rfl)
  · rcases hb with hb | hb
    · exact rt_ne hb ht.tab (by decide) rfl
    · exact rt_ne hb ht.tab (by decide) rfl
  · rcases hb with hb | hb
    · exact rt_map hb hm rfl
    · exact rt_map hb hm rfl
  · rcases hb with hb | hb
    · exact rt_ne hb (ht.hgk u) (by decide) rfl
    · exact rt_ne hb (ht.hgk u) (by decide) rfl
end
set_option maxHeartbeats 2000000 in
/-- Open, where all that the peer allows is open. -/
theorem open_full {srv : Bool} {x y : Lm} {k : Bks} {st : Tst} {w : World} {n : Nat} {G : Int → Option Value} (hx : x.le ownM = true) (hy : y.le peerM = true) (h : Tb srv x y k st w) (hf : st.fine) (hs : Sx w k.sb n G) (u : Bool) (c : Nat) (hc : (st.gk u).s = (c : Int)) (hv : 0 ≤ st.live u ∧ st.live u ≤ 1000) (hcb : c < 100000) (hlt : (st.gk u).l = (c : Int)) :
    Calls Tryd.prog 6 #[.pointer (some ⟨k.T, 0, none⟩), .bool u] w fun e w' => e = .returned (.tuple #[.int .i64 0, .int .i64 31]) ∧ Tb srv x y k st w' ∧ Sx w' k.sb n G ∧ Chg (fun j => j = k.T ∨ j = k.sb ∨ j = k.gk u) w w' := by
  have e1 : (st.gk u).spe 1 = (30, st.gk u) := by
    unfold Gv.spe
    rw [if_neg (by omega), hlt, hc, if_pos (by rw [wrp _ (by omega) (by omega)]; omega)]
  have HSD : Hid (∀ X, Tb srv x y k st X → _) := fun X (hX : Tb srv x y k st X) => spend_c (k.gk u) (st.gk u) 1 X (hX.hgk u)
  rw [e1] at HSD
  have HSELF : Hid (st.opd u (st.gk u) (st.live u) = st) := opd_self st u
  clear e1
  have HN : Hid _ := tnone_c h
  have HK : Hid (∀ w, _) := fun w => kind_c k.T u w
  have HSP : Hid (∀ X, Tb srv x y k st X → _) := fun X (hX : Tb srv x y k st X) => spent_c hX u (hf u)
  have HO : Hid (Os srv x y k st u w n G w) := ⟨h, hs, Chg.refl _ _⟩
  rw [hc] at HSP
  have HLV : Hid (0 ≤ st.live u ∧ st.live u ≤ 1000) := hv
  obtain ⟨lv, hlv⟩ : ∃ l, st.live u = l := ⟨_, rfl⟩
  have HLW : Hid (st.live u = lv) := hlv
  have hne : ¬ lv = 1024 := by omega
  clear h hs
  go_enter Tryd.func6, Tryd.ntmps6
  go_wp2_with fail
  refine Calls.mono HN.out ?_
  rintro e w' ⟨rfl, hw⟩
  subst w'
  go_wp2_with fail
  refine (HK.out _).mono ?_
  rintro e w' ⟨rfl, hw⟩
  subst w'
  go_upto_region 4 with fail
  have HO1 : Hid _ := HO.out.go (bel_drew w)
  have s1 : Hid (w.drew.cell? ⟨k.T, 0, none⟩ = some (.bool srv)) := HO1.out.c0
  refine wp_region_held_drew (S := fun X => X.cell? ⟨k.T, 0, none⟩ = some (.bool srv)) (by kernel_rfl) s1.out (fun hHeld => ?_)
  generalize w.drew = Y at *
  clear HO
  refine wpAnyH_take (i := 0) (v := .pointer (some ⟨k.T, kof u, none⟩)) rfl (by kernel_rfl) (by kernel_rfl) (by kernel_rfl) (fun _ _ _ h => h) (Or.inl ⟨by rfl, by intro w hs; go_simp⟩) hHeld ?_
  refine norm_any' (fun K hK => ?_); go_simp; refine hK _ _ ?_; clear hK K
  refine wpAnyH_take (i := 2) (v := .pointer (some ⟨k.T, 0, none⟩)) rfl (by kernel_rfl) (by kernel_rfl) (by kernel_rfl) (fun _ _ _ h => h) (Or.inl ⟨by rfl, by intro w hs; go_simp⟩) hHeld ?_
  refine norm_any' (fun K hK => ?_); go_simp; refine hK _ _ ?_; clear hK K
  refine wpAnyH_take (i := 3) (v := .pointer (some ⟨k.T, 0, none⟩)) rfl (by kernel_rfl) (by kernel_rfl) (by kernel_rfl) (fun _ _ _ h => h) (Or.inl ⟨by rfl, by intro w hs; go_simp⟩) hHeld ?_
  refine norm_any' (fun K hK => ?_); go_simp; refine hK _ _ ?_; clear hK K
  refine wpAnyH_take (i := 4) (v := .pointer (some ⟨k.T, 0, none⟩)) rfl (by kernel_rfl) (by kernel_rfl) (by kernel_rfl) (fun _ _ _ h => h) (Or.inl ⟨by rfl, by intro w hs; go_simp⟩) hHeld ?_
  refine norm_any' (fun K hK => ?_); go_simp; refine hK _ _ ?_; clear hK K
  refine wpAnyH_take (i := 5) (v := .bool srv) rfl (by kernel_rfl) (by kernel_rfl) (by kernel_rfl) (fun _ _ _ h => h) (Or.inl ⟨by rfl, by intro w_ s1; go_simp⟩) hHeld ?_
  refine norm_any' (fun K hK => ?_); go_simp; refine hK _ _ ?_; clear hK K
  refine wpAnyH_take (i := 6) (v := .bool u) rfl (by kernel_rfl) (by kernel_rfl) (by kernel_rfl) (fun _ _ _ h => h) (Or.inl ⟨by rfl, by intro w hs; go_simp⟩) hHeld ?_
  refine norm_any' (fun K hK => ?_); go_simp; refine hK _ _ ?_; clear hK K
  refine wpAnyH_ready (rs := [1]) (by kernel_rfl) (by simp) (AllReadyH.cons rfl (fun K hK => ?_) AllReadyH.nil)
  go_simp
  refine Calls.mono (HSP.out _ HO1.out.tb) ?_
  rintro e Y1 ⟨rfl, hb1⟩
  have HO2 : Hid _ := HO1.out.go hb1
  have s2 : Hid (Y1.cell? ⟨k.T, 0, none⟩ = some (.bool srv)) := HO2.out.c0
  clear hb1 HO1 s1
  refine hK.out _ _ s2.out (fun hHeld => ?_)
  clear hK K
  refine norm_any' (fun K hK => ?_); go_simp; refine hK _ _ ?_; clear hK K
  refine wpAnyH_ready (rs := [7]) (by kernel_rfl) (by simp) (AllReadyH.cons rfl (fun K hK => ?_) AllReadyH.nil)
  go_simp
  refine Calls.mono (number_c c srv u _ (by omega)) ?_
  rintro e Y' ⟨rfl, hw⟩
  subst Y'
  refine hK.out _ _ s2.out (fun hHeld => ?_)
  clear hK K
  refine norm_any' (fun K hK => ?_); go_simp; refine hK _ _ ?_; clear hK K
  refine wpAnyH_take (i := 8) (v := .int .i64 (sid c srv u)) rfl (by kernel_rfl) (by kernel_rfl) (by kernel_rfl) (fun _ _ _ h => h) (Or.inl ⟨by rfl, by intro w hs; go_simp⟩) hHeld ?_
  refine norm_any' (fun K hK => ?_); go_simp; refine hK _ _ ?_; clear hK K
  refine wpAnyH_done (by kernel_rfl) ?_ _
  have cl : Y1.cell? ⟨k.T, kof u + 1, none⟩ = some (.int .i64 lv) := by rw [← HLW.out]; exact HO2.out.tb.clive u
  have cg := HO2.out.cg
  clear s2 hlv hv
  go_wp2_with fail
  refine Calls.mono (HSD.out _ HO2.out.tb) ?_
  rintro e X ⟨rfl, hg, hn⟩
  have HO3 : Hid (Os srv x y k st u w n G X) := by have := HO2.out.give hg hn; rw [HSELF.out] at this; exact this
  clear hg hn cl cg HO2
  go_wp2
  go_ret2
  exact ⟨rfl, HO3.out.tb, HO3.out.sx, HO3.out.ch⟩
set_option maxHeartbeats 4000000 in
/-- Open of one more. -/
theorem open_more {srv : Bool} {x y : Lm} {k : Bks} {st : Tst} {w : World} {n : Nat} {G : Int → Option Value} (hx : x.le ownM = true) (hy : y.le peerM = true) (h : Tb srv x y k st w) (hf : st.fine) (hs : Sx w k.sb n G) (u : Bool) (c : Nat) (hc : (st.gk u).s = (c : Int)) (hv : 0 ≤ st.live u ∧ st.live u ≤ 1000) (hcb : c < 100000) (hlt : (c : Int) < (st.gk u).l) (hG : G (sid c srv u) = none) (hnn : n < 1000000) :
    Calls Tryd.prog 6 #[.pointer (some ⟨k.T, 0, none⟩), .bool u] w fun e w' => e = .returned (.tuple #[.int .i64 (sid c srv u), .int .i64 0]) ∧ ∃ v, Tb srv x y k (st.opd u { st.gk u with s := ((c + 1 : Nat) : Int) } (st.live u + 1)) w' ∧ Sx w' k.sb (n + 1) (fun b => if b = sid c srv u then some v else G b) ∧ Ok w' v ∧ Chg (fun j => j = k.T ∨ j = k.sb ∨ j = k.gk u) w w' := by
  have hl62 := (hf u).2.2
  have e1 : (st.gk u).spe 1 = (0, { st.gk u with s := ((c + 1 : Nat) : Int) }) := by
    unfold Gv.spe
    rw [if_neg (by omega), hc, if_neg (by rw [wrp _ (by omega) (by omega)]; omega), wrp _ (by omega) (by omega)]
    rfl
  have HSD : Hid (∀ X, Tb srv x y k st X → _) := fun X (hX : Tb srv x y k st X) => spend_c (k.gk u) (st.gk u) 1 X (hX.hgk u)
  rw [e1] at HSD
  have HG : Hid (G (sid c srv u) = none) := hG
  have hw64 : wfI (sid c srv u) := wfi (sid_0 _ _ _) (by have := sid_le c srv u; omega)
  have HW64 : Hid _ := hw64
  clear e1 hG hw64
  have HN : Hid _ := tnone_c h
  have HK : Hid (∀ w, _) := fun w => kind_c k.T u w
  have HSP : Hid (∀ X, Tb srv x y k st X → _) := fun X (hX : Tb srv x y k st X) => spent_c hX u (hf u)
  have HO : Hid (Os srv x y k st u w n G w) := ⟨h, hs, Chg.refl _ _⟩
  rw [hc] at HSP
  have HLV : Hid (0 ≤ st.live u ∧ st.live u ≤ 1000) := hv
  obtain ⟨lv, hlv⟩ : ∃ l, st.live u = l := ⟨_, rfl⟩
  have HLW : Hid (st.live u = lv) := hlv
  have hne : ¬ lv = 1024 := by omega
  clear h hs
  go_enter Tryd.func6, Tryd.ntmps6
  go_wp2_with fail
  refine Calls.mono HN.out ?_
  rintro e w' ⟨rfl, hw⟩
  subst w'
  go_wp2_with fail
  refine (HK.out _).mono ?_
  rintro e w' ⟨rfl, hw⟩
  subst w'
  go_upto_region 4 with fail
  have HO1 : Hid _ := HO.out.go (bel_drew w)
  have s1 : Hid (w.drew.cell? ⟨k.T, 0, none⟩ = some (.bool srv)) := HO1.out.c0
  refine wp_region_held_drew (S := fun X => X.cell? ⟨k.T, 0, none⟩ = some (.bool srv)) (by kernel_rfl) s1.out (fun hHeld => ?_)
  generalize w.drew = Y at *
  clear HO
  refine wpAnyH_take (i := 0) (v := .pointer (some ⟨k.T, kof u, none⟩)) rfl (by kernel_rfl) (by kernel_rfl) (by kernel_rfl) (fun _ _ _ h => h) (Or.inl ⟨by rfl, by intro w hs; go_simp⟩) hHeld ?_
  refine norm_any' (fun K hK => ?_); go_simp; refine hK _ _ ?_; clear hK K
  refine wpAnyH_take (i := 2) (v := .pointer (some ⟨k.T, 0, none⟩)) rfl (by kernel_rfl) (by kernel_rfl) (by kernel_rfl) (fun _ _ _ h => h) (Or.inl ⟨by rfl, by intro w hs; go_simp⟩) hHeld ?_
  refine norm_any' (fun K hK => ?_); go_simp; refine hK _ _ ?_; clear hK K
  refine wpAnyH_take (i := 3) (v := .pointer (some ⟨k.T, 0, none⟩)) rfl (by kernel_rfl) (by kernel_rfl) (by kernel_rfl) (fun _ _ _ h => h) (Or.inl ⟨by rfl, by intro w hs; go_simp⟩) hHeld ?_
  refine norm_any' (fun K hK => ?_); go_simp; refine hK _ _ ?_; clear hK K
  refine wpAnyH_take (i := 4) (v := .pointer (some ⟨k.T, 0, none⟩)) rfl (by kernel_rfl) (by kernel_rfl) (by kernel_rfl) (fun _ _ _ h => h) (Or.inl ⟨by rfl, by intro w hs; go_simp⟩) hHeld ?_
  refine norm_any' (fun K hK => ?_); go_simp; refine hK _ _ ?_; clear hK K
  refine wpAnyH_take (i := 5) (v := .bool srv) rfl (by kernel_rfl) (by kernel_rfl) (by kernel_rfl) (fun _ _ _ h => h) (Or.inl ⟨by rfl, by intro w_ s1; go_simp⟩) hHeld ?_
  refine norm_any' (fun K hK => ?_); go_simp; refine hK _ _ ?_; clear hK K
  refine wpAnyH_take (i := 6) (v := .bool u) rfl (by kernel_rfl) (by kernel_rfl) (by kernel_rfl) (fun _ _ _ h => h) (Or.inl ⟨by rfl, by intro w hs; go_simp⟩) hHeld ?_
  refine norm_any' (fun K hK => ?_); go_simp; refine hK _ _ ?_; clear hK K
  refine wpAnyH_ready (rs := [1]) (by kernel_rfl) (by simp) (AllReadyH.cons rfl (fun K hK => ?_) AllReadyH.nil)
  go_simp
  refine Calls.mono (HSP.out _ HO1.out.tb) ?_
  rintro e Y1 ⟨rfl, hb1⟩
  have HO2 : Hid _ := HO1.out.go hb1
  have s2 : Hid (Y1.cell? ⟨k.T, 0, none⟩ = some (.bool srv)) := HO2.out.c0
  clear hb1 HO1 s1
  refine hK.out _ _ s2.out (fun hHeld => ?_)
  clear hK K
  refine norm_any' (fun K hK => ?_); go_simp; refine hK _ _ ?_; clear hK K
  refine wpAnyH_ready (rs := [7]) (by kernel_rfl) (by simp) (AllReadyH.cons rfl (fun K hK => ?_) AllReadyH.nil)
  go_simp
  refine Calls.mono (number_c c srv u _ (by omega)) ?_
  rintro e Y' ⟨rfl, hw⟩
  subst Y'
  refine hK.out _ _ s2.out (fun hHeld => ?_)
  clear hK K
  refine norm_any' (fun K hK => ?_); go_simp; refine hK _ _ ?_; clear hK K
  refine wpAnyH_take (i := 8) (v := .int .i64 (sid c srv u)) rfl (by kernel_rfl) (by kernel_rfl) (by kernel_rfl) (fun _ _ _ h => h) (Or.inl ⟨by rfl, by intro w hs; go_simp⟩) hHeld ?_
  refine norm_any' (fun K hK => ?_); go_simp; refine hK _ _ ?_; clear hK K
  refine wpAnyH_done (by kernel_rfl) ?_ _
  have cl : Y1.cell? ⟨k.T, kof u + 1, none⟩ = some (.int .i64 lv) := by rw [← HLW.out]; exact HO2.out.tb.clive u
  have cg := HO2.out.cg
  clear s2 hlv hv
  go_wp2_with fail
  refine Calls.mono (HSD.out _ HO2.out.tb) ?_
  rintro e X ⟨rfl, hg, hn⟩
  have HO3 : Hid _ := HO2.out.give hg hn
  have cl2 : X.cell? ⟨k.T, kof u + 1, none⟩ = some (.int .i64 lv) := by
    have := HO3.out.tb.clive u
    rw [opd_live, HLW.out] at this
    exact this
  have fl : X.frozen? ⟨k.T, kof u + 1, none⟩ = false := HO3.out.tb.flive u
  have ew : IntKind.i64.wrap (lv + 1) = lv + 1 := by have := HLV.out; have := HLW.out; exact wrp _ (by omega) (by omega)
  clear hg hn cl cg HO2
  go_upto_region 8 with fail
  have HO4 : Hid (Os srv x y k (st.opd u { st.gk u with s := ((c + 1 : Nat) : Int) } (lv + 1)) u w n G (X.setCell ⟨k.T, kof u + 1, none⟩ (.int .i64 (lv + 1)))) := by
    have := HO3.out.live (lv + 1)
    rw [opd_gk, opd_opd] at this
    exact this
  generalize X.setCell ⟨k.T, kof u + 1, none⟩ (.int .i64 (lv + 1)) = X4 at *
  clear cl2 fl HO3
  have HO5 : Hid _ := HO4.out.go (bel_drew X4)
  have s5 : Hid (X4.drew.cell? ⟨k.T, 13, none⟩ = some (.map (some k.sb))) := HO5.out.c13
  refine wp_region_held_drew (S := fun X => X.cell? ⟨k.T, 13, none⟩ = some (.map (some k.sb))) (by kernel_rfl) s5.out (fun hHeld => ?_)
  generalize X4.drew = Z at *
  clear HO4
  refine wpAnyH_take (i := 0) (v := .pointer (some ⟨k.T, 0, none⟩)) rfl (by kernel_rfl) (by kernel_rfl) (by kernel_rfl) (fun _ _ _ h => h) (Or.inl ⟨by rfl, by intro w hs; go_simp⟩) hHeld ?_
  refine norm_any' (fun K hK => ?_); go_simp; refine hK _ _ ?_; clear hK K
  refine wpAnyH_take (i := 1) (v := .pointer (some ⟨k.T, 0, none⟩)) rfl (by kernel_rfl) (by kernel_rfl) (by kernel_rfl) (fun _ _ _ h => h) (Or.inl ⟨by rfl, by intro w hs; go_simp⟩) hHeld ?_
  refine norm_any' (fun K hK => ?_); go_simp; refine hK _ _ ?_; clear hK K
  refine wpAnyH_take (i := 2) (v := .pointer (some ⟨k.T, 13, none⟩)) rfl (by kernel_rfl) (by kernel_rfl) (by kernel_rfl) (fun _ _ _ h => h) (Or.inl ⟨by rfl, by intro w hs; go_simp⟩) hHeld ?_
  refine norm_any' (fun K hK => ?_); go_simp; refine hK _ _ ?_; clear hK K
  refine wpAnyH_take (i := 3) (v := .map (some k.sb)) rfl (by kernel_rfl) (by kernel_rfl) (by kernel_rfl) (fun _ _ _ h => h) (Or.inl ⟨by rfl, by intro w_ s5; go_simp⟩) hHeld ?_
  refine norm_any' (fun K hK => ?_); go_simp; refine hK _ _ ?_; clear hK K
  refine wpAnyH_take (i := 4) (v := .int .i64 (sid c srv u)) rfl (by kernel_rfl) (by kernel_rfl) (by kernel_rfl) (fun _ _ _ h => h) (Or.inl ⟨by rfl, by intro w hs; go_simp⟩) hHeld ?_
  refine norm_any' (fun K hK => ?_); go_simp; refine hK _ _ ?_; clear hK K
  refine wpAnyH_take (i := 5) (v := .pointer (some ⟨k.T, 0, none⟩)) rfl (by kernel_rfl) (by kernel_rfl) (by kernel_rfl) (fun _ _ _ h => h) (Or.inl ⟨by rfl, by intro w hs; go_simp⟩) hHeld ?_
  refine norm_any' (fun K hK => ?_); go_simp; refine hK _ _ ?_; clear hK K
  refine wpAnyH_take (i := 6) (v := .int .i64 (sid c srv u)) rfl (by kernel_rfl) (by kernel_rfl) (by kernel_rfl) (fun _ _ _ h => h) (Or.inl ⟨by rfl, by intro w hs; go_simp⟩) hHeld ?_
  refine norm_any' (fun K hK => ?_); go_simp; refine hK _ _ ?_; clear hK K
  refine wpAnyH_ready (rs := [7]) (by kernel_rfl) (by simp) (AllReadyH.cons rfl (fun K hK => ?_) AllReadyH.nil)
  go_simp
  refine Calls.mono (begin_m HO5.out.tb hx hy c u (by omega)) ?_
  rintro e Z2 ⟨S2, rfl, hb2, hok⟩
  have HO6 : Hid _ := HO5.out.go hb2
  have HOK : Hid _ := hok
  have s6 : Hid (Z2.cell? ⟨k.T, 13, none⟩ = some (.map (some k.sb))) := HO6.out.c13
  clear hb2 hok HO5 s5
  refine hK.out _ _ s6.out (fun hHeld => ?_)
  clear hK K
  refine norm_any' (fun K hK => ?_); go_simp; refine hK _ _ ?_; clear hK K
  obtain ⟨W3, hrun, hsx, hch⟩ := HO6.out.sx.put (sid c srv u) HW64.out HG.out (by omega) (.pointer (some ⟨S2, 0, none⟩))
  have HO7 : Hid _ := HO6.out.put hsx hch
  have HOK2 : Hid _ := ok_turn (u := u) HO6.out.tb HO6.out.sx.map (((Chg.refl (fun j => j = k.T ∨ j = k.sb ∨ j = k.gk u) _).andThen hch (fun _ _ e => .inr (.inl e)))) HOK.out
  refine wpAnyH_ready (rs := [8]) (by kernel_rfl) (by simp) (AllReadyH.cons rfl (fun K hK => ?_) AllReadyH.nil)
  go_simp
  clear hrun hsx hch HO6
  have s7 : Hid (W3.cell? ⟨k.T, 13, none⟩ = some (.map (some k.sb))) := HO7.out.c13
  refine hK.out _ _ s7.out (fun hHeld => ?_)
  clear hK K
  refine norm_any' (fun K hK => ?_); go_simp; refine hK _ _ ?_; clear hK K
  refine wpAnyH_done (by kernel_rfl) ?_ _
  go_wp2
  go_ret2
  refine ⟨rfl, ?_, .pointer (some ⟨S2, 0, none⟩), HO7.out.sx, HOK2.out, HO7.out.ch⟩
  rw [HLW.out]
  exact HO7.out.tb
end Go.Proofs.YtekgnibdnfephaaDoor
