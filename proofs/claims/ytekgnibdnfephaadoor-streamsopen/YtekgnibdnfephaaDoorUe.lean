/- streams: Take of MaxStreams; Accept. -/
import Derived.Test.YtekgnibdnfephaaDoorUd
namespace Go.Proofs.YtekgnibdnfephaaDoor
open Go.RowKit Go.Maps
set_option linter.unusedVariables false
set_option maxRecDepth 100000

/-- A frame that tells a limit. -/
def frL (k_ l : Int) : List Value := [.int .i64 k_, .int .i64 0, .int .i64 0, .slice none 0 0, .bool false, .bool false, .int .i64 l, .int .i64 0, .int .i64 0, .slice none 0 0, .int .i64 0, .int .i64 0, .int .i64 0, .int .i64 0, .int .i64 0, .int .i64 0, .slice none 0 0, .int .u8 0, .int .u8 0, .int .u8 0, .int .u8 0, .int .u8 0, .int .u8 0, .int .u8 0, .int .u8 0, .int .u8 0, .int .u8 0, .int .u8 0, .int .u8 0, .int .u8 0, .int .u8 0, .int .u8 0, .int .u8 0, .int .u8 0, .int .u8 0, .int .u8 0, .int .u8 0, .int .u8 0, .int .u8 0, .int .u8 0, .int .u8 0, .int .i64 0]
/-- The kind of frames that tell how many streams there may be. -/
def mxk (u : Bool) : Int := if u then 19 else 18
structure Fx (srv : Bool) (x y : Lm) (k : Bks) (st : Tst) (u : Bool) (w : World) (n : Nat) (G : Int → Option Value) (k_ l : Int) (B : Nat) (X : World) : Prop where
  os : Os srv x y k st u w n G X
  bx : Rt 42 (frL k_ l).toArray X B
theorem box_l (w : World) (k_ l : Int) : ∃ X, w.alloc (.cells (frL k_ l).toArray 42) = X ∧ Rt 42 (frL k_ l).toArray X w.heap.size ∧ Below w.heap.size w X := ⟨_, rfl, heap_alloc_new _ _, bel1 _ _⟩
section
variable {srv : Bool} {x y : Lm} {k : Bks} {st : Tst} {u : Bool} {w : World} {n : Nat} {G : Int → Option Value} {k_ l : Int} {B : Nat} {X Z : World}
theorem Fx.go (h : Fx srv x y k st u w n G k_ l B X) (hb : Below X.heap.size X Z) : Fx srv x y k st u w n G k_ l B Z := ⟨h.os.go hb, rt_bel h.bx hb⟩
theorem Fx.c0 (h : Fx srv x y k st u w n G k_ l B X) : X.cell? ⟨B, 0, none⟩ = some (.int .i64 k_) := h.bx.cell 0
theorem Fx.c6 (h : Fx srv x y k st u w n G k_ l B X) : X.cell? ⟨B, 6, none⟩ = some (.int .i64 l) := h.bx.cell 6
theorem Fx.give (h : Fx srv x y k st u w n G k_ l B X) {g : Gv} (hg : Rt 86 g.p Z (k.gk u)) (hn : Tn (k.gk u) X Z) : Fx srv x y k (st.opd u g (st.live u)) u w n G k_ l B Z :=
  ⟨h.os.give hg hn, hn.rt h.bx (rt_ne h.bx (h.os.tb.hgk u) (by decide))⟩
end
section
variable {srv : Bool} {x y : Lm} {k : Bks} {st : Tst} {w : World}
set_option maxHeartbeats 2000000 in
theorem take_max_false (h : Tb srv x y k st w) {n : Nat} {G : Int → Option Value} (hs : Sx w k.sb n G) (l : Int) (hl : l ≤ 4611686018427387903) (ho : (st.gk false).ok) :
    Calls Tryd.prog 7 #[.pointer (some ⟨k.T, 0, none⟩), .agg (frL 18 l).toArray] w fun e w' => e = .returned .nilIface ∧ Tb srv x y k (st.opd false ((st.gk false).rai l).2 (st.live false)) w' ∧ Sx w' k.sb n G ∧ Chg (fun j => j = k.T ∨ j = k.sb ∨ j = k.gk false) w w' := by
  obtain ⟨X, hX, hx, hb⟩ := box_l w 18 l
  have HF : Hid (Fx srv x y k st false w n G 18 l w.heap.size X) := ⟨(⟨h, hs, Chg.refl _ _⟩ : Os srv x y k st false w n G w).go hb, hx⟩
  have HR : Hid (∀ X, Tb srv x y k st X → _) := fun X (hX : Tb srv x y k st X) => graise_c (k.gk false) (st.gk false) l X (hX.hgk false) ho
  clear h hs ho hx hb
  go_enter Tryd.func7, Tryd.ntmps7
  go_upto_region 1 with fail
  clear hX
  generalize w.heap.size = B at *
  go_wp2_with fail
  refine Calls.mono (tnone_c HF.out.os.tb) ?_
  rintro e w' ⟨rfl, hw⟩
  subst w'
  have c0 := HF.out.c0
  go_upto_region 15 with fail
  clear c0
  have HF1 : Hid _ := HF.out.go (bel_drew X)
  have s1 : Hid (X.drew.cell? ⟨B, 0, none⟩ = some (.int .i64 18) ∧ X.drew.cell? ⟨B, 6, none⟩ = some (.int .i64 l) ∧ X.drew.cell? ⟨k.T, (kof false), none⟩ = some (.pointer (some ⟨k.gk false, 0, none⟩))) := ⟨HF1.out.c0, HF1.out.c6, HF1.out.os.tb.cg false⟩
  refine wp_region_held_drew (S := fun X => X.cell? ⟨B, 0, none⟩ = some (.int .i64 18) ∧ X.cell? ⟨B, 6, none⟩ = some (.int .i64 l) ∧ X.cell? ⟨k.T, (kof false), none⟩ = some (.pointer (some ⟨k.gk false, 0, none⟩))) (by kernel_rfl) s1.out (fun hHeld => ?_)
  generalize X.drew = Y at *
  clear HF
  refine wpAnyH_take (i := 0) (v := .pointer (some ⟨k.T, 0, none⟩)) rfl (by kernel_rfl) (by kernel_rfl) (by kernel_rfl) (fun _ _ _ h => h) (Or.inl ⟨by rfl, by intro w hs; go_simp⟩) hHeld ?_
  refine norm_any' (fun K hK => ?_); go_simp; refine hK _ _ ?_; clear hK K
  refine wpAnyH_take (i := 1) (v := .pointer (some ⟨B, 0, none⟩)) rfl (by kernel_rfl) (by kernel_rfl) (by kernel_rfl) (fun _ _ _ h => h) (Or.inl ⟨by rfl, by intro w hs; go_simp⟩) hHeld ?_
  refine norm_any' (fun K hK => ?_); go_simp; refine hK _ _ ?_; clear hK K
  refine wpAnyH_take (i := 2) (v := .int .i64 18) rfl (by kernel_rfl) (by kernel_rfl) (by kernel_rfl) (fun _ _ _ h => h) (Or.inl ⟨by rfl, by rintro w_ ⟨s1, s2, s3⟩; go_simp⟩) hHeld ?_
  refine norm_any' (fun K hK => ?_); go_simp; refine hK _ _ ?_; clear hK K
  refine wpAnyH_take (i := 3) (v := .bool false) rfl (by kernel_rfl) (by kernel_rfl) (by kernel_rfl) (fun _ _ _ h => h) (Or.inl ⟨by rfl, by intro w hs; go_simp⟩) hHeld ?_
  refine norm_any' (fun K hK => ?_); go_simp; refine hK _ _ ?_; clear hK K
  refine wpAnyH_take (i := 8) (v := .pointer (some ⟨B, 6, none⟩)) rfl (by kernel_rfl) (by kernel_rfl) (by kernel_rfl) (fun _ _ _ h => h) (Or.inl ⟨by rfl, by intro w hs; go_simp⟩) hHeld ?_
  refine norm_any' (fun K hK => ?_); go_simp; refine hK _ _ ?_; clear hK K
  refine wpAnyH_take (i := 9) (v := .int .i64 l) rfl (by kernel_rfl) (by kernel_rfl) (by kernel_rfl) (fun _ _ _ h => h) (Or.inl ⟨by rfl, by rintro w_ ⟨s1, s2, s3⟩; go_simp⟩) hHeld ?_
  refine norm_any' (fun K hK => ?_); go_simp; refine hK _ _ ?_; clear hK K
  refine wpAnyH_ready (rs := [4]) (by kernel_rfl) (by simp) (AllReadyH.cons rfl (fun K hK => ?_) AllReadyH.nil)
  go_simp
  refine Calls.mono (kind_c k.T false _) ?_
  rintro e Y' ⟨rfl, hw⟩
  subst Y'
  refine hK.out _ _ s1.out (fun hHeld => ?_)
  clear hK K
  refine norm_any' (fun K hK => ?_); go_simp; refine hK _ _ ?_; clear hK K
  refine wpAnyH_take (i := 5) (v := .pointer (some ⟨k.T, (kof false), none⟩)) rfl (by kernel_rfl) (by kernel_rfl) (by kernel_rfl) (fun _ _ _ h => h) (Or.inl ⟨by rfl, by intro w hs; go_simp⟩) hHeld ?_
  refine norm_any' (fun K hK => ?_); go_simp; refine hK _ _ ?_; clear hK K
  refine wpAnyH_take (i := 6) (v := .pointer (some ⟨k.T, (kof false), none⟩)) rfl (by kernel_rfl) (by kernel_rfl) (by kernel_rfl) (fun _ _ _ h => h) (Or.inl ⟨by rfl, by intro w hs; go_simp⟩) hHeld ?_
  refine norm_any' (fun K hK => ?_); go_simp; refine hK _ _ ?_; clear hK K
  refine wpAnyH_take (i := 7) (v := .pointer (some ⟨k.gk false, 0, none⟩)) rfl (by kernel_rfl) (by kernel_rfl) (by kernel_rfl) (fun _ _ _ h => h) (Or.inl ⟨by rfl, by rintro w_ ⟨s1, s2, s3⟩; go_simp⟩) hHeld ?_
  refine norm_any' (fun K hK => ?_); go_simp; refine hK _ _ ?_; clear hK K
  refine wpAnyH_ready (rs := [10]) (by kernel_rfl) (by simp) (AllReadyH.cons rfl (fun K hK => ?_) AllReadyH.nil)
  go_simp
  refine Calls.mono (telling_c l _ hl) ?_
  rintro e Y' ⟨rfl, hw⟩
  subst Y'
  refine hK.out _ _ s1.out (fun hHeld => ?_)
  clear hK K
  refine norm_any' (fun K hK => ?_); go_simp; refine hK _ _ ?_; clear hK K
  refine wpAnyH_ready (rs := [11]) (by kernel_rfl) (by simp) (AllReadyH.cons rfl (fun K hK => ?_) AllReadyH.nil)
  go_simp
  refine Calls.mono (HR.out _ HF1.out.os.tb) ?_
  rintro e Y1 ⟨rfl, hg, hn⟩
  have HF2 : Hid _ := HF1.out.give hg hn
  have s2 : Hid (Y1.cell? ⟨B, 0, none⟩ = some (.int .i64 18) ∧ Y1.cell? ⟨B, 6, none⟩ = some (.int .i64 l) ∧ Y1.cell? ⟨k.T, (kof false), none⟩ = some (.pointer (some ⟨k.gk false, 0, none⟩))) := ⟨HF2.out.c0, HF2.out.c6, HF2.out.os.tb.cg false⟩
  clear hg hn HF1 s1
  refine hK.out _ _ s2.out (fun hHeld => ?_)
  clear hK K
  refine norm_any' (fun K hK => ?_); go_simp; refine hK _ _ ?_; clear hK K
  refine wpAnyH_done (by kernel_rfl) ?_ _
  go_wp2
  go_ret
  exact ⟨rfl, HF2.out.os.tb, HF2.out.os.sx, HF2.out.os.ch⟩
set_option maxHeartbeats 2000000 in
theorem take_max_true (h : Tb srv x y k st w) {n : Nat} {G : Int → Option Value} (hs : Sx w k.sb n G) (l : Int) (hl : l ≤ 4611686018427387903) (ho : (st.gk true).ok) :
    Calls Tryd.prog 7 #[.pointer (some ⟨k.T, 0, none⟩), .agg (frL 19 l).toArray] w fun e w' => e = .returned .nilIface ∧ Tb srv x y k (st.opd true ((st.gk true).rai l).2 (st.live true)) w' ∧ Sx w' k.sb n G ∧ Chg (fun j => j = k.T ∨ j = k.sb ∨ j = k.gk true) w w' := by
  obtain ⟨X, hX, hx, hb⟩ := box_l w 19 l
  have HF : Hid (Fx srv x y k st true w n G 19 l w.heap.size X) := ⟨(⟨h, hs, Chg.refl _ _⟩ : Os srv x y k st true w n G w).go hb, hx⟩
  have HR : Hid (∀ X, Tb srv x y k st X → _) := fun X (hX : Tb srv x y k st X) => graise_c (k.gk true) (st.gk true) l X (hX.hgk true) ho
  clear h hs ho hx hb
  go_enter Tryd.func7, Tryd.ntmps7
  go_upto_region 1 with fail
  clear hX
  generalize w.heap.size = B at *
  go_wp2_with fail
  refine Calls.mono (tnone_c HF.out.os.tb) ?_
  rintro e w' ⟨rfl, hw⟩
  subst w'
  have c0 := HF.out.c0
  go_upto_region 15 with fail
  clear c0
  have HF1 : Hid _ := HF.out.go (bel_drew X)
  have s1 : Hid (X.drew.cell? ⟨B, 0, none⟩ = some (.int .i64 19) ∧ X.drew.cell? ⟨B, 6, none⟩ = some (.int .i64 l) ∧ X.drew.cell? ⟨k.T, (kof true), none⟩ = some (.pointer (some ⟨k.gk true, 0, none⟩))) := ⟨HF1.out.c0, HF1.out.c6, HF1.out.os.tb.cg true⟩
  refine wp_region_held_drew (S := fun X => X.cell? ⟨B, 0, none⟩ = some (.int .i64 19) ∧ X.cell? ⟨B, 6, none⟩ = some (.int .i64 l) ∧ X.cell? ⟨k.T, (kof true), none⟩ = some (.pointer (some ⟨k.gk true, 0, none⟩))) (by kernel_rfl) s1.out (fun hHeld => ?_)
  generalize X.drew = Y at *
  clear HF
  refine wpAnyH_take (i := 0) (v := .pointer (some ⟨k.T, 0, none⟩)) rfl (by kernel_rfl) (by kernel_rfl) (by kernel_rfl) (fun _ _ _ h => h) (Or.inl ⟨by rfl, by intro w hs; go_simp⟩) hHeld ?_
  refine norm_any' (fun K hK => ?_); go_simp; refine hK _ _ ?_; clear hK K
  refine wpAnyH_take (i := 1) (v := .pointer (some ⟨B, 0, none⟩)) rfl (by kernel_rfl) (by kernel_rfl) (by kernel_rfl) (fun _ _ _ h => h) (Or.inl ⟨by rfl, by intro w hs; go_simp⟩) hHeld ?_
  refine norm_any' (fun K hK => ?_); go_simp; refine hK _ _ ?_; clear hK K
  refine wpAnyH_take (i := 2) (v := .int .i64 19) rfl (by kernel_rfl) (by kernel_rfl) (by kernel_rfl) (fun _ _ _ h => h) (Or.inl ⟨by rfl, by rintro w_ ⟨s1, s2, s3⟩; go_simp⟩) hHeld ?_
  refine norm_any' (fun K hK => ?_); go_simp; refine hK _ _ ?_; clear hK K
  refine wpAnyH_take (i := 3) (v := .bool true) rfl (by kernel_rfl) (by kernel_rfl) (by kernel_rfl) (fun _ _ _ h => h) (Or.inl ⟨by rfl, by intro w hs; go_simp⟩) hHeld ?_
  refine norm_any' (fun K hK => ?_); go_simp; refine hK _ _ ?_; clear hK K
  refine wpAnyH_take (i := 8) (v := .pointer (some ⟨B, 6, none⟩)) rfl (by kernel_rfl) (by kernel_rfl) (by kernel_rfl) (fun _ _ _ h => h) (Or.inl ⟨by rfl, by intro w hs; go_simp⟩) hHeld ?_
  refine norm_any' (fun K hK => ?_); go_simp; refine hK _ _ ?_; clear hK K
  refine wpAnyH_take (i := 9) (v := .int .i64 l) rfl (by kernel_rfl) (by kernel_rfl) (by kernel_rfl) (fun _ _ _ h => h) (Or.inl ⟨by rfl, by rintro w_ ⟨s1, s2, s3⟩; go_simp⟩) hHeld ?_
  refine norm_any' (fun K hK => ?_); go_simp; refine hK _ _ ?_; clear hK K
  refine wpAnyH_ready (rs := [4]) (by kernel_rfl) (by simp) (AllReadyH.cons rfl (fun K hK => ?_) AllReadyH.nil)
  go_simp
  refine Calls.mono (kind_c k.T true _) ?_
  rintro e Y' ⟨rfl, hw⟩
  subst Y'
  refine hK.out _ _ s1.out (fun hHeld => ?_)
  clear hK K
  refine norm_any' (fun K hK => ?_); go_simp; refine hK _ _ ?_; clear hK K
  refine wpAnyH_take (i := 5) (v := .pointer (some ⟨k.T, (kof true), none⟩)) rfl (by kernel_rfl) (by kernel_rfl) (by kernel_rfl) (fun _ _ _ h => h) (Or.inl ⟨by rfl, by intro w hs; go_simp⟩) hHeld ?_
  refine norm_any' (fun K hK => ?_); go_simp; refine hK _ _ ?_; clear hK K
  refine wpAnyH_take (i := 6) (v := .pointer (some ⟨k.T, (kof true), none⟩)) rfl (by kernel_rfl) (by kernel_rfl) (by kernel_rfl) (fun _ _ _ h => h) (Or.inl ⟨by rfl, by intro w hs; go_simp⟩) hHeld ?_
  refine norm_any' (fun K hK => ?_); go_simp; refine hK _ _ ?_; clear hK K
  refine wpAnyH_take (i := 7) (v := .pointer (some ⟨k.gk true, 0, none⟩)) rfl (by kernel_rfl) (by kernel_rfl) (by kernel_rfl) (fun _ _ _ h => h) (Or.inl ⟨by rfl, by rintro w_ ⟨s1, s2, s3⟩; go_simp⟩) hHeld ?_
  refine norm_any' (fun K hK => ?_); go_simp; refine hK _ _ ?_; clear hK K
  refine wpAnyH_ready (rs := [10]) (by kernel_rfl) (by simp) (AllReadyH.cons rfl (fun K hK => ?_) AllReadyH.nil)
  go_simp
  refine Calls.mono (telling_c l _ hl) ?_
  rintro e Y' ⟨rfl, hw⟩
  subst Y'
  refine hK.out _ _ s1.out (fun hHeld => ?_)
  clear hK K
  refine norm_any' (fun K hK => ?_); go_simp; refine hK _ _ ?_; clear hK K
  refine wpAnyH_ready (rs := [11]) (by kernel_rfl) (by simp) (AllReadyH.cons rfl (fun K hK => ?_) AllReadyH.nil)
  go_simp
  refine Calls.mono (HR.out _ HF1.out.os.tb) ?_
  rintro e Y1 ⟨rfl, hg, hn⟩
  have HF2 : Hid _ := HF1.out.give hg hn
  have s2 : Hid (Y1.cell? ⟨B, 0, none⟩ = some (.int .i64 19) ∧ Y1.cell? ⟨B, 6, none⟩ = some (.int .i64 l) ∧ Y1.cell? ⟨k.T, (kof true), none⟩ = some (.pointer (some ⟨k.gk true, 0, none⟩))) := ⟨HF2.out.c0, HF2.out.c6, HF2.out.os.tb.cg true⟩
  clear hg hn HF1 s1
  refine hK.out _ _ s2.out (fun hHeld => ?_)
  clear hK K
  refine norm_any' (fun K hK => ?_); go_simp; refine hK _ _ ?_; clear hK K
  refine wpAnyH_done (by kernel_rfl) ?_ _
  go_wp2
  go_ret
  exact ⟨rfl, HF2.out.os.tb, HF2.out.os.sx, HF2.out.os.ch⟩
theorem take_max (h : Tb srv x y k st w) {n : Nat} {G : Int → Option Value} (hs : Sx w k.sb n G) (u : Bool) (l : Int) (hl : l ≤ 4611686018427387903) (ho : (st.gk u).ok) :
    Calls Tryd.prog 7 #[.pointer (some ⟨k.T, 0, none⟩), .agg (frL (mxk u) l).toArray] w fun e w' => e = .returned .nilIface ∧ Tb srv x y k (st.opd u ((st.gk u).rai l).2 (st.live u)) w' ∧ Sx w' k.sb n G ∧ Chg (fun j => j = k.T ∨ j = k.sb ∨ j = k.gk u) w w' := by
  cases u
  · exact take_max_false h hs l hl ho
  · exact take_max_true h hs l hl ho
theorem Tb.setWs (h : Tb srv x y k st w) (v : Value) : Tb srv x y k { st with ws := v } (w.setCell ⟨k.T, 23, none⟩ v) := by
  have nd := h.nd
  simp only [Bks.l, List.nodup_cons, List.mem_cons, not_or] at nd
  obtain ⟨⟨n1, n2, n3, n4, n5, n6, n7, n8, n9, _⟩, ⟨m1, m2, m3, m4, m5, m6, m7, m8, _⟩, ⟨p1, p2, p3, p4, p5, p6, p7, _⟩, _⟩ := nd
  have hs : ∀ {b T : Nat} {cs : Array Value}, Rt T cs w b → b ≠ k.T → Rt T cs (w.setCell ⟨k.T, 23, none⟩ v) b := fun hr hb => (heap_set h.tab _ _ hb).trans hr
  exact ⟨h.tab.set 23 _, hs h.hg (fun e => m1 e), hs h.ht (fun e => n2 e), hs h.hg0 (fun e => p4 e.symm), hs h.ht0 (fun e => p5 e.symm), hs h.hg1 (fun e => p6 e.symm), hs h.ht1 (fun e => p7 e.symm), h.nd⟩
theorem accept_none (h : Tb srv x y k st w) {o : Option Addr} {c : Nat} (hw : st.ws = .slice o 0 c) :
    Calls Tryd.prog 9 #[.pointer (some ⟨k.T, 0, none⟩)] w fun e w' => e = .returned (.tuple #[.int .i64 0, .bool false]) ∧ Below w.heap.size w w' := by
  have HN : Hid _ := tnone_c h
  have c23 : w.cell? ⟨k.T, 23, none⟩ = some (.slice o 0 c) := (h.tab.cell 23).trans (by rw [← hw]; rfl)
  clear h
  go_enter Tryd.func9, Tryd.ntmps9
  go_wp2_with fail
  refine Calls.mono HN.out ?_
  rintro e w' ⟨rfl, hw⟩
  subst w'
  go_wp2
  go_ret2
  exact ⟨rfl, Below.refl _ _⟩
set_option maxHeartbeats 2000000 in
theorem accept_one (h : Tb srv x y k st w) {g i m c : Nat} {z : Int} (hw : st.ws = .slice (some ⟨g, i, none⟩) (m + 1) (c + 1)) (hz : w.cell? ⟨g, i, none⟩ = some (.int .i64 z)) (hmc : m ≤ c) :
    Calls Tryd.prog 9 #[.pointer (some ⟨k.T, 0, none⟩)] w fun e w' => e = .returned (.tuple #[.int .i64 z, .bool true]) ∧ ∃ o, Tb srv x y k { st with ws := .slice o m c } w' ∧ (0 < m → o = some ⟨g, i + 1, none⟩) ∧ Tn k.T w w' := by
  have HN : Hid _ := tnone_c h
  have c23 : w.cell? ⟨k.T, 23, none⟩ = some (.slice (some ⟨g, i, none⟩) (m + 1) (c + 1)) := (h.tab.cell 23).trans (by rw [← hw]; rfl)
  have f23 := h.tab.frozen 23
  have HS : Hid (∀ o, _) := fun o => h.setWs (.slice o m c)
  have HT : Hid (∀ o, _) := fun o => Tn.set h.tab 23 (.slice o m c)
  clear h
  cases c with
  | zero =>
    obtain rfl : m = 0 := by omega
    go_enter Tryd.func9, Tryd.ntmps9
    go_wp2_with fail
    refine Calls.mono HN.out ?_
    rintro e w' ⟨rfl, hw⟩
    subst w'
    go_wp2
    go_ret2
    exact ⟨rfl, some ⟨g, i, none⟩, HS.out _, fun h => absurd h (Nat.lt_irrefl 0), HT.out _⟩
  | succ c =>
    go_enter Tryd.func9, Tryd.ntmps9
    go_wp2_with fail
    refine Calls.mono HN.out ?_
    rintro e w' ⟨rfl, hw⟩
    subst w'
    go_wp2
    go_ret2
    exact ⟨rfl, some ⟨g, i + 1, none⟩, HS.out _, fun _ => rfl, HT.out _⟩
end
end Go.Proofs.YtekgnibdnfephaaDoor
