/- streams: takeOf of a stream that is not there yet, taken. -/
import Derived.Test.YtijndpjdmiljkaaGreatDoorSo
namespace Go.Proofs.YtijndpjdmiljkaaGreatDoor
open Go.RowKit Go.Maps
set_option linter.unusedVariables false
theorem eq_nil (w : World) : (binOp .neq 70 .nilIface .nilIface).run Tryz.prog w = .ok (.bool false) w := by kernel_rfl

set_option maxRecDepth 10000 in
set_option maxHeartbeats 2000000 in
theorem takeOf_ok {srv : Bool} {x y : Lm} {k : Bks} {st st4 : Tst} {w : World} (hx : x.le ownM = true) (hy : y.le peerM = true) (h : Tb srv x y k st w) (hsm : w.heap[k.sb]? = some (.map #[] 0)) (hf : st.fine) (hf4 : st4.fine) (hws : st4.ws = .slice none 0 0) (k_ : Int) (p : Nat) (s u : Bool) (hs_ : s = !srv) (hc0 : (st4.tk u).c = 0) (o : Int) (d : Value) (fin : Bool) (hp : p < 1152921504606846976) (hp2 : p < 100000) (ho : ¬ (p : Int) < st.had srv s u)
    (hwr : ∀ X, Tb srv x y k st X → Calls Tryz.prog 122 #[.pointer (some ⟨k.T, 0, none⟩), .agg (fr6 k_ (sid p s u) o d fin).toArray] X fun e w' => e = .returned .nilIface ∧ Below X.heap.size X w')
    (Q : World → World → Nat → Array Value → Prop) (hbe : ∀ X, Tb srv x y k st X → Calls Tryz.prog 51 #[.pointer (some ⟨k.T, 0, none⟩), .int .i64 (sid p s u)] X fun e w' => ∃ S cs, e = .returned (.pointer (some ⟨S, 0, none⟩)) ∧ Below X.heap.size X w' ∧ Q X w' S cs)
    (hcs : ∀ X1 X S cs, Q X1 X S cs → cs[0]? = some (.int .i64 (sid p s u)) ∧ cs[1]? = some (.bool false) ∧ cs[2]? = some (.bool false) ∧ cs[15]? = some (.bool false) ∧ ∃ wr ib, cs[10]? = some (.bool wr) ∧ cs[11]? = some (.pointer (some ⟨ib, 0, none⟩)))
    (P : World → Nat → Array Value → Prop)
    (hap : ∀ X1 X S cs, Below w.heap.size w X1 → Below X1.heap.size X1 X → Q X1 X S cs → X.heap[k.sb]? = some (.map #[] 0) → Calls Tryz.prog 123 #[.pointer (some ⟨k.T, 0, none⟩), .pointer (some ⟨S, 0, none⟩), .agg (fr6 k_ (sid p s u) o d fin).toArray] X fun e w' => e = .returned .nilIface ∧ Tb srv x y k st4 w' ∧ w'.heap[k.sb]? = some (.map #[] 0) ∧ Rt 128 cs w' S ∧ P w' S cs) :
    Calls Tryz.prog 58 #[.pointer (some ⟨k.T, 0, none⟩), .agg (fr6 k_ (sid p s u) o d fin).toArray] w fun e w' => e = .returned .nilIface ∧ ∃ w4 W5 S cs, P w4 S cs ∧ Chg (fun j => j = k.T ∨ j = k.sb ∨ (k.T ≤ j ∧ ∃ cs fr, w4.heap[j]? = some (.cells cs 3 fr))) w4 W5 ∧ Chg (fun j => j = k.tk u) W5 w' ∧ ∃ (zs : List Int) (F : Int → Value) (n : Nat) (o : Option Addr) (c : Nat), Tb srv x y k (st4.opn u (.slice o zs.length c) ((st4.tk u).tak ((p : Int) - (0 : Nat) + 1)).2) w' ∧ Sm w' k.sb n F ∧ F (sid p s u) = .pointer (some ⟨S, 0, none⟩) ∧ Rt 128 cs w' S := by
  subst hs_
  have HOT : Hid (∀ {S : Nat} {cs : Array Value} {W : World}, _) := fun {S : Nat} {cs : Array Value} {W : World} (h : Ow srv x y k st4 W S cs [] (fun _ => .pointer none) 0 none 0 W) (i0 : cs[0]? = some (.int .i64 (sid p (!srv) u))) => openTo_c hx hy hf4 (zs0 := []) hws h p 0 u i0 hc0 (Nat.zero_le _) hp2 (by decide) (by decide)
  have HCS : Hid _ := hcs
  clear hcs
  obtain ⟨X, hX, hx, hb⟩ := box_f w k_ (sid p (!srv) u) o d fin
  have HX : Hid (Bx srv x y k st k_ (sid p (!srv) u) o d fin w w.heap.size X) := ⟨hx, h.go hb, hb⟩
  have HSM : Hid _ := heap_bel hsm hb
  have HWR : Hid (∀ X, Tb srv x y k st X → _) := fun X (hX : Tb srv x y k st X) => hwr X hX
  have HOP : Hid (∀ X, Tb srv x y k st X → _) := fun X (hX : Tb srv x y k st X) => opened_c hX hf p (!srv) u hp
  have HBE : Hid (∀ X, Tb srv x y k st X → _) := fun X (hX : Tb srv x y k st X) => hbe X hX
  have HAP : Hid _ := hap
  rw [decide_eq_false ho] at HOP
  clear hx hb hwr hbe hap hf h hsm
  generalize sid p (!srv) u = id at *
  go_enter Tryz.func58, Tryz.ntmps58
  go_upto_region 1 with fail
  generalize w.heap.size = B at HX ⊢
  go_wp2_with (refine wpList_load_row rfl 66 (.tmp 3) rfl B rfl 66 _ (0, 0) _ HX.out.bx u66 rfl i66 ?_)
  refine Calls.mono (HWR.out _ HX.out.tb) ?_
  rintro e X1 ⟨rfl, hb1⟩
  have HX1 : Hid _ := HX.out.go hb1
  have HS1 : Hid _ := heap_bel HSM.out hb1
  clear hb1 HX HSM hX
  go_upto_region 4 with fail
  have HXD : Hid _ := HX1.out.go (bel_drew X1)
  have HSD : Hid (X1.drew.heap[k.sb]? = some (.map #[] 0)) := HS1.out
  refine wp_region_held_drew (S := fun X => Bx srv x y k st k_ id o d fin w B X ∧ X.heap[k.sb]? = some (.map #[] 0)) (by kernel_rfl) ⟨HXD.out, HSD.out⟩ (fun hHeld => ?_)
  generalize X1.drew = Y at *
  clear HX1 HS1
  refine wpAnyH_take (i := 0) (v := .pointer (some ⟨k.T, 0, none⟩)) rfl (by kernel_rfl) (by kernel_rfl) (by kernel_rfl) (fun _ _ _ h => h) (Or.inl ⟨by rfl, by intro w hs; go_simp⟩) hHeld ?_
  refine norm_any' (fun K hK => ?_); go_simp; refine hK _ _ ?_; clear hK K
  refine wpAnyH_take (i := 1) (v := .pointer (some ⟨k.T, 0, none⟩)) rfl (by kernel_rfl) (by kernel_rfl) (by kernel_rfl) (fun _ _ _ h => h) (Or.inl ⟨by rfl, by intro w hs; go_simp⟩) hHeld ?_
  refine norm_any' (fun K hK => ?_); go_simp; refine hK _ _ ?_; clear hK K
  refine wpAnyH_take (i := 2) (v := .pointer (some ⟨k.T, 13, none⟩)) rfl (by kernel_rfl) (by kernel_rfl) (by kernel_rfl) (fun _ _ _ h => h) (Or.inl ⟨by rfl, by intro w hs; go_simp⟩) hHeld ?_
  refine norm_any' (fun K hK => ?_); go_simp; refine hK _ _ ?_; clear hK K
  refine wpAnyH_take (i := 3) (v := .map (some k.sb)) rfl (by kernel_rfl) (by kernel_rfl) (by kernel_rfl) (fun _ _ _ h => h) (Or.inl ⟨by rfl, by rintro w_ ⟨s0, s1⟩; have := s0.tb.c13; go_simp⟩) hHeld ?_
  refine norm_any' (fun K hK => ?_); go_simp; refine hK _ _ ?_; clear hK K
  refine wpAnyH_take (i := 4) (v := .pointer (some ⟨B, 1, none⟩)) rfl (by kernel_rfl) (by kernel_rfl) (by kernel_rfl) (fun _ _ _ h => h) (Or.inl ⟨by rfl, by intro w hs; go_simp⟩) hHeld ?_
  refine norm_any' (fun K hK => ?_); go_simp; refine hK _ _ ?_; clear hK K
  refine wpAnyH_take (i := 5) (v := .int .i64 id) rfl (by kernel_rfl) (by kernel_rfl) (by kernel_rfl) (fun _ _ _ h => h) (Or.inl ⟨by rfl, by rintro w_ ⟨s0, s1⟩; have := s0.c1; go_simp⟩) hHeld ?_
  refine norm_any' (fun K hK => ?_); go_simp; refine hK _ _ ?_; clear hK K
  refine wpAnyH_take (i := 6) (v := .pointer none) rfl (by kernel_rfl) (by kernel_rfl) (by kernel_rfl) (fun _ _ _ h => h) (Or.inl ⟨by rfl, by rintro w_ ⟨s0, s1⟩; have := look80 w_ k.sb id s1; go_simp⟩) hHeld ?_
  refine norm_any' (fun K hK => ?_); go_simp; refine hK _ _ ?_; clear hK K
  refine wpAnyH_take (i := 7) (v := .pointer none) rfl (by kernel_rfl) (by kernel_rfl) (by kernel_rfl) (fun _ _ _ h => h) (Or.inl ⟨by rfl, by intro w hs; go_simp⟩) hHeld ?_
  refine norm_any' (fun K hK => ?_); go_simp; refine hK _ _ ?_; clear hK K
  refine wpAnyH_done (by kernel_rfl) ?_ _
  have c1 := HXD.out.c1
  go_wp2_with fail
  refine Calls.mono (HOP.out _ HXD.out.tb) ?_
  rintro e X2 ⟨rfl, hb2⟩
  have HX2 : Hid _ := HXD.out.go hb2
  have HS2 : Hid _ := heap_bel HSD.out hb2
  have c1' := HX2.out.c1
  clear c1 hb2 HXD HSD
  go_wp2_with fail
  refine Calls.mono (HBE.out _ HX2.out.tb) ?_
  rintro e X3 ⟨S, cs, rfl, hq⟩
  have hb3 := hq.1
  have HX3 : Hid _ := HX2.out.go hb3
  have HS3 : Hid _ := heap_bel HS2.out hb3
  have HQ : Hid _ := hq
  have HB2 : Hid (Below w.heap.size w X2) := HX2.out.bel
  clear c1' HX2 HS2 hb3 hq
  go_wp2_with (refine wpList_load_row rfl 66 (.tmp 3) rfl B rfl 66 _ (0, 0) _ HX3.out.bx u66 rfl i66 ?_)
  refine Calls.mono (HAP.out _ _ _ _ HB2.out HQ.out.1 HQ.out.2 HS3.out) ?_
  rintro e X4 ⟨rfl, htb, hsb, hsc, hp4⟩
  obtain ⟨d0, d1, d2, d15, wr, ib, d10, d11⟩ := HCS.out _ _ _ _ HQ.out.2
  have HOW : Hid (Ow srv x y k st4 X4 S cs [] (fun _ => .pointer none) 0 none 0 X4) := ⟨(show ({ st4 with ws := .slice none ([] : List Int).length 0 } : Tst) = st4 by cases st4; cases hws; rfl) ▸ htb, Sm.made hsb, Iy.nil _ _, hsc, Chg.refl _ _⟩
  have HP4 : Hid _ := hp4
  have hq := eq_nil
  have HD : Hid (cs[1]? = some (.bool false) ∧ cs[2]? = some (.bool false) ∧ cs[15]? = some (.bool false) ∧ cs[10]? = some (.bool wr) ∧ cs[11]? = some (.pointer (some ⟨ib, 0, none⟩))) := ⟨d1, d2, d15, d10, d11⟩
  have HD0 : Hid _ := d0
  clear htb hsb hsc hp4 d0 d1 d2 d15 d10 d11 HX3 HS3 HQ HB2
  go_wp2_with fail
  refine Calls.mono (HOT.out HOW.out HD0.out) ?_
  rintro e X5 ⟨rfl, zs, F, n, o2, c2, htb, hsm5, hF, hsc5, W5, hch1, hch2⟩
  obtain ⟨d1, d2, d15, d10, d11⟩ := HD.out
  have HST : Hid _ := settle_c k.T S wr ib ((hsc5.cell 10).trans d10) ((hsc5.cell 1).trans d1) ((hsc5.cell 2).trans d2) ((hsc5.cell 15).trans d15) ((hsc5.cell 11).trans d11)
  have HFIN : Hid (Tb srv x y k (st4.opn u (.slice o2 zs.length c2) ((st4.tk u).tak ((p : Int) - (0 : Nat) + 1)).2) X5 ∧ Sm X5 k.sb n F ∧ F id = .pointer (some ⟨S, 0, none⟩) ∧ Rt 128 cs X5 S) := ⟨htb, hsm5, hF, hsc5⟩
  have HCH : Hid (Chg (fun j => j = k.T ∨ j = k.sb ∨ (k.T ≤ j ∧ ∃ cs fr, X4.heap[j]? = some (.cells cs 3 fr))) X4 W5 ∧ Chg (fun j => j = k.tk u) W5 X5) := ⟨hch1, hch2⟩
  clear htb hsm5 hF hsc5 hch1 hch2 d1 d2 d15 d10 d11 HOW
  go_wp2_with fail
  refine Calls.mono HST.out ?_
  rintro e w' ⟨rfl, hw⟩
  subst w'
  go_wp2
  go_ret
  exact ⟨rfl, X4, W5, S, cs, HP4.out, HCH.out.1, HCH.out.2, zs, F, n, o2, c2, HFIN.out⟩
end Go.Proofs.YtijndpjdmiljkaaGreatDoor
