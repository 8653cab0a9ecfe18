/- streams: takeOf of a stream that is not there yet. -/
import Derived.Test.YtijndpjdmiljkaaGreatDoorSi
namespace Go.Proofs.YtijndpjdmiljkaaGreatDoor
open Go.RowKit Go.Maps
set_option linter.unusedVariables false

theorem look80 (W : World) (sb : Nat) (a : Int) (h : W.heap[sb]? = some (.map #[] 0)) : (Instr.lookup 80 (.map (some sb)) (.int .i64 a) false).run Tryz.prog W = .ok (.pointer none) W := by
  have hz : ∀ W, (zeroValue 107).run Tryz.prog W = .ok (.pointer none) W := fun W => by kernel_rfl
  have hk : ∀ W, (Instr.checkKey true 10000 3 (.int .i64 a)).run Tryz.prog W = .ok () W := fun W => by kernel_rfl
  have hf : ∀ W, (Instr.findKey 3 (.int .i64 a) []).run Tryz.prog W = .ok none W := fun W => by kernel_rfl
  simp [Instr.lookup, run_underlying Tryz.underlying80, MapKept.run_getObj_map h, Result.andThen, Sem.run_bind, hz, hk, hf]
theorem Tb.c13 {srv : Bool} {x y : Lm} {k : Bks} {st : Tst} {w : World} (h : Tb srv x y k st w) : w.cell? ⟨k.T, 13, none⟩ = some (.map (some k.sb)) := h.tab.cell 13
set_option maxRecDepth 10000 in
set_option maxHeartbeats 2000000 in
theorem takeOf_no {srv : Bool} {x y : Lm} {k : Bks} {st : Tst} {w : World} (h : Tb srv x y k st w) (hsm : w.heap[k.sb]? = some (.map #[] 0)) (hf : st.fine) (k_ : Int) (p : Nat) (s u : Bool) (o : Int) (d : Value) (fin : Bool) (hp : p < 1152921504606846976) (ho : ¬ (p : Int) < st.had srv s u) (code er : Int)
    (hwr : ∀ X, Tb srv x y k st X → Calls Tryz.prog 122 #[.pointer (some ⟨k.T, 0, none⟩), .agg (fr6 k_ (sid p s u) o d fin).toArray] X fun e w' => e = .returned .nilIface ∧ Below X.heap.size X w')
    (Q : World → World → Nat → Array Value → Prop) (hbe : ∀ X, Tb srv x y k st X → Calls Tryz.prog 51 #[.pointer (some ⟨k.T, 0, none⟩), .int .i64 (sid p s u)] X fun e w' => ∃ S cs, e = .returned (.pointer (some ⟨S, 0, none⟩)) ∧ Below X.heap.size X w' ∧ Q X w' S cs)
    (hap : ∀ X1 X S cs, Below w.heap.size w X1 → Below X1.heap.size X1 X → Q X1 X S cs → Calls Tryz.prog 123 #[.pointer (some ⟨k.T, 0, none⟩), .pointer (some ⟨S, 0, none⟩), .agg (fr6 k_ (sid p s u) o d fin).toArray] X fun e w' => ∃ v, e = .returned v ∧ Cl w' v code k_ er ∧ Below X.heap.size X w') :
    Calls Tryz.prog 58 #[.pointer (some ⟨k.T, 0, none⟩), .agg (fr6 k_ (sid p s u) o d fin).toArray] w fun e w' => ∃ v, e = .returned v ∧ Cl w' v code k_ er ∧ Below w.heap.size w w' := by
  obtain ⟨X, hX, hx, hb⟩ := box_f w k_ (sid p s u) o d fin
  have HX : Hid (Bx srv x y k st k_ (sid p s u) o d fin w w.heap.size X) := ⟨hx, h.go hb, hb⟩
  have HSM : Hid _ := heap_bel hsm hb
  have HWR : Hid (∀ X, Tb srv x y k st X → _) := fun X (hX : Tb srv x y k st X) => hwr X hX
  have HOP : Hid (∀ X, Tb srv x y k st X → _) := fun X (hX : Tb srv x y k st X) => opened_c hX hf p s u hp
  have HBE : Hid (∀ X, Tb srv x y k st X → _) := fun X (hX : Tb srv x y k st X) => hbe X hX
  have HAP : Hid _ := hap
  rw [decide_eq_false ho] at HOP
  clear hx hb hwr hbe hap hf h hsm
  generalize sid p s u = id at *
  go_enter Tryz.func58, Tryz.ntmps58
  go_upto_region 1 with fail
  generalize w.heap.size = B at HX ⊢
  go_wp2_with (refine wpList_load_row rfl 66 (.tmp 3) rfl B rfl 66 _ (0, 0) _ HX.out.bx u66 rfl i66 ?_)
  refine Calls.mono (HWR.out _ HX.out.tb) ?_
  rintro e X1 ⟨rfl, hb1⟩
  have HX1 : Hid _ := HX.out.go hb1
  have HS1 : Hid _ := heap_bel HSM.out hb1
  clear hb1 HX HSM hX
  go_upto_region 4 with fail
  have HXD : Hid _ := HX1.out.go (bel_drew X1)
  have HSD : Hid (X1.drew.heap[k.sb]? = some (.map #[] 0)) := HS1.out
  refine wp_region_held_drew (S := fun X => Bx srv x y k st k_ id o d fin w B X ∧ X.heap[k.sb]? = some (.map #[] 0)) (by kernel_rfl) ⟨HXD.out, HSD.out⟩ (fun hHeld => ?_)
  generalize X1.drew = Y at *
  clear HX1 HS1
  refine wpAnyH_take (i := 0) (v := .pointer (some ⟨k.T, 0, none⟩)) rfl (by kernel_rfl) (by kernel_rfl) (by kernel_rfl) (fun _ _ _ h => h) (Or.inl ⟨by rfl, by intro w hs; go_simp⟩) hHeld ?_
  refine norm_any' (fun K hK => ?_); go_simp; refine hK _ _ ?_; clear hK K
  refine wpAnyH_take (i := 1) (v := .pointer (some ⟨k.T, 0, none⟩)) rfl (by kernel_rfl) (by kernel_rfl) (by kernel_rfl) (fun _ _ _ h => h) (Or.inl ⟨by rfl, by intro w hs; go_simp⟩) hHeld ?_
  refine norm_any' (fun K hK => ?_); go_simp; refine hK _ _ ?_; clear hK K
  refine wpAnyH_take (i := 2) (v := .pointer (some ⟨k.T, 13, none⟩)) rfl (by kernel_rfl) (by kernel_rfl) (by kernel_rfl) (fun _ _ _ h => h) (Or.inl ⟨by rfl, by intro w hs; go_simp⟩) hHeld ?_
  refine norm_any' (fun K hK => ?_); go_simp; refine hK _ _ ?_; clear hK K
  refine wpAnyH_take (i := 3) (v := .map (some k.sb)) rfl (by kernel_rfl) (by kernel_rfl) (by kernel_rfl) (fun _ _ _ h => h) (Or.inl ⟨by rfl, by rintro w_ ⟨s0, s1⟩; have := s0.tb.c13; go_simp⟩) hHeld ?_
  refine norm_any' (fun K hK => ?_); go_simp; refine hK _ _ ?_; clear hK K
  refine wpAnyH_take (i := 4) (v := .pointer (some ⟨B, 1, none⟩)) rfl (by kernel_rfl) (by kernel_rfl) (by kernel_rfl) (fun _ _ _ h => h) (Or.inl ⟨by rfl, by intro w hs; go_simp⟩) hHeld ?_
  refine norm_any' (fun K hK => ?_); go_simp; refine hK _ _ ?_; clear hK K
  refine wpAnyH_take (i := 5) (v := .int .i64 id) rfl (by kernel_rfl) (by kernel_rfl) (by kernel_rfl) (fun _ _ _ h => h) (Or.inl ⟨by rfl, by rintro w_ ⟨s0, s1⟩; have := s0.c1; go_simp⟩) hHeld ?_
  refine norm_any' (fun K hK => ?_); go_simp; refine hK _ _ ?_; clear hK K
  refine wpAnyH_take (i := 6) (v := .pointer none) rfl (by kernel_rfl) (by kernel_rfl) (by kernel_rfl) (fun _ _ _ h => h) (Or.inl ⟨by rfl, by rintro w_ ⟨s0, s1⟩; have := look80 w_ k.sb id s1; go_simp⟩) hHeld ?_
  refine norm_any' (fun K hK => ?_); go_simp; refine hK _ _ ?_; clear hK K
  refine wpAnyH_take (i := 7) (v := .pointer none) rfl (by kernel_rfl) (by kernel_rfl) (by kernel_rfl) (fun _ _ _ h => h) (Or.inl ⟨by rfl, by intro w hs; go_simp⟩) hHeld ?_
  refine norm_any' (fun K hK => ?_); go_simp; refine hK _ _ ?_; clear hK K
  refine wpAnyH_done (by kernel_rfl) ?_ _
  have c1 := HXD.out.c1
  go_wp2_with fail
  refine Calls.mono (HOP.out _ HXD.out.tb) ?_
  rintro e X2 ⟨rfl, hb2⟩
  have HX2 : Hid _ := HXD.out.go hb2
  have HS2 : Hid _ := heap_bel HSD.out hb2
  have c1' := HX2.out.c1
  clear c1 hb2 HXD HSD
  go_wp2_with fail
  refine Calls.mono (HBE.out _ HX2.out.tb) ?_
  rintro e X3 ⟨S, cs, rfl, hq⟩
  have hb3 := hq.1
  have HX3 : Hid _ := HX2.out.go hb3
  have HS3 : Hid _ := heap_bel HS2.out hb3
  have HQ : Hid _ := hq
  have HB2 : Hid (Below w.heap.size w X2) := HX2.out.bel
  clear c1' HX2 HS2 hb3 hq
  go_wp2_with (refine wpList_load_row rfl 66 (.tmp 3) rfl B rfl 66 _ (0, 0) _ HX3.out.bx u66 rfl i66 ?_)
  refine Calls.mono (HAP.out _ _ _ _ HB2.out HQ.out.1 HQ.out.2) ?_
  rintro e X4 ⟨v, rfl, ⟨c, rfl, hc⟩, hb⟩
  have HV : Hid (Cl X4 (.iface 139 (.pointer (some ⟨c, 0, none⟩))) code k_ er) := ⟨c, rfl, hc⟩
  have HB4 : Hid _ := bel_trans HX3.out.bel hb
  have hq := neq_close c
  clear hc hb
  go_wp2
  go_ret
  exact ⟨_, rfl, HV.out, HB4.out⟩
end Go.Proofs.YtijndpjdmiljkaaGreatDoor
