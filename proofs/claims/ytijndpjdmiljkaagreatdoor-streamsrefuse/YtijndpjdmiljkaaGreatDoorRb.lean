/- streams: takeOf of a stream that is there, refused; what the law's refused frames are answered. -/
import Derived.Test.YtijndpjdmiljkaaGreatDoorSp
import Derived.Test.YtijndpjdmiljkaaGreatDoorCl
namespace Go.Proofs.YtijndpjdmiljkaaGreatDoor
open Go.RowKit Go.Maps
set_option linter.unusedVariables false

set_option maxRecDepth 10000 in
set_option maxHeartbeats 2000000 in
theorem takeOf_is {srv : Bool} {x y : Lm} {k : Bks} {st : Tst} {w : World} (h : Tb srv x y k st w) {n : Nat} {F : Int → Value} (hsm : Sm w k.sb n F) (k_ : Int) (p : Nat) (s u : Bool) (o : Int) (d : Value) (fin : Bool) (hp : p < 1152921504606846976) (S : Nat) (hF : F (sid p s u) = .pointer (some ⟨S, 0, none⟩)) (code er : Int)
    (hwr : ∀ X, Tb srv x y k st X → Calls Tryz.prog 122 #[.pointer (some ⟨k.T, 0, none⟩), .agg (fr6 k_ (sid p s u) o d fin).toArray] X fun e w' => e = .returned .nilIface ∧ Below X.heap.size X w')
    (hap : ∀ X, Below w.heap.size w X → Calls Tryz.prog 123 #[.pointer (some ⟨k.T, 0, none⟩), .pointer (some ⟨S, 0, none⟩), .agg (fr6 k_ (sid p s u) o d fin).toArray] X fun e w' => ∃ v, e = .returned v ∧ Cl w' v code k_ er ∧ Below X.heap.size X w') :
    Calls Tryz.prog 58 #[.pointer (some ⟨k.T, 0, none⟩), .agg (fr6 k_ (sid p s u) o d fin).toArray] w fun e w' => ∃ v, e = .returned v ∧ Cl w' v code k_ er ∧ Below w.heap.size w w' := by
  obtain ⟨X, hX, hx, hb⟩ := box_f w k_ (sid p s u) o d fin
  have HX : Hid (Bx srv x y k st k_ (sid p s u) o d fin w w.heap.size X) := ⟨hx, h.go hb, hb⟩
  have HSM : Hid (Sm X k.sb n F) := hsm.kept (hb.block k.sb hsm.lt)
  have HLK : Hid (∀ X, Sm X k.sb n F → _) := fun X (hX : Sm X k.sb n F) => hX.look (sid p s u) (sid_0 p s u) (Int.le_trans (sid_le p s u) (by omega))
  rw [hF] at HLK
  have HWR : Hid (∀ X, Tb srv x y k st X → _) := fun X (hX : Tb srv x y k st X) => hwr X hX
  have HAP : Hid _ := hap
  clear hx hb hwr hap h hsm hF
  generalize sid p s u = id at *
  go_enter Tryz.func58, Tryz.ntmps58
  go_upto_region 1 with fail
  generalize w.heap.size = B at HX ⊢
  go_wp2_with (refine wpList_load_row rfl 66 (.tmp 3) rfl B rfl 66 _ (0, 0) _ HX.out.bx u66 rfl i66 ?_)
  refine Calls.mono (HWR.out _ HX.out.tb) ?_
  rintro e X1 ⟨rfl, hb1⟩
  have HX1 : Hid _ := HX.out.go hb1
  have HS1 : Hid (Sm X1 k.sb n F) := HSM.out.kept (hb1.block k.sb HSM.out.lt)
  clear hb1 HX HSM hX
  go_upto_region 4 with fail
  have HXD : Hid _ := HX1.out.go (bel_drew X1)
  have HSD : Hid (Sm X1.drew k.sb n F) := HS1.out.kept rfl
  refine wp_region_held_drew (S := fun X => Bx srv x y k st k_ id o d fin w B X ∧ Sm X k.sb n F) (by kernel_rfl) ⟨HXD.out, HSD.out⟩ (fun hHeld => ?_)
  generalize X1.drew = Y at *
  clear HX1 HS1
  refine wpAnyH_take (i := 0) (v := .pointer (some ⟨k.T, 0, none⟩)) rfl (by kernel_rfl) (by kernel_rfl) (by kernel_rfl) (fun _ _ _ h => h) (Or.inl ⟨by rfl, by intro w hs; go_simp⟩) hHeld ?_
  refine norm_any' (fun K hK => ?_); go_simp; refine hK _ _ ?_; clear hK K
  refine wpAnyH_take (i := 1) (v := .pointer (some ⟨k.T, 0, none⟩)) rfl (by kernel_rfl) (by kernel_rfl) (by kernel_rfl) (fun _ _ _ h => h) (Or.inl ⟨by rfl, by intro w hs; go_simp⟩) hHeld ?_
  refine norm_any' (fun K hK => ?_); go_simp; refine hK _ _ ?_; clear hK K
  refine wpAnyH_take (i := 2) (v := .pointer (some ⟨k.T, 13, none⟩)) rfl (by kernel_rfl) (by kernel_rfl) (by kernel_rfl) (fun _ _ _ h => h) (Or.inl ⟨by rfl, by intro w hs; go_simp⟩) hHeld ?_
  refine norm_any' (fun K hK => ?_); go_simp; refine hK _ _ ?_; clear hK K
  refine wpAnyH_take (i := 3) (v := .map (some k.sb)) rfl (by kernel_rfl) (by kernel_rfl) (by kernel_rfl) (fun _ _ _ h => h) (Or.inl ⟨by rfl, by rintro w_ ⟨s0, s1⟩; have := s0.tb.c13; go_simp⟩) hHeld ?_
  refine norm_any' (fun K hK => ?_); go_simp; refine hK _ _ ?_; clear hK K
  refine wpAnyH_take (i := 4) (v := .pointer (some ⟨B, 1, none⟩)) rfl (by kernel_rfl) (by kernel_rfl) (by kernel_rfl) (fun _ _ _ h => h) (Or.inl ⟨by rfl, by intro w hs; go_simp⟩) hHeld ?_
  refine norm_any' (fun K hK => ?_); go_simp; refine hK _ _ ?_; clear hK K
  refine wpAnyH_take (i := 5) (v := .int .i64 id) rfl (by kernel_rfl) (by kernel_rfl) (by kernel_rfl) (fun _ _ _ h => h) (Or.inl ⟨by rfl, by rintro w_ ⟨s0, s1⟩; have := s0.c1; go_simp⟩) hHeld ?_
  refine norm_any' (fun K hK => ?_); go_simp; refine hK _ _ ?_; clear hK K
  refine wpAnyH_take (i := 6) (v := .pointer (some ⟨S, 0, none⟩)) rfl (by kernel_rfl) (by kernel_rfl) (by kernel_rfl) (fun _ _ _ h => h) (Or.inl ⟨by rfl, by rintro w_ ⟨s0, s1⟩; have := HLK.out w_ s1; go_simp⟩) hHeld ?_
  refine norm_any' (fun K hK => ?_); go_simp; refine hK _ _ ?_; clear hK K
  refine wpAnyH_take (i := 7) (v := .pointer (some ⟨S, 0, none⟩)) rfl (by kernel_rfl) (by kernel_rfl) (by kernel_rfl) (fun _ _ _ h => h) (Or.inl ⟨by rfl, by intro w hs; go_simp⟩) hHeld ?_
  refine norm_any' (fun K hK => ?_); go_simp; refine hK _ _ ?_; clear hK K
  refine wpAnyH_done (by kernel_rfl) ?_ _
  go_wp2_with (refine wpList_load_row rfl 66 (.tmp 3) rfl B rfl 66 _ (0, 0) _ HXD.out.bx u66 rfl i66 ?_)
  refine Calls.mono (HAP.out _ HXD.out.bel) ?_
  rintro e X4 ⟨v, rfl, ⟨c, rfl, hc⟩, hb⟩
  have HV : Hid (Cl X4 (.iface 139 (.pointer (some ⟨c, 0, none⟩))) code k_ er) := ⟨c, rfl, hc⟩
  have HB4 : Hid _ := bel_trans HXD.out.bel hb
  have hq := neq_close c
  clear hc hb
  go_wp2
  go_ret
  exact ⟨_, rfl, HV.out, HB4.out⟩
set_option maxRecDepth 100000 in
set_option maxHeartbeats 1000000 in
theorem is_same (er : Int) (w : World) : Calls Tryz.prog 25 #[.iface 53 (.int .i64 er), .iface 53 (.int .i64 er)] w fun e w' => e = .returned (.bool true) ∧ w' = w := by
  have h70 := c70
  have h272 := c272
  have mR := mComp
  have q2 := eq_nn er
  have q4 := eq_nnil er
  go_enter Tryz.func25, Tryz.ntmps25
  go_wp2
  refine wp_loop_rounds 1 ?_
  rw [rounds_succ]
  go_wp2
  go_ret
  exact ⟨rfl, rfl⟩
section
variable {srv : Bool} {x y : Lm} {k : Bks} {st : Tst} {w : World}
/-- What a frame is answered that breaks a rule. -/
theorem take_cl (h : Tb srv x y k st w) (k_ id o : Int) (d : Value) (fin : Bool) (code er : Int) (hk : k_ = 8 ∨ k_ = 4 ∨ k_ = 5 ∨ k_ = 17 ∨ k_ = 21) (hp : ∀ X, Below w.heap.size w X → Calls Tryz.prog 58 #[.pointer (some ⟨k.T, 0, none⟩), .agg (fr6 k_ id o d fin).toArray] X fun e w' => ∃ v, e = .returned v ∧ Cl w' v code k_ er ∧ Below X.heap.size X w') :
    Calls Tryz.prog 21 #[.pointer (some ⟨k.T, 0, none⟩), .agg (fr6 k_ id o d fin).toArray] w fun e w' => ∃ v, e = .returned v ∧ Cl w' v code k_ er ∧ Below w.heap.size w w' :=
  take_of h k_ id o d fin hk (fun v w' => Cl w' v code k_ er ∧ Below w.heap.size w w') (fun X hX => (hp X hX).mono fun e w' ⟨v, e1, e2, e3⟩ => ⟨v, e1, e2, bel_trans hX e3⟩)
/-- No stream of this side's is open. -/
def Tst.shut (s : Tst) : Prop := s.fine ∧ ∀ u, (s.gk u).s = 0
theorem take_r3 (h : Tb true x y k st w) (hs : st.shut) (p : Nat) (hp : p < 1000) (k_ : Int) (hk : k_ = 8 ∨ k_ = 4 ∨ k_ = 21) :
    Calls Tryz.prog 21 #[.pointer (some ⟨k.T, 0, none⟩), .agg (fr6 k_ (4 * (p : Int) + 3) 0 (.slice none 0 0) false).toArray] w fun e w' => ∃ v, e = .returned v ∧ Cl w' v 5 k_ 32 ∧ Below w.heap.size w w' := by
  have e : 4 * (p : Int) + 3 = sid p true true := by simp [sid]; omega
  rw [e]
  exact take_cl h _ _ _ _ _ _ _ (by omega) fun X hX => takeOf_wrong _ _ _ _ _ _ _ _ _ fun Y hY => wrong_r_no ((h.go hX).go hY) hs.1 k_ p true true _ _ _ (by omega) hk rfl
theorem take_r1 (h : Tb true x y k st w) (hs : st.shut) (p : Nat) (hp : p < 1000) (k_ : Int) (hk : k_ = 8 ∨ k_ = 4 ∨ k_ = 21) :
    Calls Tryz.prog 21 #[.pointer (some ⟨k.T, 0, none⟩), .agg (fr6 k_ (4 * (p : Int) + 1) 0 (.slice none 0 0) false).toArray] w fun e w' => ∃ v, e = .returned v ∧ Cl w' v 5 k_ 32 ∧ Below w.heap.size w w' := by
  have e : 4 * (p : Int) + 1 = sid p true false := by simp [sid]
  have e2 : ¬ (p : Int) < st.had true true false := by
    show ¬ (p : Int) < (st.gk false).s
    rw [hs.2 false]; omega
  rw [e]
  exact take_cl h _ _ _ _ _ _ _ (by omega) fun X hX => takeOf_wrong _ _ _ _ _ _ _ _ _ fun Y hY => wrong_r_op ((h.go hX).go hY) hs.1 k_ p true false _ _ _ (by omega) hk rfl rfl e2
theorem take_w2 (h : Tb true x y k st w) (hs : st.shut) (p : Nat) (hp : p < 1000) (k_ : Int) (hk : k_ = 5 ∨ k_ = 17) :
    Calls Tryz.prog 21 #[.pointer (some ⟨k.T, 0, none⟩), .agg (fr6 k_ (4 * (p : Int) + 2) 0 (.slice none 0 0) false).toArray] w fun e w' => ∃ v, e = .returned v ∧ Cl w' v 5 k_ 32 ∧ Below w.heap.size w w' := by
  have e : 4 * (p : Int) + 2 = sid p false true := by simp [sid]
  rw [e]
  exact take_cl h _ _ _ _ _ _ _ (by omega) fun X hX => takeOf_wrong _ _ _ _ _ _ _ _ _ fun Y hY => wrong_w_no ((h.go hX).go hY) hs.1 k_ p false true _ _ _ (by omega) hk rfl
theorem take_w3 (h : Tb true x y k st w) (hs : st.shut) (p : Nat) (hp : p < 1000) (k_ : Int) (hk : k_ = 5 ∨ k_ = 17) :
    Calls Tryz.prog 21 #[.pointer (some ⟨k.T, 0, none⟩), .agg (fr6 k_ (4 * (p : Int) + 3) 0 (.slice none 0 0) false).toArray] w fun e w' => ∃ v, e = .returned v ∧ Cl w' v 5 k_ 32 ∧ Below w.heap.size w w' := by
  have e : 4 * (p : Int) + 3 = sid p true true := by simp [sid]; omega
  have e2 : ¬ (p : Int) < st.had true true true := by
    show ¬ (p : Int) < (st.gk true).s
    rw [hs.2 true]; omega
  rw [e]
  exact take_cl h _ _ _ _ _ _ _ (by omega) fun X hX => takeOf_wrong _ _ _ _ _ _ _ _ _ fun Y hY => wrong_w_op ((h.go hX).go hY) hs.1 k_ p true true _ _ _ (by omega) hk rfl rfl e2
/-- A stream beyond what is allowed. -/
theorem take_lim (h : Tb true x y k st w) (hs : st.fine) (p : Nat) (hp : p < 1000) (d : Value) (hl : st.t0.l ≤ (p : Int)) :
    Calls Tryz.prog 21 #[.pointer (some ⟨k.T, 0, none⟩), .agg (fr6 8 (4 * (p : Int)) 0 d false).toArray] w fun e w' => ∃ v, e = .returned v ∧ Cl w' v 4 8 31 ∧ Below w.heap.size w w' := by
  have e : 4 * (p : Int) = sid p false false := by simp [sid]
  rw [e]
  exact take_cl h _ _ _ _ _ _ _ (by omega) fun X hX => takeOf_wrong _ _ _ _ _ _ _ _ _ fun Y hY => wrong_r_lim ((h.go hX).go hY) hs 8 p false false _ _ _ (by omega) (by omega) rfl rfl hl
end
end Go.Proofs.YtijndpjdmiljkaaGreatDoor
