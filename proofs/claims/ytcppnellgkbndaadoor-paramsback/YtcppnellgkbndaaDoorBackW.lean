/- ParamsBack: the walk. Written by tools/gen-params-back.py. -/
import Derived.Test.YtcppnellgkbndaaDoorPe
namespace Go.Proofs.YtcppnellgkbndaaDoor
open Go.ChangeShapes Go.WideShapes Go.ChangeAt Go.RowKit
set_option linter.unusedVariables false
set_option maxRecDepth 100000

set_option maxHeartbeats 8000000 in
theorem back_walk (p : Ps) (o : Option Addr) (c : Nat) (l : List UInt8) (s : Bool) (w : World) (hp : Pl w p) (hs : Sl w o l) (hl : l.length ≤ 140737488351232) (hlc : l.length ≤ c) (hc : c ≤ 9223372036854775807) (ht : Tb w)
    (x : Option Addr) (hu : w.cell? ⟨1, 0, none⟩ = some (.iface 138 (.pointer x))) : Calls Tryd.prog 5 #[.agg p.cells.toArray, .slice o l.length c, .bool s] w fun e w' => e = .returned (.bool true) ∧ Below w.heap.size w w' := by
  obtain ⟨RC, RQ, hR⟩ : ∃ RC RQ, rdL l s (l.length + 1) 0 (fun _ => false) (refq dps) = (RC, RQ) := ⟨_, _, rfl⟩
  have HT : Aside (∀ X, Below w.heap.size w X → Tb X) := fun X hb => Tb_below ht hb (Tb_pos ht)
  have HRB : Aside (∀ X, Below w.heap.size w X → Calls Tryd.prog 17 #[.slice o l.length c, .bool s] X fun e w' => ∃ q, e = .returned (.tuple #[.agg q.cells.toArray, .int .i64 RC]) ∧ refq q = RQ ∧ Pn X.heap.size w' q ∧ Below X.heap.size X w') :=
    fun X hb => read_c o c l s X (HT.out X hb) (Sl_below hs hb) hl hlc hc x (cell_bel hu hb) RC RQ hR
  have HERR : Aside (RC ≠ 0 → RQ = rqE) := fun h => rdL_err _ hR h
  have HFIT : Aside (∀ q : Ps, RC = 0 → refq q = RQ → q.bad s = false) := fun q h1 h2 => read_fit (l := l) (f := l.length + 1) (by rw [hR, h1, h2])
  have HPU : Aside (∀ (X : World) (q : Ps), Below w.heap.size w X → Pl X q → q.bad s = false → Calls Tryd.prog 8 #[.agg q.cells.toArray, .bool s] X fun e w' => ∃ o c, e = .returned (.tuple #[.slice o (q.bytes s).length c, .int .i64 0]) ∧ Lb w' o c (q.bytes s) ∧ Below X.heap.size X w') := fun X q hb h1 h2 => put_s q s X h1 (HT.out X hb) h2
  have HRS : Aside (∀ (X : World) (q : Ps), Below w.heap.size w X → q.reset.length = 16 → q.bad s = false → ∀ (o : Option Addr) (c : Nat), Lb X o c (q.bytes s) → Calls Tryd.prog 17 #[.slice o (q.bytes s).length c, .bool s] X fun e w' => ∃ r, e = .returned (.tuple #[.agg r.cells.toArray, .int .i64 0]) ∧ refq r = refq q ∧ Pn X.heap.size w' r ∧ Below X.heap.size X w') :=
    fun X q hb h1 h2 o c h3 => read_s q s X h1 h2 o c h3 (HT.out X hb) x (cell_bel hu hb)
  obtain ⟨dc, hdc⟩ : ∃ dc, defA = dc := ⟨_, rfl⟩
  have HDF : Aside (∀ X, Calls Tryd.prog 13 #[] X fun e w' => e = .returned (.agg dc) ∧ Below X.heap.size X w') := fun X => by have := default_c X; rwa [hdc] at this
  have HD8 : Aside (∀ X, Below w.heap.size w X → Calls Tryd.prog 8 #[.agg dc, .bool false] X fun e w' => ∃ o c, e = .returned (.tuple #[.slice o 2 c, .int .i64 0]) ∧ (convert 22 9 (.slice o 2 c)).run Tryd.prog w' = .ok (.string ⟨#[15, 0]⟩) w' ∧ Below X.heap.size X w') := fun X hb => by
    have := dflt_s X (HT.out X hb)
    rwa [hdc] at this
  have HPP : Aside (∀ X, Below w.heap.size w X → Pl X p) := fun X hb => hp.bel hb
  have HNO : Aside (p.bad s = true → ∀ X, Below w.heap.size w X → Calls Tryd.prog 8 #[.agg p.cells.toArray, .bool s] X fun e w' => e = .returned (.tuple #[.slice none 0 0, .int .i64 2]) ∧ Below X.heap.size X w') := fun h X hb => put_no p s X (hp.bel hb) h
  have hpm := hp.pm
  obtain ⟨pc, hpc⟩ : ∃ pc, p.cells.toArray = pc := ⟨_, rfl⟩
  have HPC : Aside (p.cells.toArray = pc) := hpc
  have HIP : Aside ((Tryd.prog.info? 25).map (·.size) = some pc.size) := by show _ = _; rw [hi25, ← hpc]; simp [Ps.cells, hp.r16]
  rw [hpc] at hpm
  rw [hpc]
  obtain ⟨W1, hW1⟩ : ∃ W1, w.alloc (.cells pc 25) = W1 := ⟨_, rfl⟩
  have HB1 : Aside (Below w.heap.size w W1) := by show Below _ _ _; rw [← hW1]; exact bel1 w _
  have HROW : Aside (W1.heap[w.heap.size]? = some (.cells pc 25 (0, 0))) := by
    have := hpm.row
    rw [hpc, hW1] at this
    exact this
  have HKP : Aside (∀ X, Below W1.heap.size W1 X → X.heap[w.heap.size]? = some (.cells pc 25 (0, 0))) := fun X hX => (hX.block _ (lt_block HROW.out)).trans HROW.out
  clear hp hs ht hu hR hdc hpm hpc
  obtain ⟨P, hP⟩ : ∃ P, w.heap.size = P := ⟨_, rfl⟩
  have HP : Aside (w.heap.size = P) := hP
  rw [hP] at HKP HROW
  go_enter Tryd.func5, Tryd.ntmps5
  go_wp2_with fail
  refine (HDF.out W1).mono ?_
  rintro e W2 ⟨rfl, hb2⟩
  have HB2 : Aside (Below w.heap.size w W2 ∧ Below W1.heap.size W1 W2) := ⟨bel_trans HB1.out hb2, hb2⟩
  clear hb2
  go_wp2_with fail
  refine (HD8.out W2 HB2.out.1).mono ?_
  rintro e W3 ⟨od, cd, rfl, hcv, hb3⟩
  have HB3 : Aside (Below w.heap.size w W3 ∧ Below W1.heap.size W1 W3) := ⟨bel_trans HB2.out.1 hb3, bel_trans HB2.out.2 hb3⟩
  clear hb3 HB2
  have HR3 : Aside (W3.heap[P]? = some (.cells pc 25 (0, 0))) := HKP.out W3 HB3.out.2
  by_cases hbad : p.bad s = true
  · have hpn := HNO.out hbad W3 HB3.out.1
    rw [HPC.out] at hpn
    go_wp2_with (first | (refine wpList_load_row rfl 25 (.tmp 3) rfl P rfl 25 _ (0, 0) _ HR3.out hu25 rfl HIP.out ?_))
    refine hpn.mono ?_
    rintro e W4 ⟨rfl, hb4⟩
    have HV : Aside (Below w.heap.size w W4) := bel_trans HB3.out.1 hb4
    clear hpn hb4 hcv HB3 HR3 HKP HROW
    have hrd := HRB.out W4 HV.out
    go_wp2_with fail
    refine hrd.mono ?_
    rintro e X1 ⟨q, rfl, hq, hnnq, hbq⟩
    clear hrd
    have HQ : Aside (refq q = RQ ∧ Pn W4.heap.size X1 q ∧ Below W4.heap.size W4 X1) := ⟨hq, hnnq, hbq⟩
    have HSZnq : Aside (q.cells.toArray.size = 34) := Ps.size34 hnnq.r16
    have HONnq : Aside (q.cells.toArray.all (·.oneCell') = true) := q.one34
    obtain ⟨DQ, hDnq⟩ : ∃ DQ, q.cells.toArray = DQ := ⟨_, rfl⟩
    rw [hDnq] at HSZnq HONnq ⊢
    have HCnq : Aside (q.cells.toArray = DQ) := hDnq
    clear hDnq
    have HInq : Aside ((Tryd.prog.info? 25).map (·.size) = some DQ.size) := by show _ = _; rw [HSZnq.out]; exact hi25
    have HZnq : Aside (zA.size = DQ.size) := by show _ = _; rw [HSZnq.out]; rfl
    obtain ⟨X1a, hX1a⟩ : ∃ X1a, X1.alloc (.cells zA 25) = X1a := ⟨_, rfl⟩
    have HGX1a : Aside (X1a.heap[X1.heap.size]? = some (.cells zA 25 (0, 0))) := by show _ = _; rw [← hX1a]; exact heap_alloc_new X1 _
    have HBX1a : Aside (Below X1.heap.size X1 X1a) := by show Below _ _ _; rw [← hX1a]; exact bel1 _ _
    unfold zA at hX1a
    go_upto_region 10 with (refine wpList_store_row rfl 25 (.tmp 13) (.tmp 54) rfl X1.heap.size DQ rfl rfl 25 _ HGX1a.out HInq.out HZnq.out HONnq.out ?_)
    obtain ⟨X2, hX2⟩ : ∃ X2, X1a.setRow X1.heap.size DQ = X2 := ⟨_, rfl⟩
    rw [hX2]
    have HRX2 : Aside (X2.heap[X1.heap.size]? = some (.cells DQ 25 (0, 0))) := by show _ = _; rw [← hX2]; exact setRow_heap X1a _ _ _ 25 (0, 0) HGX1a.out
    have HBX2 : Aside (Below X1.heap.size X1 X2) := by show Below _ _ _; rw [← hX2]; exact HBX1a.out.trans ⟨rfl, rfl, rfl, by simp, fun j hj => setRow_other X1a _ j _ (by omega)⟩
    clear hX2 hX1a HGX1a HBX1a HZnq
    have HBX2' : Aside (Below X1.heap.size X1 X2) := HBX2.out
    have HBX2w : Aside (Below w.heap.size w X2) := bel_trans (bel_trans HV.out HQ.out.2.2) HBX2.out
    have HPQ : Aside (∀ X, Below X2.heap.size X2 X → Pl X q) := fun X hX => ((HQ.out.2.1.bel (bel_trans (by have := HBX2'.out; exact this) hX)).pl)
    generalize X1.heap.size = AQ at HRX2 ⊢
    clear hq hnnq hbq HBX2 HV
    by_cases hrc : RC = 0
    · subst hrc
      have HQF : Aside (q.bad s = false) := HFIT.out q rfl HQ.out.1
      obtain ⟨nq, hnq⟩ : ∃ nq, (q.bytes s).length = nq := ⟨_, rfl⟩
      have HNQ : Aside ((q.bytes s).length = nq) := hnq
      clear hnq
      have hp2 := HPU.out X2 q HBX2w.out (HPQ.out X2 (Below.refl _ _)) HQF.out
      rw [HCnq.out, HNQ.out] at hp2
      go_wp2_with (first | (refine wpList_load_row rfl 25 (.tmp 13) rfl AQ rfl 25 _ (0, 0) _ HRX2.out hu25 rfl HInq.out ?_))
      refine hp2.mono ?_
      rintro e X3 ⟨o3, c3, rfl, hl3, hb3⟩
      clear hp2
      have HL3 : Aside (Lb X3 o3 c3 (q.bytes s) ∧ Below X2.heap.size X2 X3) := ⟨hl3, hb3⟩
      clear hl3 hb3
      have hr4 := HRS.out X3 q (bel_trans HBX2w.out HL3.out.2) (HPQ.out X2 (Below.refl _ _)).r16 HQF.out o3 c3 HL3.out.1
      rw [HNQ.out] at hr4
      go_wp2_with fail
      refine hr4.mono ?_
      rintro e X4 ⟨r, rfl, hr, hnnr, hbr⟩
      clear hr4
      have HR4 : Aside (refq r = RQ ∧ Pn X3.heap.size X4 r ∧ Below X3.heap.size X3 X4) := ⟨hr.trans HQ.out.1, hnnr, hbr⟩
      have HSZnr : Aside (r.cells.toArray.size = 34) := Ps.size34 hnnr.r16
      have HONnr : Aside (r.cells.toArray.all (·.oneCell') = true) := r.one34
      obtain ⟨DR, hDnr⟩ : ∃ DR, r.cells.toArray = DR := ⟨_, rfl⟩
      rw [hDnr] at HSZnr HONnr ⊢
      have HCnr : Aside (r.cells.toArray = DR) := hDnr
      clear hDnr
      have HInr : Aside ((Tryd.prog.info? 25).map (·.size) = some DR.size) := by show _ = _; rw [HSZnr.out]; exact hi25
      have HZnr : Aside (zA.size = DR.size) := by show _ = _; rw [HSZnr.out]; rfl
      obtain ⟨X4a, hX4a⟩ : ∃ X4a, X4.alloc (.cells zA 25) = X4a := ⟨_, rfl⟩
      have HGX4a : Aside (X4a.heap[X4.heap.size]? = some (.cells zA 25 (0, 0))) := by show _ = _; rw [← hX4a]; exact heap_alloc_new X4 _
      have HBX4a : Aside (Below X4.heap.size X4 X4a) := by show Below _ _ _; rw [← hX4a]; exact bel1 _ _
      unfold zA at hX4a
      go_upto_region 14 with (refine wpList_store_row rfl 25 (.tmp 14) (.tmp 73) rfl X4.heap.size DR rfl rfl 25 _ HGX4a.out HInr.out HZnr.out HONnr.out ?_)
      obtain ⟨X5, hX5⟩ : ∃ X5, X4a.setRow X4.heap.size DR = X5 := ⟨_, rfl⟩
      rw [hX5]
      have HRX5 : Aside (X5.heap[X4.heap.size]? = some (.cells DR 25 (0, 0))) := by show _ = _; rw [← hX5]; exact setRow_heap X4a _ _ _ 25 (0, 0) HGX4a.out
      have HBX5 : Aside (Below X4.heap.size X4 X5) := by show Below _ _ _; rw [← hX5]; exact HBX4a.out.trans ⟨rfl, rfl, rfl, by simp, fun j hj => setRow_other X4a _ j _ (by omega)⟩
      clear hX5 hX4a HGX4a HBX4a HZnr
      have HB25 : Aside (Below X2.heap.size X2 X5) := bel_trans HL3.out.2 (bel_trans HR4.out.2.2 HBX5.out)
      have HPR : Aside (∀ X, Below X5.heap.size X5 X → Pl X r) := fun X hX => (HR4.out.2.1.bel (bel_trans HBX5.out hX)).pl
      generalize X4.heap.size = AR at HRX5 ⊢
      clear hr hnnr hbr HBX5
      obtain ⟨D4, hD4⟩ : ∃ D4, RQ.cells.toArray = D4 := ⟨_, rfl⟩
      have heql : ∀ X, (binOp .eql 34 (.agg D4) (.agg D4)).run Tryd.prog X = .ok (.bool true) X := fun X => by rw [← hD4]; exact eq34s RQ X
      have HKE : Aside (∀ X, Below X5.heap.size X5 X → X.heap[AQ]? = some (.cells DQ 25 (0, 0)) ∧ X.heap[AR]? = some (.cells DR 25 (0, 0))) := fun X hX => ⟨((bel_trans HB25.out hX).block _ (lt_block HRX2.out)).trans HRX2.out, (hX.block _ (lt_block HRX5.out)).trans HRX5.out⟩
      have HFQ : Aside (∀ X, Below X5.heap.size X5 X → Calls Tryd.prog 10 #[.agg DQ] X fun e w' => e = .returned (.agg D4) ∧ Below X.heap.size X w') := fun X hX => by
        have := refs_c q X (HPQ.out X (bel_trans HB25.out hX))
        rwa [HCnq.out, HQ.out.1, hD4] at this
      have HFR : Aside (∀ X, Below X5.heap.size X5 X → Calls Tryd.prog 10 #[.agg DR] X fun e w' => e = .returned (.agg D4) ∧ Below X.heap.size X w') := fun X hX => by
        have := refs_c r X (HPR.out X hX)
        rwa [HCnr.out, HR4.out.1, hD4] at this
      have HEN : Aside (Below w.heap.size w X5) := bel_trans HBX2w.out HB25.out
      clear hD4 HPQ HPR HQ HR4 HL3 HRX2 HRX5 HB25
      refine wp_region_held_drew (S := fun Z : World => Z.heap[AQ]? = some (.cells DQ 25 (0, 0)) ∧ Z.heap[AR]? = some (.cells DR 25 (0, 0))) (by kernel_rfl) (HKE.out _ (Below.refl _ _).drew) (fun hHeld => ?_)
      refine wpAnyH_take (i := 0) (v := .int .i64 0) rfl (by kernel_rfl) (by kernel_rfl) (by kernel_rfl) (fun _ _ _ h => h) (Or.inl ⟨by rfl, by intro w hs; go_simp⟩) hHeld ?_
      refine norm_any' (fun K hK => ?_)
      go_simp
      refine hK _ _ ?_
      clear hK K
      refine wpAnyH_take (i := 1) (v := .bool true) rfl (by kernel_rfl) (by kernel_rfl) (by kernel_rfl) (fun _ _ _ h => h) (Or.inl ⟨by rfl, by intro w hs; go_simp⟩) hHeld ?_
      refine norm_any' (fun K hK => ?_)
      go_simp
      refine hK _ _ ?_
      clear hK K
      refine wpAnyH_take (i := 2) (v := .bool true) rfl (by kernel_rfl) (by kernel_rfl) (by kernel_rfl) (fun _ _ _ h => h) (Or.inl ⟨by rfl, by intro w hs; go_simp⟩) hHeld ?_
      refine norm_any' (fun K hK => ?_)
      go_simp
      refine hK _ _ ?_
      clear hK K
      refine wpAnyH_take (i := 3) (v := .int .i64 0) rfl (by kernel_rfl) (by kernel_rfl) (by kernel_rfl) (fun _ _ _ h => h) (Or.inl ⟨by rfl, by intro w hs; go_simp⟩) hHeld ?_
      refine norm_any' (fun K hK => ?_)
      go_simp
      refine hK _ _ ?_
      clear hK K
      refine wpAnyH_take (i := 4) (v := .bool true) rfl (by kernel_rfl) (by kernel_rfl) (by kernel_rfl) (fun _ _ _ h => h) (Or.inl ⟨by rfl, by intro w hs; go_simp⟩) hHeld ?_
      refine norm_any' (fun K hK => ?_)
      go_simp
      refine hK _ _ ?_
      clear hK K
      refine wpAnyH_take (i := 5) (v := .bool true) rfl (by kernel_rfl) (by kernel_rfl) (by kernel_rfl) (fun _ _ _ h => h) (Or.inl ⟨by rfl, by intro w hs; go_simp⟩) hHeld ?_
      refine norm_any' (fun K hK => ?_)
      go_simp
      refine hK _ _ ?_
      clear hK K
      refine wpAnyH_take (i := 6) (v := .bool true) rfl (by kernel_rfl) (by kernel_rfl) (by kernel_rfl) (fun _ _ _ h => h) (Or.inl ⟨by rfl, by intro w hs; go_simp⟩) hHeld ?_
      refine norm_any' (fun K hK => ?_)
      go_simp
      refine hK _ _ ?_
      clear hK K
      refine wpAnyH_take (i := 7) (v := .agg DR) rfl (by kernel_rfl) (by kernel_rfl) (by kernel_rfl) (fun _ _ _ h => h) (yl25 (by rfl) _ rfl AR rfl DR (fun X h => h.2) HInr.out) hHeld ?_
      refine norm_any' (fun K hK => ?_)
      go_simp
      refine hK _ _ ?_
      clear hK K
      refine wpAnyH_take (i := 9) (v := .agg DQ) rfl (by kernel_rfl) (by kernel_rfl) (by kernel_rfl) (fun _ _ _ h => h) (yl25 (by rfl) _ rfl AQ rfl DQ (fun X h => h.1) HInq.out) hHeld ?_
      refine norm_any' (fun K hK => ?_)
      go_simp
      refine hK _ _ ?_
      clear hK K
      refine wpAnyH_ready (rs := [8]) (by kernel_rfl) (by simp) (AllReadyH.cons rfl (fun K hK => ?_) AllReadyH.nil)
      go_simp
      refine Calls.mono (HFR.out _ (Below.refl _ _).drew) ?_
      rintro e wa ⟨rfl, hbwa⟩
      have HBwa : Aside (Below X5.heap.size X5 wa) := bel_trans (Below.refl _ _).drew hbwa
      clear hbwa
      refine hK.out _ _ (HKE.out _ HBwa.out) (fun hHeld => ?_)
      clear hK K
      refine norm_any' (fun K hK => ?_)
      go_simp
      refine hK _ _ ?_
      clear hK K
      refine wpAnyH_ready (rs := [10]) (by kernel_rfl) (by simp) (AllReadyH.cons rfl (fun K hK => ?_) AllReadyH.nil)
      go_simp
      refine Calls.mono (HFQ.out _ HBwa.out) ?_
      rintro e wb ⟨rfl, hbwb⟩
      have HBwb : Aside (Below X5.heap.size X5 wb) := bel_trans HBwa.out hbwb
      clear hbwb
      refine hK.out _ _ (HKE.out _ HBwb.out) (fun hHeld => ?_)
      clear hK K
      refine norm_any' (fun K hK => ?_)
      go_simp
      refine hK _ _ ?_
      clear hK K
      refine wpAnyH_take (i := 11) (v := .bool true) rfl (by kernel_rfl) (by kernel_rfl) (by kernel_rfl) (fun _ _ _ h => h) (Or.inl ⟨by rfl, by intro w hs; go_simp⟩) hHeld ?_
      refine norm_any' (fun K hK => ?_)
      go_simp
      refine hK _ _ ?_
      clear hK K
      refine wpAnyH_take (i := 12) (v := .bool true) rfl (by kernel_rfl) (by kernel_rfl) (by kernel_rfl) (fun _ _ _ h => h) (Or.inl ⟨by rfl, by intro w hs; go_simp⟩) hHeld ?_
      refine norm_any' (fun K hK => ?_)
      go_simp
      refine hK _ _ ?_
      clear hK K
      refine wpAnyH_take (i := 13) (v := .bool true) rfl (by kernel_rfl) (by kernel_rfl) (by kernel_rfl) (fun _ _ _ h => h) (Or.inl ⟨by rfl, by intro w hs; go_simp⟩) hHeld ?_
      refine norm_any' (fun K hK => ?_)
      go_simp
      refine hK _ _ ?_
      clear hK K
      refine wpAnyH_done (by kernel_rfl) ?_ _
      clear hHeld
      have HEND : Aside (Below w.heap.size w wb) := bel_trans HEN.out HBwb.out
      clear heql HKE HFQ HFR HBwa HBwb
      go_wp2
      go_ret
      exact ⟨rfl, HEND.out⟩
    · have hz := HERR.out hrc
      have HQZ : Aside (refq q = rqE) := HQ.out.1.trans hz
      obtain ⟨D4, hD4⟩ : ∃ D4, rqE.cells.toArray = D4 := ⟨_, rfl⟩
      have heql : ∀ X, (binOp .eql 34 (.agg D4) (.agg D4)).run Tryd.prog X = .ok (.bool true) X := fun X => by rw [← hD4]; exact eq34s rqE X
      have hfq := refs_c q X2 (HPQ.out X2 (Below.refl _ _))
      rw [HCnq.out, HQZ.out, hD4] at hfq
      have HFZ : Aside (∀ X, Calls Tryd.prog 10 #[.agg zA] X fun e w' => e = .returned (.agg D4) ∧ Below X.heap.size X w') := fun X => by
        have := refs_c zps X (pn_zps X.heap.size X).pl
        rwa [zps_cells, zps_ref, hD4] at this
      clear hD4 hz HQZ HQ HPQ
      go_wp2_with (first | (refine wpList_load_row rfl 25 (.tmp 13) rfl AQ rfl 25 _ (0, 0) _ HRX2.out hu25 rfl HInq.out ?_))
      refine hfq.mono ?_
      rintro e X3 ⟨rfl, hb3⟩
      have HB3 : Aside (Below w.heap.size w X3) := bel_trans HBX2w.out hb3
      clear hfq hb3
      go_wp2_with fail
      refine (HFZ.out X3).mono ?_
      rintro e X4 ⟨rfl, hb4⟩
      have HB4 : Aside (Below w.heap.size w X4) := bel_trans HB3.out hb4
      clear hb4 HFZ
      go_wp2
      go_ret
      exact ⟨rfl, HB4.out⟩
  · have HBD : Aside (p.bad s = false) := by show _ = _; simpa using hbad
    clear hbad
    obtain ⟨np, hnp⟩ : ∃ np, (p.bytes s).length = np := ⟨_, rfl⟩
    have HNP : Aside ((p.bytes s).length = np) := hnp
    clear hnp
    have hpn := HPU.out W3 p HB3.out.1 (HPP.out W3 HB3.out.1) HBD.out
    rw [HPC.out, HNP.out] at hpn
    go_wp2_with (first | (refine wpList_load_row rfl 25 (.tmp 3) rfl P rfl 25 _ (0, 0) _ HR3.out hu25 rfl HIP.out ?_))
    refine hpn.mono ?_
    rintro e W4 ⟨o4, c4, rfl, hl4, hb4⟩
    have HL4 : Aside (Lb W4 o4 c4 (p.bytes s)) := hl4
    have HB4 : Aside (Below w.heap.size w W4 ∧ Below W1.heap.size W1 W4) := ⟨bel_trans HB3.out.1 hb4, bel_trans HB3.out.2 hb4⟩
    clear hpn hl4 hb4 hcv HB3 HR3
    have hr5 := HRS.out W4 p HB4.out.1 (HPP.out W4 HB4.out.1).r16 HBD.out o4 c4 HL4.out
    rw [HNP.out] at hr5
    go_wp2_with fail
    refine hr5.mono ?_
    rintro e W5 ⟨p1, rfl, hr1, hn1, hb5⟩
    clear hr5
    have HP1 : Aside (refq p1 = refq p ∧ Pn W4.heap.size W5 p1 ∧ Below W4.heap.size W4 W5) := ⟨hr1, hn1, hb5⟩
    have HSZ1 : Aside (p1.cells.toArray.size = 34) := Ps.size34 hn1.r16
    have HON1 : Aside (p1.cells.toArray.all (·.oneCell') = true) := p1.one34
    obtain ⟨D1, hD1⟩ : ∃ D1, p1.cells.toArray = D1 := ⟨_, rfl⟩
    rw [hD1] at HSZ1 HON1 ⊢
    have HC1 : Aside (p1.cells.toArray = D1) := hD1
    clear hD1
    have HI1 : Aside ((Tryd.prog.info? 25).map (·.size) = some D1.size) := by show _ = _; rw [HSZ1.out]; exact hi25
    have HZ1 : Aside (zA.size = D1.size) := by show _ = _; rw [HSZ1.out]; rfl
    obtain ⟨W5a, hW5a⟩ : ∃ W5a, W5.alloc (.cells zA 25) = W5a := ⟨_, rfl⟩
    have HGW5a : Aside (W5a.heap[W5.heap.size]? = some (.cells zA 25 (0, 0))) := by show _ = _; rw [← hW5a]; exact heap_alloc_new W5 _
    have HBW5a : Aside (Below W5.heap.size W5 W5a) := by show Below _ _ _; rw [← hW5a]; exact bel1 _ _
    unfold zA at hW5a
    go_upto_region 7 with (refine wpList_store_row rfl 25 (.tmp 11) (.tmp 39) rfl W5.heap.size D1 rfl rfl 25 _ HGW5a.out HI1.out HZ1.out HON1.out ?_)
    obtain ⟨W6, hW6⟩ : ∃ W6, W5a.setRow W5.heap.size D1 = W6 := ⟨_, rfl⟩
    rw [hW6]
    have HRW6 : Aside (W6.heap[W5.heap.size]? = some (.cells D1 25 (0, 0))) := by show _ = _; rw [← hW6]; exact setRow_heap W5a _ _ _ 25 (0, 0) HGW5a.out
    have HBW6 : Aside (Below W5.heap.size W5 W6) := by show Below _ _ _; rw [← hW6]; exact HBW5a.out.trans ⟨rfl, rfl, rfl, by simp, fun j hj => setRow_other W5a _ j _ (by omega)⟩
    clear hW6 hW5a HGW5a HBW5a HZ1
    have HB6 : Aside (Below w.heap.size w W6 ∧ Below W1.heap.size W1 W6) := ⟨bel_trans HB4.out.1 (bel_trans HP1.out.2.2 HBW6.out), bel_trans HB4.out.2 (bel_trans HP1.out.2.2 HBW6.out)⟩
    have HPW : Aside (∀ X, Below W6.heap.size W6 X → Pl X p1) := fun X hX => (HP1.out.2.1.bel (bel_trans HBW6.out hX)).pl
    generalize W5.heap.size = A1 at HRW6 ⊢
    clear hr1 hn1 hb5 HBW6
    obtain ⟨D4, hD4⟩ : ∃ D4, (refq p).cells.toArray = D4 := ⟨_, rfl⟩
    have hneq : ∀ X, (binOp .neq 34 (.agg D4) (.agg D4)).run Tryd.prog X = .ok (.bool false) X := fun X => by rw [← hD4]; exact neq34s (refq p) X
    have HKR : Aside (∀ X, Below W6.heap.size W6 X → X.heap[P]? = some (.cells pc 25 (0, 0)) ∧ X.heap[A1]? = some (.cells D1 25 (0, 0))) := fun X hX => ⟨HKP.out X (bel_trans HB6.out.2 hX), (hX.block _ (lt_block HRW6.out)).trans HRW6.out⟩
    have HF1 : Aside (∀ X, Below W6.heap.size W6 X → Calls Tryd.prog 10 #[.agg D1] X fun e w' => e = .returned (.agg D4) ∧ Below X.heap.size X w') := fun X hX => by
      have := refs_c p1 X (HPW.out X hX)
      rwa [HC1.out, HP1.out.1, hD4] at this
    have HFP : Aside (∀ X, Below W6.heap.size W6 X → Calls Tryd.prog 10 #[.agg pc] X fun e w' => e = .returned (.agg D4) ∧ Below X.heap.size X w') := fun X hX => by
      have := refs_c p X (HPP.out X (bel_trans HB6.out.1 hX))
      rwa [HPC.out, hD4] at this
    have HBW : Aside (Below w.heap.size w W6) := HB6.out.1
    clear hD4 HP1 HPW HB4 HL4 HB6 HRW6 HKP HROW
    refine wp_region_held_drew (S := fun Z : World => Z.heap[P]? = some (.cells pc 25 (0, 0)) ∧ Z.heap[A1]? = some (.cells D1 25 (0, 0))) (by kernel_rfl) (HKR.out _ (Below.refl _ _).drew) (fun hHeld => ?_)
    refine wpAnyH_take (i := 0) (v := .int .i64 0) rfl (by kernel_rfl) (by kernel_rfl) (by kernel_rfl) (fun _ _ _ h => h) (Or.inl ⟨by rfl, by intro w hs; go_simp⟩) hHeld ?_
    refine norm_any' (fun K hK => ?_)
    go_simp
    refine hK _ _ ?_
    clear hK K
    refine wpAnyH_take (i := 1) (v := .bool false) rfl (by kernel_rfl) (by kernel_rfl) (by kernel_rfl) (fun _ _ _ h => h) (Or.inl ⟨by rfl, by intro w hs; go_simp⟩) hHeld ?_
    refine norm_any' (fun K hK => ?_)
    go_simp
    refine hK _ _ ?_
    clear hK K
    refine wpAnyH_take (i := 2) (v := .bool false) rfl (by kernel_rfl) (by kernel_rfl) (by kernel_rfl) (fun _ _ _ h => h) (Or.inl ⟨by rfl, by intro w hs; go_simp⟩) hHeld ?_
    refine norm_any' (fun K hK => ?_)
    go_simp
    refine hK _ _ ?_
    clear hK K
    refine wpAnyH_take (i := 3) (v := .agg D1) rfl (by kernel_rfl) (by kernel_rfl) (by kernel_rfl) (fun _ _ _ h => h) (yl25 (by rfl) _ rfl A1 rfl D1 (fun X h => h.2) HI1.out) hHeld ?_
    refine norm_any' (fun K hK => ?_)
    go_simp
    refine hK _ _ ?_
    clear hK K
    refine wpAnyH_take (i := 5) (v := .agg pc) rfl (by kernel_rfl) (by kernel_rfl) (by kernel_rfl) (fun _ _ _ h => h) (yl25 (by rfl) _ rfl P rfl pc (fun X h => h.1) HIP.out) hHeld ?_
    refine norm_any' (fun K hK => ?_)
    go_simp
    refine hK _ _ ?_
    clear hK K
    refine wpAnyH_ready (rs := [4]) (by kernel_rfl) (by simp) (AllReadyH.cons rfl (fun K hK => ?_) AllReadyH.nil)
    go_simp
    refine Calls.mono (HF1.out _ (Below.refl _ _).drew) ?_
    rintro e wa ⟨rfl, hbwa⟩
    have HBwa : Aside (Below W6.heap.size W6 wa) := bel_trans (Below.refl _ _).drew hbwa
    clear hbwa
    refine hK.out _ _ (HKR.out _ HBwa.out) (fun hHeld => ?_)
    clear hK K
    refine norm_any' (fun K hK => ?_)
    go_simp
    refine hK _ _ ?_
    clear hK K
    refine wpAnyH_ready (rs := [6]) (by kernel_rfl) (by simp) (AllReadyH.cons rfl (fun K hK => ?_) AllReadyH.nil)
    go_simp
    refine Calls.mono (HFP.out _ HBwa.out) ?_
    rintro e wb ⟨rfl, hbwb⟩
    have HBwb : Aside (Below W6.heap.size W6 wb) := bel_trans HBwa.out hbwb
    clear hbwb
    refine hK.out _ _ (HKR.out _ HBwb.out) (fun hHeld => ?_)
    clear hK K
    refine norm_any' (fun K hK => ?_)
    go_simp
    refine hK _ _ ?_
    clear hK K
    refine wpAnyH_take (i := 7) (v := .bool false) rfl (by kernel_rfl) (by kernel_rfl) (by kernel_rfl) (fun _ _ _ h => h) (Or.inl ⟨by rfl, by intro w hs; go_simp⟩) hHeld ?_
    refine norm_any' (fun K hK => ?_)
    go_simp
    refine hK _ _ ?_
    clear hK K
    refine wpAnyH_take (i := 8) (v := .bool false) rfl (by kernel_rfl) (by kernel_rfl) (by kernel_rfl) (fun _ _ _ h => h) (Or.inl ⟨by rfl, by intro w hs; go_simp⟩) hHeld ?_
    refine norm_any' (fun K hK => ?_)
    go_simp
    refine hK _ _ ?_
    clear hK K
    refine wpAnyH_done (by kernel_rfl) ?_ _
    clear hHeld
    have HV : Aside (Below w.heap.size w wb) := bel_trans HBW.out HBwb.out
    clear hneq HKR HF1 HFP HBwa HBwb HBW
    have hrd := HRB.out wb HV.out
    go_wp2_with fail
    refine hrd.mono ?_
    rintro e X1 ⟨q, rfl, hq, hnnq, hbq⟩
    clear hrd
    have HQ : Aside (refq q = RQ ∧ Pn wb.heap.size X1 q ∧ Below wb.heap.size wb X1) := ⟨hq, hnnq, hbq⟩
    have HSZnq : Aside (q.cells.toArray.size = 34) := Ps.size34 hnnq.r16
    have HONnq : Aside (q.cells.toArray.all (·.oneCell') = true) := q.one34
    obtain ⟨DQ, hDnq⟩ : ∃ DQ, q.cells.toArray = DQ := ⟨_, rfl⟩
    rw [hDnq] at HSZnq HONnq ⊢
    have HCnq : Aside (q.cells.toArray = DQ) := hDnq
    clear hDnq
    have HInq : Aside ((Tryd.prog.info? 25).map (·.size) = some DQ.size) := by show _ = _; rw [HSZnq.out]; exact hi25
    have HZnq : Aside (zA.size = DQ.size) := by show _ = _; rw [HSZnq.out]; rfl
    obtain ⟨X1a, hX1a⟩ : ∃ X1a, X1.alloc (.cells zA 25) = X1a := ⟨_, rfl⟩
    have HGX1a : Aside (X1a.heap[X1.heap.size]? = some (.cells zA 25 (0, 0))) := by show _ = _; rw [← hX1a]; exact heap_alloc_new X1 _
    have HBX1a : Aside (Below X1.heap.size X1 X1a) := by show Below _ _ _; rw [← hX1a]; exact bel1 _ _
    unfold zA at hX1a
    go_upto_region 10 with (refine wpList_store_row rfl 25 (.tmp 13) (.tmp 54) rfl X1.heap.size DQ rfl rfl 25 _ HGX1a.out HInq.out HZnq.out HONnq.out ?_)
    obtain ⟨X2, hX2⟩ : ∃ X2, X1a.setRow X1.heap.size DQ = X2 := ⟨_, rfl⟩
    rw [hX2]
    have HRX2 : Aside (X2.heap[X1.heap.size]? = some (.cells DQ 25 (0, 0))) := by show _ = _; rw [← hX2]; exact setRow_heap X1a _ _ _ 25 (0, 0) HGX1a.out
    have HBX2 : Aside (Below X1.heap.size X1 X2) := by show Below _ _ _; rw [← hX2]; exact HBX1a.out.trans ⟨rfl, rfl, rfl, by simp, fun j hj => setRow_other X1a _ j _ (by omega)⟩
    clear hX2 hX1a HGX1a HBX1a HZnq
    have HBX2' : Aside (Below X1.heap.size X1 X2) := HBX2.out
    have HBX2w : Aside (Below w.heap.size w X2) := bel_trans (bel_trans HV.out HQ.out.2.2) HBX2.out
    have HPQ : Aside (∀ X, Below X2.heap.size X2 X → Pl X q) := fun X hX => ((HQ.out.2.1.bel (bel_trans (by have := HBX2'.out; exact this) hX)).pl)
    generalize X1.heap.size = AQ at HRX2 ⊢
    clear hq hnnq hbq HBX2 HV
    by_cases hrc : RC = 0
    · subst hrc
      have HQF : Aside (q.bad s = false) := HFIT.out q rfl HQ.out.1
      obtain ⟨nq, hnq⟩ : ∃ nq, (q.bytes s).length = nq := ⟨_, rfl⟩
      have HNQ : Aside ((q.bytes s).length = nq) := hnq
      clear hnq
      have hp2 := HPU.out X2 q HBX2w.out (HPQ.out X2 (Below.refl _ _)) HQF.out
      rw [HCnq.out, HNQ.out] at hp2
      go_wp2_with (first | (refine wpList_load_row rfl 25 (.tmp 13) rfl AQ rfl 25 _ (0, 0) _ HRX2.out hu25 rfl HInq.out ?_))
      refine hp2.mono ?_
      rintro e X3 ⟨o3, c3, rfl, hl3, hb3⟩
      clear hp2
      have HL3 : Aside (Lb X3 o3 c3 (q.bytes s) ∧ Below X2.heap.size X2 X3) := ⟨hl3, hb3⟩
      clear hl3 hb3
      have hr4 := HRS.out X3 q (bel_trans HBX2w.out HL3.out.2) (HPQ.out X2 (Below.refl _ _)).r16 HQF.out o3 c3 HL3.out.1
      rw [HNQ.out] at hr4
      go_wp2_with fail
      refine hr4.mono ?_
      rintro e X4 ⟨r, rfl, hr, hnnr, hbr⟩
      clear hr4
      have HR4 : Aside (refq r = RQ ∧ Pn X3.heap.size X4 r ∧ Below X3.heap.size X3 X4) := ⟨hr.trans HQ.out.1, hnnr, hbr⟩
      have HSZnr : Aside (r.cells.toArray.size = 34) := Ps.size34 hnnr.r16
      have HONnr : Aside (r.cells.toArray.all (·.oneCell') = true) := r.one34
      obtain ⟨DR, hDnr⟩ : ∃ DR, r.cells.toArray = DR := ⟨_, rfl⟩
      rw [hDnr] at HSZnr HONnr ⊢
      have HCnr : Aside (r.cells.toArray = DR) := hDnr
      clear hDnr
      have HInr : Aside ((Tryd.prog.info? 25).map (·.size) = some DR.size) := by show _ = _; rw [HSZnr.out]; exact hi25
      have HZnr : Aside (zA.size = DR.size) := by show _ = _; rw [HSZnr.out]; rfl
      obtain ⟨X4a, hX4a⟩ : ∃ X4a, X4.alloc (.cells zA 25) = X4a := ⟨_, rfl⟩
      have HGX4a : Aside (X4a.heap[X4.heap.size]? = some (.cells zA 25 (0, 0))) := by show _ = _; rw [← hX4a]; exact heap_alloc_new X4 _
      have HBX4a : Aside (Below X4.heap.size X4 X4a) := by show Below _ _ _; rw [← hX4a]; exact bel1 _ _
      unfold zA at hX4a
      go_upto_region 14 with (refine wpList_store_row rfl 25 (.tmp 14) (.tmp 73) rfl X4.heap.size DR rfl rfl 25 _ HGX4a.out HInr.out HZnr.out HONnr.out ?_)
      obtain ⟨X5, hX5⟩ : ∃ X5, X4a.setRow X4.heap.size DR = X5 := ⟨_, rfl⟩
      rw [hX5]
      have HRX5 : Aside (X5.heap[X4.heap.size]? = some (.cells DR 25 (0, 0))) := by show _ = _; rw [← hX5]; exact setRow_heap X4a _ _ _ 25 (0, 0) HGX4a.out
      have HBX5 : Aside (Below X4.heap.size X4 X5) := by show Below _ _ _; rw [← hX5]; exact HBX4a.out.trans ⟨rfl, rfl, rfl, by simp, fun j hj => setRow_other X4a _ j _ (by omega)⟩
      clear hX5 hX4a HGX4a HBX4a HZnr
      have HB25 : Aside (Below X2.heap.size X2 X5) := bel_trans HL3.out.2 (bel_trans HR4.out.2.2 HBX5.out)
      have HPR : Aside (∀ X, Below X5.heap.size X5 X → Pl X r) := fun X hX => (HR4.out.2.1.bel (bel_trans HBX5.out hX)).pl
      generalize X4.heap.size = AR at HRX5 ⊢
      clear hr hnnr hbr HBX5
      obtain ⟨D4, hD4⟩ : ∃ D4, RQ.cells.toArray = D4 := ⟨_, rfl⟩
      have heql : ∀ X, (binOp .eql 34 (.agg D4) (.agg D4)).run Tryd.prog X = .ok (.bool true) X := fun X => by rw [← hD4]; exact eq34s RQ X
      have HKE : Aside (∀ X, Below X5.heap.size X5 X → X.heap[AQ]? = some (.cells DQ 25 (0, 0)) ∧ X.heap[AR]? = some (.cells DR 25 (0, 0))) := fun X hX => ⟨((bel_trans HB25.out hX).block _ (lt_block HRX2.out)).trans HRX2.out, (hX.block _ (lt_block HRX5.out)).trans HRX5.out⟩
      have HFQ : Aside (∀ X, Below X5.heap.size X5 X → Calls Tryd.prog 10 #[.agg DQ] X fun e w' => e = .returned (.agg D4) ∧ Below X.heap.size X w') := fun X hX => by
        have := refs_c q X (HPQ.out X (bel_trans HB25.out hX))
        rwa [HCnq.out, HQ.out.1, hD4] at this
      have HFR : Aside (∀ X, Below X5.heap.size X5 X → Calls Tryd.prog 10 #[.agg DR] X fun e w' => e = .returned (.agg D4) ∧ Below X.heap.size X w') := fun X hX => by
        have := refs_c r X (HPR.out X hX)
        rwa [HCnr.out, HR4.out.1, hD4] at this
      have HEN : Aside (Below w.heap.size w X5) := bel_trans HBX2w.out HB25.out
      clear hD4 HPQ HPR HQ HR4 HL3 HRX2 HRX5 HB25
      refine wp_region_held_drew (S := fun Z : World => Z.heap[AQ]? = some (.cells DQ 25 (0, 0)) ∧ Z.heap[AR]? = some (.cells DR 25 (0, 0))) (by kernel_rfl) (HKE.out _ (Below.refl _ _).drew) (fun hHeld => ?_)
      refine wpAnyH_take (i := 0) (v := .int .i64 0) rfl (by kernel_rfl) (by kernel_rfl) (by kernel_rfl) (fun _ _ _ h => h) (Or.inl ⟨by rfl, by intro w hs; go_simp⟩) hHeld ?_
      refine norm_any' (fun K hK => ?_)
      go_simp
      refine hK _ _ ?_
      clear hK K
      refine wpAnyH_take (i := 1) (v := .bool true) rfl (by kernel_rfl) (by kernel_rfl) (by kernel_rfl) (fun _ _ _ h => h) (Or.inl ⟨by rfl, by intro w hs; go_simp⟩) hHeld ?_
      refine norm_any' (fun K hK => ?_)
      go_simp
      refine hK _ _ ?_
      clear hK K
      refine wpAnyH_take (i := 2) (v := .bool true) rfl (by kernel_rfl) (by kernel_rfl) (by kernel_rfl) (fun _ _ _ h => h) (Or.inl ⟨by rfl, by intro w hs; go_simp⟩) hHeld ?_
      refine norm_any' (fun K hK => ?_)
      go_simp
      refine hK _ _ ?_
      clear hK K
      refine wpAnyH_take (i := 3) (v := .int .i64 0) rfl (by kernel_rfl) (by kernel_rfl) (by kernel_rfl) (fun _ _ _ h => h) (Or.inl ⟨by rfl, by intro w hs; go_simp⟩) hHeld ?_
      refine norm_any' (fun K hK => ?_)
      go_simp
      refine hK _ _ ?_
      clear hK K
      refine wpAnyH_take (i := 4) (v := .bool true) rfl (by kernel_rfl) (by kernel_rfl) (by kernel_rfl) (fun _ _ _ h => h) (Or.inl ⟨by rfl, by intro w hs; go_simp⟩) hHeld ?_
      refine norm_any' (fun K hK => ?_)
      go_simp
      refine hK _ _ ?_
      clear hK K
      refine wpAnyH_take (i := 5) (v := .bool true) rfl (by kernel_rfl) (by kernel_rfl) (by kernel_rfl) (fun _ _ _ h => h) (Or.inl ⟨by rfl, by intro w hs; go_simp⟩) hHeld ?_
      refine norm_any' (fun K hK => ?_)
      go_simp
      refine hK _ _ ?_
      clear hK K
      refine wpAnyH_take (i := 6) (v := .bool true) rfl (by kernel_rfl) (by kernel_rfl) (by kernel_rfl) (fun _ _ _ h => h) (Or.inl ⟨by rfl, by intro w hs; go_simp⟩) hHeld ?_
      refine norm_any' (fun K hK => ?_)
      go_simp
      refine hK _ _ ?_
      clear hK K
      refine wpAnyH_take (i := 7) (v := .agg DR) rfl (by kernel_rfl) (by kernel_rfl) (by kernel_rfl) (fun _ _ _ h => h) (yl25 (by rfl) _ rfl AR rfl DR (fun X h => h.2) HInr.out) hHeld ?_
      refine norm_any' (fun K hK => ?_)
      go_simp
      refine hK _ _ ?_
      clear hK K
      refine wpAnyH_take (i := 9) (v := .agg DQ) rfl (by kernel_rfl) (by kernel_rfl) (by kernel_rfl) (fun _ _ _ h => h) (yl25 (by rfl) _ rfl AQ rfl DQ (fun X h => h.1) HInq.out) hHeld ?_
      refine norm_any' (fun K hK => ?_)
      go_simp
      refine hK _ _ ?_
      clear hK K
      refine wpAnyH_ready (rs := [8]) (by kernel_rfl) (by simp) (AllReadyH.cons rfl (fun K hK => ?_) AllReadyH.nil)
      go_simp
      refine Calls.mono (HFR.out _ (Below.refl _ _).drew) ?_
      rintro e wa ⟨rfl, hbwa⟩
      have HBwa : Aside (Below X5.heap.size X5 wa) := bel_trans (Below.refl _ _).drew hbwa
      clear hbwa
      refine hK.out _ _ (HKE.out _ HBwa.out) (fun hHeld => ?_)
      clear hK K
      refine norm_any' (fun K hK => ?_)
      go_simp
      refine hK _ _ ?_
      clear hK K
      refine wpAnyH_ready (rs := [10]) (by kernel_rfl) (by simp) (AllReadyH.cons rfl (fun K hK => ?_) AllReadyH.nil)
      go_simp
      refine Calls.mono (HFQ.out _ HBwa.out) ?_
      rintro e wb ⟨rfl, hbwb⟩
      have HBwb : Aside (Below X5.heap.size X5 wb) := bel_trans HBwa.out hbwb
      clear hbwb
      refine hK.out _ _ (HKE.out _ HBwb.out) (fun hHeld => ?_)
      clear hK K
      refine norm_any' (fun K hK => ?_)
      go_simp
      refine hK _ _ ?_
      clear hK K
      refine wpAnyH_take (i := 11) (v := .bool true) rfl (by kernel_rfl) (by kernel_rfl) (by kernel_rfl) (fun _ _ _ h => h) (Or.inl ⟨by rfl, by intro w hs; go_simp⟩) hHeld ?_
      refine norm_any' (fun K hK => ?_)
      go_simp
      refine hK _ _ ?_
      clear hK K
      refine wpAnyH_take (i := 12) (v := .bool true) rfl (by kernel_rfl) (by kernel_rfl) (by kernel_rfl) (fun _ _ _ h => h) (Or.inl ⟨by rfl, by intro w hs; go_simp⟩) hHeld ?_
      refine norm_any' (fun K hK => ?_)
      go_simp
      refine hK _ _ ?_
      clear hK K
      refine wpAnyH_take (i := 13) (v := .bool true) rfl (by kernel_rfl) (by kernel_rfl) (by kernel_rfl) (fun _ _ _ h => h) (Or.inl ⟨by rfl, by intro w hs; go_simp⟩) hHeld ?_
      refine norm_any' (fun K hK => ?_)
      go_simp
      refine hK _ _ ?_
      clear hK K
      refine wpAnyH_done (by kernel_rfl) ?_ _
      clear hHeld
      have HEND : Aside (Below w.heap.size w wb) := bel_trans HEN.out HBwb.out
      clear heql HKE HFQ HFR HBwa HBwb
      go_wp2
      go_ret
      exact ⟨rfl, HEND.out⟩
    · have hz := HERR.out hrc
      have HQZ : Aside (refq q = rqE) := HQ.out.1.trans hz
      obtain ⟨D4, hD4⟩ : ∃ D4, rqE.cells.toArray = D4 := ⟨_, rfl⟩
      have heql : ∀ X, (binOp .eql 34 (.agg D4) (.agg D4)).run Tryd.prog X = .ok (.bool true) X := fun X => by rw [← hD4]; exact eq34s rqE X
      have hfq := refs_c q X2 (HPQ.out X2 (Below.refl _ _))
      rw [HCnq.out, HQZ.out, hD4] at hfq
      have HFZ : Aside (∀ X, Calls Tryd.prog 10 #[.agg zA] X fun e w' => e = .returned (.agg D4) ∧ Below X.heap.size X w') := fun X => by
        have := refs_c zps X (pn_zps X.heap.size X).pl
        rwa [zps_cells, zps_ref, hD4] at this
      clear hD4 hz HQZ HQ HPQ
      go_wp2_with (first | (refine wpList_load_row rfl 25 (.tmp 13) rfl AQ rfl 25 _ (0, 0) _ HRX2.out hu25 rfl HInq.out ?_))
      refine hfq.mono ?_
      rintro e X3 ⟨rfl, hb3⟩
      have HB3 : Aside (Below w.heap.size w X3) := bel_trans HBX2w.out hb3
      clear hfq hb3
      go_wp2_with fail
      refine (HFZ.out X3).mono ?_
      rintro e X4 ⟨rfl, hb4⟩
      have HB4 : Aside (Below w.heap.size w X4) := bel_trans HB3.out hb4
      clear hb4 HFZ
      go_wp2
      go_ret
      exact ⟨rfl, HB4.out⟩
end Go.Proofs.YtcppnellgkbndaaDoor
