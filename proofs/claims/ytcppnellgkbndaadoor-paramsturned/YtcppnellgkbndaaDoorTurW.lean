/- ParamsTurned: the walk. Written by tools/gen-params-turned.py. -/
import Derived.Test.YtcppnellgkbndaaDoorStrW
import Derived.Test.YtcppnellgkbndaaDoorPg
namespace Go.Proofs.YtcppnellgkbndaaDoor
open Go.ChangeShapes Go.WideShapes Go.ChangeAt Go.RowKit
set_option linter.unusedVariables false
set_option maxRecDepth 100000

set_option maxHeartbeats 8000000 in
theorem turned_walk (p : Ps) (s : Bool) (w : World) (hp : Pl w p) (ht : Tb w)
    (x : Option Addr) (hu : w.cell? ⟨1, 0, none⟩ = some (.iface 138 (.pointer x))) : Calls Tryd.prog 7 #[.agg p.cells.toArray, .bool s] w fun e w' => e = .returned (.bool true) ∧ Below w.heap.size w w' := by
  have HT : Aside (∀ X, Below w.heap.size w X → Tb X) := fun X hb => Tb_below ht hb (Tb_pos ht)
  have HU : Aside (∀ X, Below w.heap.size w X → X.cell? ⟨1, 0, none⟩ = some (.iface 138 (.pointer x))) := fun X hb => cell_bel hu hb
  obtain ⟨dc, hdc⟩ : ∃ dc, defA = dc := ⟨_, rfl⟩
  have HDF : Aside (∀ X, Calls Tryd.prog 13 #[] X fun e w' => e = .returned (.agg dc) ∧ Below X.heap.size X w') := fun X => by have := default_c X; rwa [hdc] at this
  have HD8 : Aside (∀ X, Below w.heap.size w X → Calls Tryd.prog 8 #[.agg dc, .bool false] X fun e w' => ∃ o c, e = .returned (.tuple #[.slice o 2 c, .int .i64 0]) ∧ (convert 22 9 (.slice o 2 c)).run Tryd.prog w' = .ok (.string ⟨#[15, 0]⟩) w' ∧ Below X.heap.size X w') := fun X hb => by
    have := dflt_s X (HT.out X hb)
    rwa [hdc] at this
  have HPP : Aside (∀ X, Below w.heap.size w X → Pl X p) := fun X hb => hp.bel hb
  have HNO : Aside (p.bad s = true → ∀ X, Below w.heap.size w X → Calls Tryd.prog 8 #[.agg p.cells.toArray, .bool s] X fun e w' => e = .returned (.tuple #[.slice none 0 0, .int .i64 2]) ∧ Below X.heap.size X w') := fun h X hb => put_no p s X (hp.bel hb) h
  have HPU : Aside (∀ (X : World), Below w.heap.size w X → p.bad s = false → Calls Tryd.prog 8 #[.agg p.cells.toArray, .bool s] X fun e w' => ∃ o c, e = .returned (.tuple #[.slice o (p.bytes s).length c, .int .i64 0]) ∧ Lb w' o c (p.bytes s) ∧ Below X.heap.size X w') := fun X hb h2 => put_s p s X (hp.bel hb) (HT.out X hb) h2
  have HRA : Aside (∀ (X : World) (l : List UInt8) (o : Option Addr) (c : Nat) (RC : Int) (RQ : Rq), Below w.heap.size w X → Lb X o c l → l.length ≤ 140737488351232 → rdL l s (l.length + 1) 0 (fun _ => false) (refq dps) = (RC, RQ) → Calls Tryd.prog 17 #[.slice o l.length c, .bool s] X fun e w' => ∃ q, e = .returned (.tuple #[.agg q.cells.toArray, .int .i64 RC]) ∧ refq q = RQ ∧ Pn X.heap.size w' q ∧ Below X.heap.size X w') :=
    fun X l o c RC RQ hb h1 h2 h3 => read_c o c l s X (HT.out X hb) h1.sl h2 h1.le h1.cm x (HU.out X hb) RC RQ h3
  have hpm := hp.pm
  have H16 : Aside (p.reset.length = 16) := hp.r16
  obtain ⟨pc, hpc⟩ : ∃ pc, p.cells.toArray = pc := ⟨_, rfl⟩
  have HPC : Aside (p.cells.toArray = pc) := hpc
  have HIP : Aside ((Tryd.prog.info? 25).map (·.size) = some pc.size) := by show _ = _; rw [hi25, ← hpc]; simp [Ps.cells, hp.r16]
  rw [hpc] at hpm
  rw [hpc]
  obtain ⟨W1, hW1⟩ : ∃ W1, w.alloc (.cells pc 25) = W1 := ⟨_, rfl⟩
  have HB1 : Aside (Below w.heap.size w W1) := by show Below _ _ _; rw [← hW1]; exact bel1 w _
  have HROW : Aside (W1.heap[w.heap.size]? = some (.cells pc 25 (0, 0))) := by
    have := hpm.row
    rw [hpc, hW1] at this
    exact this
  have HKP : Aside (∀ X, Below W1.heap.size W1 X → X.heap[w.heap.size]? = some (.cells pc 25 (0, 0))) := fun X hX => (hX.block _ (lt_block HROW.out)).trans HROW.out
  clear hp ht hu hdc hpm hpc
  obtain ⟨P, hP⟩ : ∃ P, w.heap.size = P := ⟨_, rfl⟩
  have HP : Aside (w.heap.size = P) := hP
  rw [hP] at HKP HROW
  go_enter Tryd.func7, Tryd.ntmps7
  have HB2 : Aside (Below w.heap.size w W1 ∧ Below W1.heap.size W1 W1) := ⟨HB1.out, Below.refl _ _⟩
  have HR2 : Aside (W1.heap[P]? = some (.cells pc 25 (0, 0))) := HROW.out
  by_cases hbad : p.bad s = true
  · have hpn := HNO.out hbad W1 HB2.out.1
    rw [HPC.out] at hpn
    go_wp2_with (first | (refine wpList_load_row rfl 25 (.tmp 2) rfl P rfl 25 _ (0, 0) _ HR2.out hu25 rfl HIP.out ?_))
    refine hpn.mono ?_
    rintro e W3 ⟨rfl, hb3⟩
    have HB3 : Aside (Below w.heap.size w W3 ∧ Below W1.heap.size W1 W3) := ⟨bel_trans HB2.out.1 hb3, bel_trans HB2.out.2 hb3⟩
    clear hpn hb3 HB2 HR2
    go_wp2_with fail
    refine (HDF.out W3).mono ?_
    rintro e W4 ⟨rfl, hb4⟩
    have HB4 : Aside (Below w.heap.size w W4 ∧ Below W1.heap.size W1 W4) := ⟨bel_trans HB3.out.1 hb4, bel_trans HB3.out.2 hb4⟩
    have HB34 : Aside (Below W3.heap.size W3 W4) := hb4
    clear hb4
    go_wp2_with fail
    refine (HD8.out W4 HB4.out.1).mono ?_
    rintro e W5 ⟨od, cd, rfl, hcv, hb5⟩
    have HB5 : Aside (Below w.heap.size w W5 ∧ Below W1.heap.size W1 W5) := ⟨bel_trans HB4.out.1 hb5, bel_trans HB4.out.2 hb5⟩
    have HB35 : Aside (Below W3.heap.size W3 W5) := bel_trans HB34.out hb5
    clear hb5 HB4 HB34
    go_wp2
    go_ret
    exact ⟨rfl, HB5.out.1⟩
  · have HBD : Aside (p.bad s = false) := by show _ = _; simpa using hbad
    clear hbad
    obtain ⟨np, hnp⟩ : ∃ np, (p.bytes s).length = np := ⟨_, rfl⟩
    have HNP : Aside ((p.bytes s).length = np) := hnp
    have HNB : Aside (np ≤ 680) := by show _ ≤ _; rw [← hnp]; exact bytes_len H16.out HBD.out
    clear hnp
    have hpn := HPU.out W1 HB2.out.1 HBD.out
    rw [HPC.out, HNP.out] at hpn
    go_wp2_with (first | (refine wpList_load_row rfl 25 (.tmp 2) rfl P rfl 25 _ (0, 0) _ HR2.out hu25 rfl HIP.out ?_))
    refine hpn.mono ?_
    rintro e W3 ⟨o3, c3, rfl, hl3, hb3⟩
    have HL3 : Aside (Lb W3 o3 c3 (p.bytes s)) := hl3
    have HB3 : Aside (Below w.heap.size w W3 ∧ Below W1.heap.size W1 W3) := ⟨bel_trans HB2.out.1 hb3, bel_trans HB2.out.2 hb3⟩
    clear hpn hl3 hb3 HB2 HR2
    go_wp2_with fail
    refine (HDF.out W3).mono ?_
    rintro e W4 ⟨rfl, hb4⟩
    have HB4 : Aside (Below w.heap.size w W4 ∧ Below W1.heap.size W1 W4) := ⟨bel_trans HB3.out.1 hb4, bel_trans HB3.out.2 hb4⟩
    have HB34 : Aside (Below W3.heap.size W3 W4) := hb4
    clear hb4
    go_wp2_with fail
    refine (HD8.out W4 HB4.out.1).mono ?_
    rintro e W5 ⟨od, cd, rfl, hcv, hb5⟩
    have HB5 : Aside (Below w.heap.size w W5 ∧ Below W1.heap.size W1 W5) := ⟨bel_trans HB4.out.1 hb5, bel_trans HB4.out.2 hb5⟩
    have HB35 : Aside (Below W3.heap.size W3 W5) := bel_trans HB34.out hb5
    clear hb5 HB4 HB34
    have HL5 : Aside (Lb W5 o3 c3 (p.bytes s)) := HL3.out.bel HB35.out
    clear HL3 HB3 HB35
    obtain ⟨i0, hi, hz0, hz1, hz2⟩ := info_parts info5
    obtain ⟨LP, hLP⟩ : ∃ LP, pcs s (tab 0 p) = LP := ⟨_, rfl⟩
    have HLP : Aside (pcs s (tab 0 p) = LP) := hLP
    have HEN : Aside (enP LP = p.bytes s) := by show _ = _; rw [← hLP]; exact pcs_tab p s
    have HSMALL : Aside (∀ x ∈ LP, 0 ≤ x.1 ∧ x.1 ≤ 32 ∧ x.2.length ≤ 20) := by rw [← hLP]; exact pcs_small H16.out HBD.out
    clear hLP
    go_wp2
    go_loopg [9, 10] (LP.length + 1) (fun kx s9 s10 wr => ∃ (A B : List (Int × List UInt8)) (ot : Option Addr) (ct : Nat), LP = A ++ B ∧ s9 = .slice ot (enP A).length ct ∧ s10 = .int .i64 ((enP A).length : Int) ∧ B.length + 1 ≤ kx ∧ Aside (Lb wr ot ct (enP A.reverse) ∧ Below W5.heap.size W5 wr))
    case atStart => exact ⟨[], LP, none, 0, rfl, rfl, rfl, Nat.le_refl _, lb_nil W5, Below.refl _ _⟩
    case round =>
      obtain ⟨A, B, ot, ct, hAB, rfl, rfl, hk, HQ⟩ := hrel
      have HAB : Aside (LP = A ++ B) := hAB
      obtain ⟨a, ha⟩ : ∃ a, (enP A).length = a := ⟨_, rfl⟩
      have HA : Aside ((enP A).length = a) := ha
      have HAR : Aside ((enP A.reverse).length = a) := by show _ = _; rw [enP_rev_len]; exact ha
      have HLB : Aside (a + (enP B).length = np) := by show _ = _; rw [← ha, ← enP_len_app, ← hAB, HEN.out]; exact HNP.out
      rw [ha]
      clear hAB ha
      cases B with
      | nil =>
        have HE : Aside (a = np) := by have := HLB.out; simp [enP] at this; exact this
        obtain rfl : a = np := HE.out
        have i1 : ¬ (a : Int) < (a : Int) := by omega
        have HA2 : Aside (A = LP) := by show _ = _; rw [HAB.out]; simp
        clear hk HLB HAB HE
        have HLr : Aside (Lb wr ot ct (enP LP.reverse)) := by have := HQ.out.1; rw [HA2.out] at this; exact this
        have HLr2 : Aside ((enP LP.reverse).length = a) := by have := HAR.out; rw [HA2.out] at this; exact this
        have HBr : Aside (Below w.heap.size w wr ∧ Below W1.heap.size W1 wr) := ⟨bel_trans HB5.out.1 HQ.out.2, bel_trans HB5.out.2 HQ.out.2⟩
        have hr := HRA.out wr (enP LP.reverse) ot ct 0 (refq p) HBr.out.1 HLr.out (by rw [HLr2.out]; have := HNB.out; omega) (by rw [← HLP.out]; exact turned_read H16.out HBD.out)
        rw [HLr2.out] at hr
        clear HQ HA HAR HA2 HEN HSMALL
        go_wp2_with fail
        refine hr.mono ?_
        rintro e X1 ⟨q, rfl, hq, hnnq, hbq⟩
        clear hr
        have HQQ : Aside (refq q = refq p ∧ Pn wr.heap.size X1 q ∧ Below wr.heap.size wr X1) := ⟨hq, hnnq, hbq⟩
        clear hq hnnq hbq
        have HSZnq : Aside (q.cells.toArray.size = 34) := Ps.size34 HQQ.out.2.1.r16
        have HONnq : Aside (q.cells.toArray.all (·.oneCell') = true) := q.one34
        obtain ⟨DQ, hDnq⟩ : ∃ DQ, q.cells.toArray = DQ := ⟨_, rfl⟩
        rw [hDnq] at HSZnq HONnq ⊢
        have HCnq : Aside (q.cells.toArray = DQ) := hDnq
        clear hDnq
        have HInq : Aside ((Tryd.prog.info? 25).map (·.size) = some DQ.size) := by show _ = _; rw [HSZnq.out]; exact hi25
        have HZnq : Aside (zA.size = DQ.size) := by show _ = _; rw [HSZnq.out]; rfl
        obtain ⟨X1a, hX1a⟩ : ∃ X1a, X1.alloc (.cells zA 25) = X1a := ⟨_, rfl⟩
        have HGX1a : Aside (X1a.heap[X1.heap.size]? = some (.cells zA 25 (0, 0))) := by show _ = _; rw [← hX1a]; exact heap_alloc_new X1 _
        have HBX1a : Aside (Below X1.heap.size X1 X1a) := by show Below _ _ _; rw [← hX1a]; exact bel1 _ _
        unfold zA at hX1a
        go_upto_region 14 with (refine wpList_store_row rfl 25 (.tmp 12) (.tmp 64) rfl X1.heap.size DQ rfl rfl 25 _ HGX1a.out HInq.out HZnq.out HONnq.out ?_)
        obtain ⟨X2, hX2⟩ : ∃ X2, X1a.setRow X1.heap.size DQ = X2 := ⟨_, rfl⟩
        rw [hX2]
        have HRX2 : Aside (X2.heap[X1.heap.size]? = some (.cells DQ 25 (0, 0))) := by show _ = _; rw [← hX2]; exact setRow_heap X1a _ _ _ 25 (0, 0) HGX1a.out
        have HBX2 : Aside (Below X1.heap.size X1 X2) := by show Below _ _ _; rw [← hX2]; exact HBX1a.out.trans ⟨rfl, rfl, rfl, by simp, fun j hj => setRow_other X1a _ j _ (by omega)⟩
        clear hX2 hX1a HGX1a HBX1a HZnq
        have HBX : Aside (Below w.heap.size w X2 ∧ Below W1.heap.size W1 X2) := by
          have h := bel_trans HQQ.out.2.2 HBX2.out
          exact ⟨bel_trans HBr.out.1 h, bel_trans HBr.out.2 h⟩
        generalize X1.heap.size = AQ at HRX2 ⊢
        obtain ⟨D4, hD4⟩ : ∃ D4, (refq p).cells.toArray = D4 := ⟨_, rfl⟩
        have heql : ∀ X, (binOp .eql 34 (.agg D4) (.agg D4)).run Tryd.prog X = .ok (.bool true) X := fun X => by rw [← hD4]; exact eq34s (refq p) X
        have HKE : Aside (∀ X, Below X2.heap.size X2 X → X.heap[P]? = some (.cells pc 25 (0, 0)) ∧ X.heap[AQ]? = some (.cells DQ 25 (0, 0))) := fun X hX => ⟨HKP.out X (bel_trans HBX.out.2 hX), (hX.block _ (lt_block HRX2.out)).trans HRX2.out⟩
        have HFQ : Aside (∀ X, Below X2.heap.size X2 X → Calls Tryd.prog 10 #[.agg DQ] X fun e w' => e = .returned (.agg D4) ∧ Below X.heap.size X w') := fun X hX => by
          have := refs_c q X (HQQ.out.2.1.bel (bel_trans HBX2.out hX)).pl
          rwa [HCnq.out, HQQ.out.1, hD4] at this
        have HFP : Aside (∀ X, Below X2.heap.size X2 X → Calls Tryd.prog 10 #[.agg pc] X fun e w' => e = .returned (.agg D4) ∧ Below X.heap.size X w') := fun X hX => by
          have := refs_c p X (HPP.out X (bel_trans HBX.out.1 hX))
          rwa [HPC.out, hD4] at this
        have HEND0 : Aside (Below w.heap.size w X2) := HBX.out.1
        clear hD4 HRX2 HKP HBX HQQ HBX2 HLr HLr2 HBr
        refine wp_region_held_drew (S := fun Z : World => Z.heap[P]? = some (.cells pc 25 (0, 0)) ∧ Z.heap[AQ]? = some (.cells DQ 25 (0, 0))) (by kernel_rfl) (HKE.out _ (Below.refl _ _).drew) (fun hHeld => ?_)
        refine wpAnyH_take (i := 0) (v := .int .i64 0) rfl (by kernel_rfl) (by kernel_rfl) (by kernel_rfl) (fun _ _ _ h => h) (Or.inl ⟨by rfl, by intro w hs; go_simp⟩) hHeld ?_
        refine norm_any' (fun K hK => ?_)
        go_simp
        refine hK _ _ ?_
        clear hK K
        refine wpAnyH_take (i := 1) (v := .bool true) rfl (by kernel_rfl) (by kernel_rfl) (by kernel_rfl) (fun _ _ _ h => h) (Or.inl ⟨by rfl, by intro w hs; go_simp⟩) hHeld ?_
        refine norm_any' (fun K hK => ?_)
        go_simp
        refine hK _ _ ?_
        clear hK K
        refine wpAnyH_take (i := 2) (v := .bool true) rfl (by kernel_rfl) (by kernel_rfl) (by kernel_rfl) (fun _ _ _ h => h) (Or.inl ⟨by rfl, by intro w hs; go_simp⟩) hHeld ?_
        refine norm_any' (fun K hK => ?_)
        go_simp
        refine hK _ _ ?_
        clear hK K
        refine wpAnyH_take (i := 3) (v := .agg DQ) rfl (by kernel_rfl) (by kernel_rfl) (by kernel_rfl) (fun _ _ _ h => h) (yl25 (by rfl) _ rfl AQ rfl DQ (fun X h => h.2) HInq.out) hHeld ?_
        refine norm_any' (fun K hK => ?_)
        go_simp
        refine hK _ _ ?_
        clear hK K
        refine wpAnyH_take (i := 5) (v := .agg pc) rfl (by kernel_rfl) (by kernel_rfl) (by kernel_rfl) (fun _ _ _ h => h) (yl25 (by rfl) _ rfl P rfl pc (fun X h => h.1) HIP.out) hHeld ?_
        refine norm_any' (fun K hK => ?_)
        go_simp
        refine hK _ _ ?_
        clear hK K
        refine wpAnyH_ready (rs := [4]) (by kernel_rfl) (by simp) (AllReadyH.cons rfl (fun K hK => ?_) AllReadyH.nil)
        go_simp
        refine Calls.mono (HFQ.out _ (Below.refl _ _).drew) ?_
        rintro e wa ⟨rfl, hbwa⟩
        have HBwa : Aside (Below X2.heap.size X2 wa) := bel_trans (Below.refl _ _).drew hbwa
        clear hbwa
        refine hK.out _ _ (HKE.out _ HBwa.out) (fun hHeld => ?_)
        clear hK K
        refine norm_any' (fun K hK => ?_)
        go_simp
        refine hK _ _ ?_
        clear hK K
        refine wpAnyH_ready (rs := [6]) (by kernel_rfl) (by simp) (AllReadyH.cons rfl (fun K hK => ?_) AllReadyH.nil)
        go_simp
        refine Calls.mono (HFP.out _ HBwa.out) ?_
        rintro e wb ⟨rfl, hbwb⟩
        have HBwb : Aside (Below X2.heap.size X2 wb) := bel_trans HBwa.out hbwb
        clear hbwb
        refine hK.out _ _ (HKE.out _ HBwb.out) (fun hHeld => ?_)
        clear hK K
        refine norm_any' (fun K hK => ?_)
        go_simp
        refine hK _ _ ?_
        clear hK K
        refine wpAnyH_take (i := 7) (v := .bool true) rfl (by kernel_rfl) (by kernel_rfl) (by kernel_rfl) (fun _ _ _ h => h) (Or.inl ⟨by rfl, by intro w hs; go_simp⟩) hHeld ?_
        refine norm_any' (fun K hK => ?_)
        go_simp
        refine hK _ _ ?_
        clear hK K
        refine wpAnyH_take (i := 8) (v := .bool true) rfl (by kernel_rfl) (by kernel_rfl) (by kernel_rfl) (fun _ _ _ h => h) (Or.inl ⟨by rfl, by intro w hs; go_simp⟩) hHeld ?_
        refine norm_any' (fun K hK => ?_)
        go_simp
        refine hK _ _ ?_
        clear hK K
        refine wpAnyH_take (i := 9) (v := .bool true) rfl (by kernel_rfl) (by kernel_rfl) (by kernel_rfl) (fun _ _ _ h => h) (Or.inl ⟨by rfl, by intro w hs; go_simp⟩) hHeld ?_
        refine norm_any' (fun K hK => ?_)
        go_simp
        refine hK _ _ ?_
        clear hK K
        refine wpAnyH_done (by kernel_rfl) ?_ _
        clear hHeld
        have HEND : Aside (Below w.heap.size w wb) := bel_trans HEND0.out HBwb.out
        clear heql HKE HFQ HFP HBwa HBwb
        go_wp2
        go_ret
        exact ⟨rfl, HEND.out⟩
      | cons y B =>
        obtain ⟨k, t⟩ := y
        obtain ⟨y0, y1, y2⟩ := HSMALL.out (k, t) (by rw [HAB.out]; simp)
        simp only at y0 y1 y2
        obtain ⟨n, hn⟩ : ∃ n, 2 + t.length = n := ⟨_, rfl⟩
        have HLAY : Aside (layB k t = UInt8.ofNat k.toNat :: UInt8.ofNat t.length :: t) := strange_lay k t y0 (by omega) (by omega)
        have HNL : Aside ((layB k t).length = n) := by show _ = _; rw [HLAY.out, ← hn]; simp only [List.length_cons]; omega
        have HNN : Aside (2 ≤ n ∧ n ≤ 22 ∧ n = 2 + t.length) := ⟨by omega, by omega, by omega⟩
        have HLB2 : Aside (a + (n + (enP B).length) = np) := by show _ = _; rw [← HLB.out, enP_cons, List.length_append, HNL.out]
        have HB5r : Aside (Lb wr o3 c3 (enP A ++ (layB k t ++ enP B))) := by
          have h := HL5.out.bel HQ.out.2
          rw [← HEN.out, HAB.out, enP_app, enP_cons] at h
          exact h
        have hpa := piece_at (by have h := HB5r.out; rw [HLAY.out] at h; exact h)
        rw [HA.out] at hpa
        obtain ⟨g, off, hgo, hcell, hpl⟩ := hpa
        subst hgo
        rw [← HLAY.out] at hpl
        have HPL : Aside (Lb wr (some ⟨g, off + a, none⟩) (c3 - a) (layB k t)) := hpl
        have e8 : (((UInt8.ofNat t.length).toNat : Nat) : Int) = (t.length : Int) := by rw [UInt8.toNat_ofNat']; omega
        rw [e8] at hcell
        obtain ⟨a1, ha1⟩ : ∃ a1, a + 1 = a1 := ⟨_, rfl⟩
        obtain ⟨ae, hae⟩ : ∃ ae, a + n = ae := ⟨_, rfl⟩
        obtain ⟨tl, htl⟩ : ∃ tl, t.length = tl := ⟨_, rfl⟩
        rw [htl] at hcell hn
        have bnd := HNB.out
        have bnd2 := HLB2.out
        have bnd3 := HNN.out
        have bnd4 := HPL.out.le
        rw [HNL.out] at bnd4
        rw [ha1] at hcell
        have i1 : (a : Int) < (np : Int) := by omega
        have i2 : IntKind.i64.wrap ((a : Int) + 1) = (a1 : Int) := by rw [IntKind.wrap_i64]; omega
        have i3 : (0 : Int) ≤ (a1 : Int) := by omega
        have i4 : (a1 : Int) < (np : Int) := by omega
        have i5 : IntKind.i64.wrap (2 + (tl : Int)) = (n : Int) := by rw [IntKind.wrap_i64]; omega
        have i6 : IntKind.i64.wrap ((a : Int) + (n : Int)) = (ae : Int) := by rw [IntKind.wrap_i64]; omega
        have i7 : (0 : Int) ≤ (a : Int) := by omega
        have i8 : (a : Int) ≤ (ae : Int) := by omega
        have i9 : (ae : Int) ≤ (c3 : Int) := by omega
        have i10 : ae - a = n := by omega
        have HNA : Aside (n + a = ae) := by show _ = _; omega
        have i11 : ((c3 : Int) - (a : Int)).toNat = c3 - a := by omega
        have i12 : ¬ c3 = a := by omega
        have i13 : IntKind.i64.wrap (tl : Int) = (tl : Int) := by rw [IntKind.wrap_i64]; omega
        rw [List.length_cons] at hk
        have HAE : Aside ((enP (A ++ [(k, t)])).length = ae) := by show _ = _; rw [enP_len_app, HA.out, ← hae]; simp [enP, HNL.out]
        clear hpl y0 y1 y2 e8 ha1 hae htl hn bnd bnd2 bnd3 bnd4
        have HE0 : Aside ((wr.alloc (.cells #[] 5)).ownsRow wr.heap.size 5 1 (.slice (some ⟨wr.heap.size, 0, none⟩) 0 0) 0 (bc [])) := e_own wr
        have HSa : Aside (wr.heap.size ≤ (wr.alloc (.cells #[] 5)).heap.size) := (bel1 wr _).size
        have HPa : Aside (Lb (wr.alloc (.cells #[] 5)) (some ⟨g, off + a, none⟩) (c3 - a) (layB k t)) := HPL.out.bel (bel1 wr _)
        have HNt : Aside (ot = none → a = 0 ∧ ct = 0) := fun h => by have := HQ.out.1.nil h; rw [HAR.out] at this; exact this
        go_wp2_with (first
          | (at_builtin; refine wpList_append_bytes rfl (.tmp 54) (.tmp 55) rfl wr.heap.size i0 Tryd.underlying22 hi hz0 hz1 hz2 va n (bc (layB k t)) rfl HOa.out ot a ct (enP A.reverse) rfl HAR.out HNt.out HTa.out.sl (by have := HNN.out; have := HNB.out; have := HLB2.out; omega) HBa.out.size ?_; intro vb Wb hownb hgrowb; have HOb : Aside (Wb.ownsRow wr.heap.size 5 1 vb (n + a) (bc (layB k t ++ enP A.reverse))) := (by rw [bc_append]; exact hownb); have HBb : Aside (Below wr.heap.size wr Wb) := HBa.out.grown hgrowb HBa.out.size (e_blk HOa.out); clear hownb hgrowb)
          | (at_builtin; refine wpList_append_bytes rfl (.tmp 47) (.tmp 53) rfl wr.heap.size i0 Tryd.underlying22 hi hz0 hz1 hz2 (.slice (some ⟨wr.heap.size, 0, none⟩) 0 0) 0 (bc []) rfl HE0.out (some ⟨g, off + a, none⟩) n (c3 - a) (layB k t) rfl HNL.out (fun h => nomatch h) HPa.out.sl (by have := HNN.out; omega) HSa.out ?_; intro va Wa howna hgrowa; rw [Nat.zero_add] at howna; have HOa : Aside (Wa.ownsRow wr.heap.size 5 1 va n (bc (layB k t))) := howna; have HBa : Aside (Below wr.heap.size wr Wa) := (bel1 wr _).grown hgrowa HSa.out (e_blk HE0.out); have HTa : Aside (Lb Wa ot ct (enP A.reverse)) := HQ.out.1.bel HBa.out; clear howna hgrowa))
        obtain ⟨ob, cb, hvb, hlb⟩ := e_join HOb.out (show (layB k t ++ enP A.reverse).length = n + a by rw [List.length_append, HNL.out, HAR.out])
        subst hvb
        have HREL : Aside (Lb Wb ob cb (enP (A ++ [(k, t)]).reverse) ∧ Below W5.heap.size W5 Wb) := ⟨by rw [enP_turn]; exact hlb, bel_trans HQ.out.2 HBb.out⟩
        rw [HNA.out]
        clear hlb
        go_roundg (B.length + 1)
        case measure => omega
        case rel => exact ⟨A ++ [(k, t)], B, ob, cb, by rw [HAB.out, List.append_assoc]; rfl, by rw [HAE.out], by rw [HAE.out], Nat.le_refl _, HREL.out⟩
end Go.Proofs.YtcppnellgkbndaaDoor
