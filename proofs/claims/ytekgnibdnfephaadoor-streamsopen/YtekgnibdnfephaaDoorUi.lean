/- StreamsOpen: the walk. -/
import Derived.Test.YtekgnibdnfephaaDoorUh
namespace Go.Proofs.YtekgnibdnfephaaDoor
open Go.RowKit Go.Maps
set_option linter.unusedVariables false

set_option maxRecDepth 100000 in
set_option maxHeartbeats 20000000 in
theorem open_false (c s : Lm) (more : Int) (w : World) (hT : TbI w) :
    Calls Tryd.prog 3 #[.agg (c.v ++ s.v).toArray, .int .i64 more, .bool false] w fun e w' => e = .returned (.bool true) ∧ Below w.heap.size w w' := by
  obtain ⟨X0, hX0, hx0⟩ := box_s c s w
  obtain ⟨mI, hmI⟩ : ∃ a, bits .and .i64 more 15 = a := ⟨_, rfl⟩
  have hm0 : 0 ≤ bits .and .i64 more 15 ∧ bits .and .i64 more 15 ≤ 15 := mask_i64 more 15 (by decide)
  rw [hmI] at hm0
  obtain ⟨q, rfl⟩ : ∃ q : Nat, mI = (q : Int) := ⟨mI.toNat, by omega⟩
  have HQ : Hid (q ≤ 15) := (show q ≤ 15 by omega)
  have HMI : Hid _ := hmI
  have HX0 : Hid _ := hx0
  have HT : Hid _ := hT
  clear hm0 hT hx0 hmI
  go_enter Tryd.func3, Tryd.ntmps3
  go_upto_region 1 with fail
  clear hX0
  go_cut [7, 8] from 9 (fun s7 s8 wx => Hid (∃ pa pb a b, s7 = ptr pa ∧ s8 = ptr pb ∧ a.tiny ∧ b.tiny ∧ w.heap.size ≤ pa ∧ w.heap.size ≤ pb ∧ Lb a b w pa pb wx))
  case first =>
    have HLD : Hid _ := HX0.out.go (bel_drew X0)
    refine wp_region_held_drew (S := Lc c s w) (by kernel_rfl) HLD.out (fun hHeld => ?_)
    have HMD : Hid _ := Mk.nil X0.drew (w.heap.size + 1)
    clear HX0 HQ HMI HT
    generalize X0.drew = Z0 at *
    refine wpAnyH_take (i := 0) (v := .pointer (some ⟨w.heap.size, 0, none⟩)) rfl (by kernel_rfl) (by kernel_rfl) (by kernel_rfl) (fun _ _ _ h => h) (Or.inl ⟨by rfl, by intro w hs; go_simp⟩) hHeld ?_
    refine norm_any' (fun K hK => ?_); go_simp; refine hK _ _ ?_; clear hK K
    refine wpAnyH_take (i := 1) (v := .agg c.v.toArray) rfl (by kernel_rfl) (by kernel_rfl) (by kernel_rfl) (fun _ _ _ h => h) (yieldsIf_load_mid rfl 23 (.tmp 30) rfl w.heap.size 0 rfl c.v _ (fun X hX => Lc.b0 hX) uLim rfl iLim) hHeld ?_
    refine norm_any' (fun K hK => ?_); go_simp; refine hK _ _ ?_; clear hK K
    refine wpAnyH_take (i := 3) (v := .pointer (some ⟨w.heap.size, 6, none⟩)) rfl (by kernel_rfl) (by kernel_rfl) (by kernel_rfl) (fun _ _ _ h => h) (Or.inl ⟨by rfl, by intro w hs; go_simp⟩) hHeld ?_
    refine norm_any' (fun K hK => ?_); go_simp; refine hK _ _ ?_; clear hK K
    refine wpAnyH_take (i := 4) (v := .agg s.v.toArray) rfl (by kernel_rfl) (by kernel_rfl) (by kernel_rfl) (fun _ _ _ h => h) (yieldsIf_load_mid rfl 23 (.tmp 33) rfl w.heap.size 6 rfl s.v _ (fun X hX => Lc.b6 hX) uLim rfl iLim) hHeld ?_
    refine norm_any' (fun K hK => ?_); go_simp; refine hK _ _ ?_; clear hK K
    refine wpAnyH_ready (rs := [2, 6, 7]) (by kernel_rfl) (by simp) (AllReadyH.cons rfl (fun K hK => ?_) (AllReadyH.cons rfl (fun K hK => ?_) (AllReadyH.cons rfl (fun K hK => ?_) AllReadyH.nil)))
    ·go_simp
     refine Calls.mono (small_c c Z0) ?_
     rintro e Z1 ⟨a, rfl, ht, hbx⟩
     have HTA : Hid _ := ht
     have HL1_ : Hid _ := HLD.out.go hbx
     have HM1_ : Hid _ := HMD.out.go hbx
     clear ht hbx
     clear HLD HMD
     refine hK.out _ _ HL1_.out (fun hHeld => ?_)
     clear hK K
     refine norm_any' (fun K hK => ?_); go_simp; refine hK _ _ ?_; clear hK K
     refine wpAnyH_ready (rs := [5, 6, 7]) (by kernel_rfl) (by simp) (AllReadyH.cons rfl (fun K hK => ?_) (AllReadyH.cons rfl (fun K hK => ?_) (AllReadyH.cons rfl (fun K hK => ?_) AllReadyH.nil)))
     ·go_simp
      refine Calls.mono (small_c s Z1) ?_
      rintro e Z2 ⟨b, rfl, ht, hbx⟩
      have HTB : Hid _ := ht
      have HL2_ : Hid _ := HL1_.out.go hbx
      have HM2_ : Hid _ := HM1_.out.go hbx
      clear ht hbx
      clear HL1_ HM1_
      refine hK.out _ _ HL2_.out (fun hHeld => ?_)
      clear hK K
      refine norm_any' (fun K hK => ?_); go_simp; refine hK _ _ ?_; clear hK K
      refine wpAnyH_ready (rs := [6, 7]) (by kernel_rfl) (by simp) (AllReadyH.cons rfl (fun K hK => ?_) (AllReadyH.cons rfl (fun K hK => ?_) AllReadyH.nil))
      ·go_simp
       have HL3_ : Hid _ := HL2_.out.go (bel1 Z2 (.cells #[.int .i64 0, .int .i64 0, .int .i64 0, .int .i64 0, .int .i64 0, .int .i64 0] 23))
       have HM3_ : Hid _ := HM2_.out.one HL2_.out.sz (bel1 Z2 (.cells #[.int .i64 0, .int .i64 0, .int .i64 0, .int .i64 0, .int .i64 0, .int .i64 0] 23)) (Nat.le_refl _) (heap_alloc_new Z2 (.cells #[.int .i64 0, .int .i64 0, .int .i64 0, .int .i64 0, .int .i64 0, .int .i64 0] 23))
       obtain ⟨pa, hepa⟩ : ∃ pa, Z2.heap.size = pa := ⟨_, rfl⟩
       rw [hepa] at HM3_
       generalize Z2.alloc (.cells #[.int .i64 0, .int .i64 0, .int .i64 0, .int .i64 0, .int .i64 0, .int .i64 0] 23) = Z3 at *
       rw [hepa]
       clear hepa
       clear HL2_ HM2_
       refine hK.out _ _ HL3_.out (fun hHeld => ?_)
       clear hK K
       refine norm_any' (fun K hK => ?_); go_simp; refine hK _ _ ?_; clear hK K
       refine wpAnyH_ready (rs := [7]) (by kernel_rfl) (by simp) (AllReadyH.cons rfl (fun K hK => ?_) AllReadyH.nil)
       go_simp
       have HL4_ : Hid _ := HL3_.out.go (bel1 Z3 (.cells #[.int .i64 0, .int .i64 0, .int .i64 0, .int .i64 0, .int .i64 0, .int .i64 0] 23))
       have HM4_ : Hid _ := HM3_.out.one HL3_.out.sz (bel1 Z3 (.cells #[.int .i64 0, .int .i64 0, .int .i64 0, .int .i64 0, .int .i64 0, .int .i64 0] 23)) (Nat.le_refl _) (heap_alloc_new Z3 (.cells #[.int .i64 0, .int .i64 0, .int .i64 0, .int .i64 0, .int .i64 0, .int .i64 0] 23))
       obtain ⟨pb, hepb⟩ : ∃ pb, Z3.heap.size = pb := ⟨_, rfl⟩
       rw [hepb] at HM4_
       generalize Z3.alloc (.cells #[.int .i64 0, .int .i64 0, .int .i64 0, .int .i64 0, .int .i64 0, .int .i64 0] 23) = Z4 at *
       rw [hepb]
       clear hepb
       clear HL3_ HM3_
       refine hK.out _ _ HL4_.out (fun hHeld => ?_)
       clear hK K
       refine norm_any' (fun K hK => ?_); go_simp; refine hK _ _ ?_; clear hK K
       have HS : Hid _ := two_set (a := a) (b := b) HL4_.out HM4_.out (List.Mem.tail _ (List.Mem.head _)) (List.Mem.head _) (by
         have hn := HM4_.out.nd
         simp only [List.map_cons, List.map_nil, List.nodup_cons, List.mem_cons, List.not_mem_nil, or_false, not_false_eq_true, and_true, List.nodup_nil] at hn
         first | exact hn | exact fun e => hn e.symm)
       have HPA : Hid _ := HM4_.out.mem (List.Mem.tail _ (List.Mem.head _))
       clear HL4_ HM4_
       refine wpAnyH_ready (rs := [8]) (by kernel_rfl) (by simp) (AllReadyH.cons rfl (fun K hK => ?_) AllReadyH.nil)
       refine step_store_row rfl 23 (.tmp 7) (.tmp 32) rfl pa a.v.toArray rfl rfl 23 _ HPA.out (i6 a) rfl (one6 a) ?_
       refine hK.out _ _ HS.out.1 (fun hHeld => ?_)
       clear hK K
       refine norm_any' (fun K hK => ?_); go_simp; refine hK _ _ ?_; clear hK K
       refine wpAnyH_ready (rs := [9]) (by kernel_rfl) (by simp) (AllReadyH.cons rfl (fun K hK => ?_) AllReadyH.nil)
       refine step_store_row rfl 23 (.tmp 8) (.tmp 35) rfl pb b.v.toArray rfl rfl 23 _ HS.out.2.1 (i6 b) rfl (one6 b) ?_
       refine hK.out _ _ HS.out.2.2.1 (fun hHeld => ?_)
       clear hK K
       refine norm_any' (fun K hK => ?_); go_simp; refine hK _ _ ?_; clear hK K
       refine wpAnyH_done (by kernel_rfl) ?_ _
       go_wp2
       go_meet
       case rel => exact ⟨pa, pb, a, b, rfl, rfl, HTA.out, HTB.out, HS.out.2.2.2.2.1, HS.out.2.2.2.2.2, HS.out.2.2.2.1⟩
      ·go_simp
       have HL5_ : Hid _ := HL2_.out.go (bel1 Z2 (.cells #[.int .i64 0, .int .i64 0, .int .i64 0, .int .i64 0, .int .i64 0, .int .i64 0] 23))
       have HM5_ : Hid _ := HM2_.out.one HL2_.out.sz (bel1 Z2 (.cells #[.int .i64 0, .int .i64 0, .int .i64 0, .int .i64 0, .int .i64 0, .int .i64 0] 23)) (Nat.le_refl _) (heap_alloc_new Z2 (.cells #[.int .i64 0, .int .i64 0, .int .i64 0, .int .i64 0, .int .i64 0, .int .i64 0] 23))
       obtain ⟨pb, hepb⟩ : ∃ pb, Z2.heap.size = pb := ⟨_, rfl⟩
       rw [hepb] at HM5_
       generalize Z2.alloc (.cells #[.int .i64 0, .int .i64 0, .int .i64 0, .int .i64 0, .int .i64 0, .int .i64 0] 23) = Z5 at *
       rw [hepb]
       clear hepb
       clear HL2_ HM2_
       refine hK.out _ _ HL5_.out (fun hHeld => ?_)
       clear hK K
       refine norm_any' (fun K hK => ?_); go_simp; refine hK _ _ ?_; clear hK K
       refine wpAnyH_ready (rs := [6]) (by kernel_rfl) (by simp) (AllReadyH.cons rfl (fun K hK => ?_) AllReadyH.nil)
       go_simp
       have HL6_ : Hid _ := HL5_.out.go (bel1 Z5 (.cells #[.int .i64 0, .int .i64 0, .int .i64 0, .int .i64 0, .int .i64 0, .int .i64 0] 23))
       have HM6_ : Hid _ := HM5_.out.one HL5_.out.sz (bel1 Z5 (.cells #[.int .i64 0, .int .i64 0, .int .i64 0, .int .i64 0, .int .i64 0, .int .i64 0] 23)) (Nat.le_refl _) (heap_alloc_new Z5 (.cells #[.int .i64 0, .int .i64 0, .int .i64 0, .int .i64 0, .int .i64 0, .int .i64 0] 23))
       obtain ⟨pa, hepa⟩ : ∃ pa, Z5.heap.size = pa := ⟨_, rfl⟩
       rw [hepa] at HM6_
       generalize Z5.alloc (.cells #[.int .i64 0, .int .i64 0, .int .i64 0, .int .i64 0, .int .i64 0, .int .i64 0] 23) = Z6 at *
       rw [hepa]
       clear hepa
       clear HL5_ HM5_
       refine hK.out _ _ HL6_.out (fun hHeld => ?_)
       clear hK K
       refine norm_any' (fun K hK => ?_); go_simp; refine hK _ _ ?_; clear hK K
       have HS : Hid _ := two_set (a := a) (b := b) HL6_.out HM6_.out (List.Mem.head _) (List.Mem.tail _ (List.Mem.head _)) (by
         have hn := HM6_.out.nd
         simp only [List.map_cons, List.map_nil, List.nodup_cons, List.mem_cons, List.not_mem_nil, or_false, not_false_eq_true, and_true, List.nodup_nil] at hn
         first | exact hn | exact fun e => hn e.symm)
       have HPA : Hid _ := HM6_.out.mem (List.Mem.head _)
       clear HL6_ HM6_
       refine wpAnyH_ready (rs := [8]) (by kernel_rfl) (by simp) (AllReadyH.cons rfl (fun K hK => ?_) AllReadyH.nil)
       refine step_store_row rfl 23 (.tmp 7) (.tmp 32) rfl pa a.v.toArray rfl rfl 23 _ HPA.out (i6 a) rfl (one6 a) ?_
       refine hK.out _ _ HS.out.1 (fun hHeld => ?_)
       clear hK K
       refine norm_any' (fun K hK => ?_); go_simp; refine hK _ _ ?_; clear hK K
       refine wpAnyH_ready (rs := [9]) (by kernel_rfl) (by simp) (AllReadyH.cons rfl (fun K hK => ?_) AllReadyH.nil)
       refine step_store_row rfl 23 (.tmp 8) (.tmp 35) rfl pb b.v.toArray rfl rfl 23 _ HS.out.2.1 (i6 b) rfl (one6 b) ?_
       refine hK.out _ _ HS.out.2.2.1 (fun hHeld => ?_)
       clear hK K
       refine norm_any' (fun K hK => ?_); go_simp; refine hK _ _ ?_; clear hK K
       refine wpAnyH_done (by kernel_rfl) ?_ _
       go_wp2
       go_meet
       case rel => exact ⟨pa, pb, a, b, rfl, rfl, HTA.out, HTB.out, HS.out.2.2.2.2.1, HS.out.2.2.2.2.2, HS.out.2.2.2.1⟩
     ·go_simp
      have HL7_ : Hid _ := HL1_.out.go (bel1 Z1 (.cells #[.int .i64 0, .int .i64 0, .int .i64 0, .int .i64 0, .int .i64 0, .int .i64 0] 23))
      have HM7_ : Hid _ := HM1_.out.one HL1_.out.sz (bel1 Z1 (.cells #[.int .i64 0, .int .i64 0, .int .i64 0, .int .i64 0, .int .i64 0, .int .i64 0] 23)) (Nat.le_refl _) (heap_alloc_new Z1 (.cells #[.int .i64 0, .int .i64 0, .int .i64 0, .int .i64 0, .int .i64 0, .int .i64 0] 23))
      obtain ⟨pa, hepa⟩ : ∃ pa, Z1.heap.size = pa := ⟨_, rfl⟩
      rw [hepa] at HM7_
      generalize Z1.alloc (.cells #[.int .i64 0, .int .i64 0, .int .i64 0, .int .i64 0, .int .i64 0, .int .i64 0] 23) = Z7 at *
      rw [hepa]
      clear hepa
      clear HL1_ HM1_
      refine hK.out _ _ HL7_.out (fun hHeld => ?_)
      clear hK K
      refine norm_any' (fun K hK => ?_); go_simp; refine hK _ _ ?_; clear hK K
      refine wpAnyH_ready (rs := [5, 7]) (by kernel_rfl) (by simp) (AllReadyH.cons rfl (fun K hK => ?_) (AllReadyH.cons rfl (fun K hK => ?_) AllReadyH.nil))
      ·go_simp
       refine Calls.mono (small_c s Z7) ?_
       rintro e Z8 ⟨b, rfl, ht, hbx⟩
       have HTB : Hid _ := ht
       have HL8_ : Hid _ := HL7_.out.go hbx
       have HM8_ : Hid _ := HM7_.out.go hbx
       clear ht hbx
       clear HL7_ HM7_
       refine hK.out _ _ HL8_.out (fun hHeld => ?_)
       clear hK K
       refine norm_any' (fun K hK => ?_); go_simp; refine hK _ _ ?_; clear hK K
       refine wpAnyH_ready (rs := [7]) (by kernel_rfl) (by simp) (AllReadyH.cons rfl (fun K hK => ?_) AllReadyH.nil)
       go_simp
       have HL9_ : Hid _ := HL8_.out.go (bel1 Z8 (.cells #[.int .i64 0, .int .i64 0, .int .i64 0, .int .i64 0, .int .i64 0, .int .i64 0] 23))
       have HM9_ : Hid _ := HM8_.out.one HL8_.out.sz (bel1 Z8 (.cells #[.int .i64 0, .int .i64 0, .int .i64 0, .int .i64 0, .int .i64 0, .int .i64 0] 23)) (Nat.le_refl _) (heap_alloc_new Z8 (.cells #[.int .i64 0, .int .i64 0, .int .i64 0, .int .i64 0, .int .i64 0, .int .i64 0] 23))
       obtain ⟨pb, hepb⟩ : ∃ pb, Z8.heap.size = pb := ⟨_, rfl⟩
       rw [hepb] at HM9_
       generalize Z8.alloc (.cells #[.int .i64 0, .int .i64 0, .int .i64 0, .int .i64 0, .int .i64 0, .int .i64 0] 23) = Z9 at *
       rw [hepb]
       clear hepb
       clear HL8_ HM8_
       refine hK.out _ _ HL9_.out (fun hHeld => ?_)
       clear hK K
       refine norm_any' (fun K hK => ?_); go_simp; refine hK _ _ ?_; clear hK K
       have HS : Hid _ := two_set (a := a) (b := b) HL9_.out HM9_.out (List.Mem.tail _ (List.Mem.head _)) (List.Mem.head _) (by
         have hn := HM9_.out.nd
         simp only [List.map_cons, List.map_nil, List.nodup_cons, List.mem_cons, List.not_mem_nil, or_false, not_false_eq_true, and_true, List.nodup_nil] at hn
         first | exact hn | exact fun e => hn e.symm)
       have HPA : Hid _ := HM9_.out.mem (List.Mem.tail _ (List.Mem.head _))
       clear HL9_ HM9_
       refine wpAnyH_ready (rs := [8]) (by kernel_rfl) (by simp) (AllReadyH.cons rfl (fun K hK => ?_) AllReadyH.nil)
       refine step_store_row rfl 23 (.tmp 7) (.tmp 32) rfl pa a.v.toArray rfl rfl 23 _ HPA.out (i6 a) rfl (one6 a) ?_
       refine hK.out _ _ HS.out.1 (fun hHeld => ?_)
       clear hK K
       refine norm_any' (fun K hK => ?_); go_simp; refine hK _ _ ?_; clear hK K
       refine wpAnyH_ready (rs := [9]) (by kernel_rfl) (by simp) (AllReadyH.cons rfl (fun K hK => ?_) AllReadyH.nil)
       refine step_store_row rfl 23 (.tmp 8) (.tmp 35) rfl pb b.v.toArray rfl rfl 23 _ HS.out.2.1 (i6 b) rfl (one6 b) ?_
       refine hK.out _ _ HS.out.2.2.1 (fun hHeld => ?_)
       clear hK K
       refine norm_any' (fun K hK => ?_); go_simp; refine hK _ _ ?_; clear hK K
       refine wpAnyH_done (by kernel_rfl) ?_ _
       go_wp2
       go_meet
       case rel => exact ⟨pa, pb, a, b, rfl, rfl, HTA.out, HTB.out, HS.out.2.2.2.2.1, HS.out.2.2.2.2.2, HS.out.2.2.2.1⟩
      ·go_simp
       have HL10_ : Hid _ := HL7_.out.go (bel1 Z7 (.cells #[.int .i64 0, .int .i64 0, .int .i64 0, .int .i64 0, .int .i64 0, .int .i64 0] 23))
       have HM10_ : Hid _ := HM7_.out.one HL7_.out.sz (bel1 Z7 (.cells #[.int .i64 0, .int .i64 0, .int .i64 0, .int .i64 0, .int .i64 0, .int .i64 0] 23)) (Nat.le_refl _) (heap_alloc_new Z7 (.cells #[.int .i64 0, .int .i64 0, .int .i64 0, .int .i64 0, .int .i64 0, .int .i64 0] 23))
       obtain ⟨pb, hepb⟩ : ∃ pb, Z7.heap.size = pb := ⟨_, rfl⟩
       rw [hepb] at HM10_
       generalize Z7.alloc (.cells #[.int .i64 0, .int .i64 0, .int .i64 0, .int .i64 0, .int .i64 0, .int .i64 0] 23) = Z10 at *
       rw [hepb]
       clear hepb
       clear HL7_ HM7_
       refine hK.out _ _ HL10_.out (fun hHeld => ?_)
       clear hK K
       refine norm_any' (fun K hK => ?_); go_simp; refine hK _ _ ?_; clear hK K
       refine wpAnyH_ready (rs := [5]) (by kernel_rfl) (by simp) (AllReadyH.cons rfl (fun K hK => ?_) AllReadyH.nil)
       go_simp
       refine Calls.mono (small_c s Z10) ?_
       rintro e Z11 ⟨b, rfl, ht, hbx⟩
       have HTB : Hid _ := ht
       have HL11_ : Hid _ := HL10_.out.go hbx
       have HM11_ : Hid _ := HM10_.out.go hbx
       clear ht hbx
       clear HL10_ HM10_
       refine hK.out _ _ HL11_.out (fun hHeld => ?_)
       clear hK K
       refine norm_any' (fun K hK => ?_); go_simp; refine hK _ _ ?_; clear hK K
       have HS : Hid _ := two_set (a := a) (b := b) HL11_.out HM11_.out (List.Mem.tail _ (List.Mem.head _)) (List.Mem.head _) (by
         have hn := HM11_.out.nd
         simp only [List.map_cons, List.map_nil, List.nodup_cons, List.mem_cons, List.not_mem_nil, or_false, not_false_eq_true, and_true, List.nodup_nil] at hn
         first | exact hn | exact fun e => hn e.symm)
       have HPA : Hid _ := HM11_.out.mem (List.Mem.tail _ (List.Mem.head _))
       clear HL11_ HM11_
       refine wpAnyH_ready (rs := [8]) (by kernel_rfl) (by simp) (AllReadyH.cons rfl (fun K hK => ?_) AllReadyH.nil)
       refine step_store_row rfl 23 (.tmp 7) (.tmp 32) rfl pa a.v.toArray rfl rfl 23 _ HPA.out (i6 a) rfl (one6 a) ?_
       refine hK.out _ _ HS.out.1 (fun hHeld => ?_)
       clear hK K
       refine norm_any' (fun K hK => ?_); go_simp; refine hK _ _ ?_; clear hK K
       refine wpAnyH_ready (rs := [9]) (by kernel_rfl) (by simp) (AllReadyH.cons rfl (fun K hK => ?_) AllReadyH.nil)
       refine step_store_row rfl 23 (.tmp 8) (.tmp 35) rfl pb b.v.toArray rfl rfl 23 _ HS.out.2.1 (i6 b) rfl (one6 b) ?_
       refine hK.out _ _ HS.out.2.2.1 (fun hHeld => ?_)
       clear hK K
       refine norm_any' (fun K hK => ?_); go_simp; refine hK _ _ ?_; clear hK K
       refine wpAnyH_done (by kernel_rfl) ?_ _
       go_wp2
       go_meet
       case rel => exact ⟨pa, pb, a, b, rfl, rfl, HTA.out, HTB.out, HS.out.2.2.2.2.1, HS.out.2.2.2.2.2, HS.out.2.2.2.1⟩
     ·go_simp
      have HL12_ : Hid _ := HL1_.out.go (bel1 Z1 (.cells #[.int .i64 0, .int .i64 0, .int .i64 0, .int .i64 0, .int .i64 0, .int .i64 0] 23))
      have HM12_ : Hid _ := HM1_.out.one HL1_.out.sz (bel1 Z1 (.cells #[.int .i64 0, .int .i64 0, .int .i64 0, .int .i64 0, .int .i64 0, .int .i64 0] 23)) (Nat.le_refl _) (heap_alloc_new Z1 (.cells #[.int .i64 0, .int .i64 0, .int .i64 0, .int .i64 0, .int .i64 0, .int .i64 0] 23))
      obtain ⟨pb, hepb⟩ : ∃ pb, Z1.heap.size = pb := ⟨_, rfl⟩
      rw [hepb] at HM12_
      generalize Z1.alloc (.cells #[.int .i64 0, .int .i64 0, .int .i64 0, .int .i64 0, .int .i64 0, .int .i64 0] 23) = Z12 at *
      rw [hepb]
      clear hepb
      clear HL1_ HM1_
      refine hK.out _ _ HL12_.out (fun hHeld => ?_)
      clear hK K
      refine norm_any' (fun K hK => ?_); go_simp; refine hK _ _ ?_; clear hK K
      refine wpAnyH_ready (rs := [5, 6]) (by kernel_rfl) (by simp) (AllReadyH.cons rfl (fun K hK => ?_) (AllReadyH.cons rfl (fun K hK => ?_) AllReadyH.nil))
      ·go_simp
       refine Calls.mono (small_c s Z12) ?_
       rintro e Z13 ⟨b, rfl, ht, hbx⟩
       have HTB : Hid _ := ht
       have HL13_ : Hid _ := HL12_.out.go hbx
       have HM13_ : Hid _ := HM12_.out.go hbx
       clear ht hbx
       clear HL12_ HM12_
       refine hK.out _ _ HL13_.out (fun hHeld => ?_)
       clear hK K
       refine norm_any' (fun K hK => ?_); go_simp; refine hK _ _ ?_; clear hK K
       refine wpAnyH_ready (rs := [6]) (by kernel_rfl) (by simp) (AllReadyH.cons rfl (fun K hK => ?_) AllReadyH.nil)
       go_simp
       have HL14_ : Hid _ := HL13_.out.go (bel1 Z13 (.cells #[.int .i64 0, .int .i64 0, .int .i64 0, .int .i64 0, .int .i64 0, .int .i64 0] 23))
       have HM14_ : Hid _ := HM13_.out.one HL13_.out.sz (bel1 Z13 (.cells #[.int .i64 0, .int .i64 0, .int .i64 0, .int .i64 0, .int .i64 0, .int .i64 0] 23)) (Nat.le_refl _) (heap_alloc_new Z13 (.cells #[.int .i64 0, .int .i64 0, .int .i64 0, .int .i64 0, .int .i64 0, .int .i64 0] 23))
       obtain ⟨pa, hepa⟩ : ∃ pa, Z13.heap.size = pa := ⟨_, rfl⟩
       rw [hepa] at HM14_
       generalize Z13.alloc (.cells #[.int .i64 0, .int .i64 0, .int .i64 0, .int .i64 0, .int .i64 0, .int .i64 0] 23) = Z14 at *
       rw [hepa]
       clear hepa
       clear HL13_ HM13_
       refine hK.out _ _ HL14_.out (fun hHeld => ?_)
       clear hK K
       refine norm_any' (fun K hK => ?_); go_simp; refine hK _ _ ?_; clear hK K
       have HS : Hid _ := two_set (a := a) (b := b) HL14_.out HM14_.out (List.Mem.head _) (List.Mem.tail _ (List.Mem.head _)) (by
         have hn := HM14_.out.nd
         simp only [List.map_cons, List.map_nil, List.nodup_cons, List.mem_cons, List.not_mem_nil, or_false, not_false_eq_true, and_true, List.nodup_nil] at hn
         first | exact hn | exact fun e => hn e.symm)
       have HPA : Hid _ := HM14_.out.mem (List.Mem.head _)
       clear HL14_ HM14_
       refine wpAnyH_ready (rs := [8]) (by kernel_rfl) (by simp) (AllReadyH.cons rfl (fun K hK => ?_) AllReadyH.nil)
       refine step_store_row rfl 23 (.tmp 7) (.tmp 32) rfl pa a.v.toArray rfl rfl 23 _ HPA.out (i6 a) rfl (one6 a) ?_
       refine hK.out _ _ HS.out.1 (fun hHeld => ?_)
       clear hK K
       refine norm_any' (fun K hK => ?_); go_simp; refine hK _ _ ?_; clear hK K
       refine wpAnyH_ready (rs := [9]) (by kernel_rfl) (by simp) (AllReadyH.cons rfl (fun K hK => ?_) AllReadyH.nil)
       refine step_store_row rfl 23 (.tmp 8) (.tmp 35) rfl pb b.v.toArray rfl rfl 23 _ HS.out.2.1 (i6 b) rfl (one6 b) ?_
       refine hK.out _ _ HS.out.2.2.1 (fun hHeld => ?_)
       clear hK K
       refine norm_any' (fun K hK => ?_); go_simp; refine hK _ _ ?_; clear hK K
       refine wpAnyH_done (by kernel_rfl) ?_ _
       go_wp2
       go_meet
       case rel => exact ⟨pa, pb, a, b, rfl, rfl, HTA.out, HTB.out, HS.out.2.2.2.2.1, HS.out.2.2.2.2.2, HS.out.2.2.2.1⟩
      ·go_simp
       have HL15_ : Hid _ := HL12_.out.go (bel1 Z12 (.cells #[.int .i64 0, .int .i64 0, .int .i64 0, .int .i64 0, .int .i64 0, .int .i64 0] 23))
       have HM15_ : Hid _ := HM12_.out.one HL12_.out.sz (bel1 Z12 (.cells #[.int .i64 0, .int .i64 0, .int .i64 0, .int .i64 0, .int .i64 0, .int .i64 0] 23)) (Nat.le_refl _) (heap_alloc_new Z12 (.cells #[.int .i64 0, .int .i64 0, .int .i64 0, .int .i64 0, .int .i64 0, .int .i64 0] 23))
       obtain ⟨pa, hepa⟩ : ∃ pa, Z12.heap.size = pa := ⟨_, rfl⟩
       rw [hepa] at HM15_
       generalize Z12.alloc (.cells #[.int .i64 0, .int .i64 0, .int .i64 0, .int .i64 0, .int .i64 0, .int .i64 0] 23) = Z15 at *
       rw [hepa]
       clear hepa
       clear HL12_ HM12_
       refine hK.out _ _ HL15_.out (fun hHeld => ?_)
       clear hK K
       refine norm_any' (fun K hK => ?_); go_simp; refine hK _ _ ?_; clear hK K
       refine wpAnyH_ready (rs := [5]) (by kernel_rfl) (by simp) (AllReadyH.cons rfl (fun K hK => ?_) AllReadyH.nil)
       go_simp
       refine Calls.mono (small_c s Z15) ?_
       rintro e Z16 ⟨b, rfl, ht, hbx⟩
       have HTB : Hid _ := ht
       have HL16_ : Hid _ := HL15_.out.go hbx
       have HM16_ : Hid _ := HM15_.out.go hbx
       clear ht hbx
       clear HL15_ HM15_
       refine hK.out _ _ HL16_.out (fun hHeld => ?_)
       clear hK K
       refine norm_any' (fun K hK => ?_); go_simp; refine hK _ _ ?_; clear hK K
       have HS : Hid _ := two_set (a := a) (b := b) HL16_.out HM16_.out (List.Mem.head _) (List.Mem.tail _ (List.Mem.head _)) (by
         have hn := HM16_.out.nd
         simp only [List.map_cons, List.map_nil, List.nodup_cons, List.mem_cons, List.not_mem_nil, or_false, not_false_eq_true, and_true, List.nodup_nil] at hn
         first | exact hn | exact fun e => hn e.symm)
       have HPA : Hid _ := HM16_.out.mem (List.Mem.head _)
       clear HL16_ HM16_
       refine wpAnyH_ready (rs := [8]) (by kernel_rfl) (by simp) (AllReadyH.cons rfl (fun K hK => ?_) AllReadyH.nil)
       refine step_store_row rfl 23 (.tmp 7) (.tmp 32) rfl pa a.v.toArray rfl rfl 23 _ HPA.out (i6 a) rfl (one6 a) ?_
       refine hK.out _ _ HS.out.1 (fun hHeld => ?_)
       clear hK K
       refine norm_any' (fun K hK => ?_); go_simp; refine hK _ _ ?_; clear hK K
       refine wpAnyH_ready (rs := [9]) (by kernel_rfl) (by simp) (AllReadyH.cons rfl (fun K hK => ?_) AllReadyH.nil)
       refine step_store_row rfl 23 (.tmp 8) (.tmp 35) rfl pb b.v.toArray rfl rfl 23 _ HS.out.2.1 (i6 b) rfl (one6 b) ?_
       refine hK.out _ _ HS.out.2.2.1 (fun hHeld => ?_)
       clear hK K
       refine norm_any' (fun K hK => ?_); go_simp; refine hK _ _ ?_; clear hK K
       refine wpAnyH_done (by kernel_rfl) ?_ _
       go_wp2
       go_meet
       case rel => exact ⟨pa, pb, a, b, rfl, rfl, HTA.out, HTB.out, HS.out.2.2.2.2.1, HS.out.2.2.2.2.2, HS.out.2.2.2.1⟩
    ·go_simp
     have HL17_ : Hid _ := HLD.out.go (bel1 Z0 (.cells #[.int .i64 0, .int .i64 0, .int .i64 0, .int .i64 0, .int .i64 0, .int .i64 0] 23))
     have HM17_ : Hid _ := HMD.out.one HLD.out.sz (bel1 Z0 (.cells #[.int .i64 0, .int .i64 0, .int .i64 0, .int .i64 0, .int .i64 0, .int .i64 0] 23)) (Nat.le_refl _) (heap_alloc_new Z0 (.cells #[.int .i64 0, .int .i64 0, .int .i64 0, .int .i64 0, .int .i64 0, .int .i64 0] 23))
     obtain ⟨pa, hepa⟩ : ∃ pa, Z0.heap.size = pa := ⟨_, rfl⟩
     rw [hepa] at HM17_
     generalize Z0.alloc (.cells #[.int .i64 0, .int .i64 0, .int .i64 0, .int .i64 0, .int .i64 0, .int .i64 0] 23) = Z17 at *
     rw [hepa]
     clear hepa
     clear HLD HMD
     refine hK.out _ _ HL17_.out (fun hHeld => ?_)
     clear hK K
     refine norm_any' (fun K hK => ?_); go_simp; refine hK _ _ ?_; clear hK K
     refine wpAnyH_ready (rs := [2, 7]) (by kernel_rfl) (by simp) (AllReadyH.cons rfl (fun K hK => ?_) (AllReadyH.cons rfl (fun K hK => ?_) AllReadyH.nil))
     ·go_simp
      refine Calls.mono (small_c c Z17) ?_
      rintro e Z18 ⟨a, rfl, ht, hbx⟩
      have HTA : Hid _ := ht
      have HL18_ : Hid _ := HL17_.out.go hbx
      have HM18_ : Hid _ := HM17_.out.go hbx
      clear ht hbx
      clear HL17_ HM17_
      refine hK.out _ _ HL18_.out (fun hHeld => ?_)
      clear hK K
      refine norm_any' (fun K hK => ?_); go_simp; refine hK _ _ ?_; clear hK K
      refine wpAnyH_ready (rs := [5, 7]) (by kernel_rfl) (by simp) (AllReadyH.cons rfl (fun K hK => ?_) (AllReadyH.cons rfl (fun K hK => ?_) AllReadyH.nil))
      ·go_simp
       refine Calls.mono (small_c s Z18) ?_
       rintro e Z19 ⟨b, rfl, ht, hbx⟩
       have HTB : Hid _ := ht
       have HL19_ : Hid _ := HL18_.out.go hbx
       have HM19_ : Hid _ := HM18_.out.go hbx
       clear ht hbx
       clear HL18_ HM18_
       refine hK.out _ _ HL19_.out (fun hHeld => ?_)
       clear hK K
       refine norm_any' (fun K hK => ?_); go_simp; refine hK _ _ ?_; clear hK K
       refine wpAnyH_ready (rs := [7]) (by kernel_rfl) (by simp) (AllReadyH.cons rfl (fun K hK => ?_) AllReadyH.nil)
       go_simp
       have HL20_ : Hid _ := HL19_.out.go (bel1 Z19 (.cells #[.int .i64 0, .int .i64 0, .int .i64 0, .int .i64 0, .int .i64 0, .int .i64 0] 23))
       have HM20_ : Hid _ := HM19_.out.one HL19_.out.sz (bel1 Z19 (.cells #[.int .i64 0, .int .i64 0, .int .i64 0, .int .i64 0, .int .i64 0, .int .i64 0] 23)) (Nat.le_refl _) (heap_alloc_new Z19 (.cells #[.int .i64 0, .int .i64 0, .int .i64 0, .int .i64 0, .int .i64 0, .int .i64 0] 23))
       obtain ⟨pb, hepb⟩ : ∃ pb, Z19.heap.size = pb := ⟨_, rfl⟩
       rw [hepb] at HM20_
       generalize Z19.alloc (.cells #[.int .i64 0, .int .i64 0, .int .i64 0, .int .i64 0, .int .i64 0, .int .i64 0] 23) = Z20 at *
       rw [hepb]
       clear hepb
       clear HL19_ HM19_
       refine hK.out _ _ HL20_.out (fun hHeld => ?_)
       clear hK K
       refine norm_any' (fun K hK => ?_); go_simp; refine hK _ _ ?_; clear hK K
       have HS : Hid _ := two_set (a := a) (b := b) HL20_.out HM20_.out (List.Mem.tail _ (List.Mem.head _)) (List.Mem.head _) (by
         have hn := HM20_.out.nd
         simp only [List.map_cons, List.map_nil, List.nodup_cons, List.mem_cons, List.not_mem_nil, or_false, not_false_eq_true, and_true, List.nodup_nil] at hn
         first | exact hn | exact fun e => hn e.symm)
       have HPA : Hid _ := HM20_.out.mem (List.Mem.tail _ (List.Mem.head _))
       clear HL20_ HM20_
       refine wpAnyH_ready (rs := [8]) (by kernel_rfl) (by simp) (AllReadyH.cons rfl (fun K hK => ?_) AllReadyH.nil)
       refine step_store_row rfl 23 (.tmp 7) (.tmp 32) rfl pa a.v.toArray rfl rfl 23 _ HPA.out (i6 a) rfl (one6 a) ?_
       refine hK.out _ _ HS.out.1 (fun hHeld => ?_)
       clear hK K
       refine norm_any' (fun K hK => ?_); go_simp; refine hK _ _ ?_; clear hK K
       refine wpAnyH_ready (rs := [9]) (by kernel_rfl) (by simp) (AllReadyH.cons rfl (fun K hK => ?_) AllReadyH.nil)
       refine step_store_row rfl 23 (.tmp 8) (.tmp 35) rfl pb b.v.toArray rfl rfl 23 _ HS.out.2.1 (i6 b) rfl (one6 b) ?_
       refine hK.out _ _ HS.out.2.2.1 (fun hHeld => ?_)
       clear hK K
       refine norm_any' (fun K hK => ?_); go_simp; refine hK _ _ ?_; clear hK K
       refine wpAnyH_done (by kernel_rfl) ?_ _
       go_wp2
       go_meet
       case rel => exact ⟨pa, pb, a, b, rfl, rfl, HTA.out, HTB.out, HS.out.2.2.2.2.1, HS.out.2.2.2.2.2, HS.out.2.2.2.1⟩
      ·go_simp
       have HL21_ : Hid _ := HL18_.out.go (bel1 Z18 (.cells #[.int .i64 0, .int .i64 0, .int .i64 0, .int .i64 0, .int .i64 0, .int .i64 0] 23))
       have HM21_ : Hid _ := HM18_.out.one HL18_.out.sz (bel1 Z18 (.cells #[.int .i64 0, .int .i64 0, .int .i64 0, .int .i64 0, .int .i64 0, .int .i64 0] 23)) (Nat.le_refl _) (heap_alloc_new Z18 (.cells #[.int .i64 0, .int .i64 0, .int .i64 0, .int .i64 0, .int .i64 0, .int .i64 0] 23))
       obtain ⟨pb, hepb⟩ : ∃ pb, Z18.heap.size = pb := ⟨_, rfl⟩
       rw [hepb] at HM21_
       generalize Z18.alloc (.cells #[.int .i64 0, .int .i64 0, .int .i64 0, .int .i64 0, .int .i64 0, .int .i64 0] 23) = Z21 at *
       rw [hepb]
       clear hepb
       clear HL18_ HM18_
       refine hK.out _ _ HL21_.out (fun hHeld => ?_)
       clear hK K
       refine norm_any' (fun K hK => ?_); go_simp; refine hK _ _ ?_; clear hK K
       refine wpAnyH_ready (rs := [5]) (by kernel_rfl) (by simp) (AllReadyH.cons rfl (fun K hK => ?_) AllReadyH.nil)
       go_simp
       refine Calls.mono (small_c s Z21) ?_
       rintro e Z22 ⟨b, rfl, ht, hbx⟩
       have HTB : Hid _ := ht
       have HL22_ : Hid _ := HL21_.out.go hbx
       have HM22_ : Hid _ := HM21_.out.go hbx
       clear ht hbx
       clear HL21_ HM21_
       refine hK.out _ _ HL22_.out (fun hHeld => ?_)
       clear hK K
       refine norm_any' (fun K hK => ?_); go_simp; refine hK _ _ ?_; clear hK K
       have HS : Hid _ := two_set (a := a) (b := b) HL22_.out HM22_.out (List.Mem.tail _ (List.Mem.head _)) (List.Mem.head _) (by
         have hn := HM22_.out.nd
         simp only [List.map_cons, List.map_nil, List.nodup_cons, List.mem_cons, List.not_mem_nil, or_false, not_false_eq_true, and_true, List.nodup_nil] at hn
         first | exact hn | exact fun e => hn e.symm)
       have HPA : Hid _ := HM22_.out.mem (List.Mem.tail _ (List.Mem.head _))
       clear HL22_ HM22_
       refine wpAnyH_ready (rs := [8]) (by kernel_rfl) (by simp) (AllReadyH.cons rfl (fun K hK => ?_) AllReadyH.nil)
       refine step_store_row rfl 23 (.tmp 7) (.tmp 32) rfl pa a.v.toArray rfl rfl 23 _ HPA.out (i6 a) rfl (one6 a) ?_
       refine hK.out _ _ HS.out.1 (fun hHeld => ?_)
       clear hK K
       refine norm_any' (fun K hK => ?_); go_simp; refine hK _ _ ?_; clear hK K
       refine wpAnyH_ready (rs := [9]) (by kernel_rfl) (by simp) (AllReadyH.cons rfl (fun K hK => ?_) AllReadyH.nil)
       refine step_store_row rfl 23 (.tmp 8) (.tmp 35) rfl pb b.v.toArray rfl rfl 23 _ HS.out.2.1 (i6 b) rfl (one6 b) ?_
       refine hK.out _ _ HS.out.2.2.1 (fun hHeld => ?_)
       clear hK K
       refine norm_any' (fun K hK => ?_); go_simp; refine hK _ _ ?_; clear hK K
       refine wpAnyH_done (by kernel_rfl) ?_ _
       go_wp2
       go_meet
       case rel => exact ⟨pa, pb, a, b, rfl, rfl, HTA.out, HTB.out, HS.out.2.2.2.2.1, HS.out.2.2.2.2.2, HS.out.2.2.2.1⟩
     ·go_simp
      have HL23_ : Hid _ := HL17_.out.go (bel1 Z17 (.cells #[.int .i64 0, .int .i64 0, .int .i64 0, .int .i64 0, .int .i64 0, .int .i64 0] 23))
      have HM23_ : Hid _ := HM17_.out.one HL17_.out.sz (bel1 Z17 (.cells #[.int .i64 0, .int .i64 0, .int .i64 0, .int .i64 0, .int .i64 0, .int .i64 0] 23)) (Nat.le_refl _) (heap_alloc_new Z17 (.cells #[.int .i64 0, .int .i64 0, .int .i64 0, .int .i64 0, .int .i64 0, .int .i64 0] 23))
      obtain ⟨pb, hepb⟩ : ∃ pb, Z17.heap.size = pb := ⟨_, rfl⟩
      rw [hepb] at HM23_
      generalize Z17.alloc (.cells #[.int .i64 0, .int .i64 0, .int .i64 0, .int .i64 0, .int .i64 0, .int .i64 0] 23) = Z23 at *
      rw [hepb]
      clear hepb
      clear HL17_ HM17_
      refine hK.out _ _ HL23_.out (fun hHeld => ?_)
      clear hK K
      refine norm_any' (fun K hK => ?_); go_simp; refine hK _ _ ?_; clear hK K
      refine wpAnyH_ready (rs := [2]) (by kernel_rfl) (by simp) (AllReadyH.cons rfl (fun K hK => ?_) AllReadyH.nil)
      go_simp
      refine Calls.mono (small_c c Z23) ?_
      rintro e Z24 ⟨a, rfl, ht, hbx⟩
      have HTA : Hid _ := ht
      have HL24_ : Hid _ := HL23_.out.go hbx
      have HM24_ : Hid _ := HM23_.out.go hbx
      clear ht hbx
      clear HL23_ HM23_
      refine hK.out _ _ HL24_.out (fun hHeld => ?_)
      clear hK K
      refine norm_any' (fun K hK => ?_); go_simp; refine hK _ _ ?_; clear hK K
      refine wpAnyH_ready (rs := [5]) (by kernel_rfl) (by simp) (AllReadyH.cons rfl (fun K hK => ?_) AllReadyH.nil)
      go_simp
      refine Calls.mono (small_c s Z24) ?_
      rintro e Z25 ⟨b, rfl, ht, hbx⟩
      have HTB : Hid _ := ht
      have HL25_ : Hid _ := HL24_.out.go hbx
      have HM25_ : Hid _ := HM24_.out.go hbx
      clear ht hbx
      clear HL24_ HM24_
      refine hK.out _ _ HL25_.out (fun hHeld => ?_)
      clear hK K
      refine norm_any' (fun K hK => ?_); go_simp; refine hK _ _ ?_; clear hK K
      have HS : Hid _ := two_set (a := a) (b := b) HL25_.out HM25_.out (List.Mem.tail _ (List.Mem.head _)) (List.Mem.head _) (by
        have hn := HM25_.out.nd
        simp only [List.map_cons, List.map_nil, List.nodup_cons, List.mem_cons, List.not_mem_nil, or_false, not_false_eq_true, and_true, List.nodup_nil] at hn
        first | exact hn | exact fun e => hn e.symm)
      have HPA : Hid _ := HM25_.out.mem (List.Mem.tail _ (List.Mem.head _))
      clear HL25_ HM25_
      refine wpAnyH_ready (rs := [8]) (by kernel_rfl) (by simp) (AllReadyH.cons rfl (fun K hK => ?_) AllReadyH.nil)
      refine step_store_row rfl 23 (.tmp 7) (.tmp 32) rfl pa a.v.toArray rfl rfl 23 _ HPA.out (i6 a) rfl (one6 a) ?_
      refine hK.out _ _ HS.out.1 (fun hHeld => ?_)
      clear hK K
      refine norm_any' (fun K hK => ?_); go_simp; refine hK _ _ ?_; clear hK K
      refine wpAnyH_ready (rs := [9]) (by kernel_rfl) (by simp) (AllReadyH.cons rfl (fun K hK => ?_) AllReadyH.nil)
      refine step_store_row rfl 23 (.tmp 8) (.tmp 35) rfl pb b.v.toArray rfl rfl 23 _ HS.out.2.1 (i6 b) rfl (one6 b) ?_
      refine hK.out _ _ HS.out.2.2.1 (fun hHeld => ?_)
      clear hK K
      refine norm_any' (fun K hK => ?_); go_simp; refine hK _ _ ?_; clear hK K
      refine wpAnyH_done (by kernel_rfl) ?_ _
      go_wp2
      go_meet
      case rel => exact ⟨pa, pb, a, b, rfl, rfl, HTA.out, HTB.out, HS.out.2.2.2.2.1, HS.out.2.2.2.2.2, HS.out.2.2.2.1⟩
    ·go_simp
     have HL26_ : Hid _ := HLD.out.go (bel1 Z0 (.cells #[.int .i64 0, .int .i64 0, .int .i64 0, .int .i64 0, .int .i64 0, .int .i64 0] 23))
     have HM26_ : Hid _ := HMD.out.one HLD.out.sz (bel1 Z0 (.cells #[.int .i64 0, .int .i64 0, .int .i64 0, .int .i64 0, .int .i64 0, .int .i64 0] 23)) (Nat.le_refl _) (heap_alloc_new Z0 (.cells #[.int .i64 0, .int .i64 0, .int .i64 0, .int .i64 0, .int .i64 0, .int .i64 0] 23))
     obtain ⟨pb, hepb⟩ : ∃ pb, Z0.heap.size = pb := ⟨_, rfl⟩
     rw [hepb] at HM26_
     generalize Z0.alloc (.cells #[.int .i64 0, .int .i64 0, .int .i64 0, .int .i64 0, .int .i64 0, .int .i64 0] 23) = Z26 at *
     rw [hepb]
     clear hepb
     clear HLD HMD
     refine hK.out _ _ HL26_.out (fun hHeld => ?_)
     clear hK K
     refine norm_any' (fun K hK => ?_); go_simp; refine hK _ _ ?_; clear hK K
     refine wpAnyH_ready (rs := [2, 6]) (by kernel_rfl) (by simp) (AllReadyH.cons rfl (fun K hK => ?_) (AllReadyH.cons rfl (fun K hK => ?_) AllReadyH.nil))
     ·go_simp
      refine Calls.mono (small_c c Z26) ?_
      rintro e Z27 ⟨a, rfl, ht, hbx⟩
      have HTA : Hid _ := ht
      have HL27_ : Hid _ := HL26_.out.go hbx
      have HM27_ : Hid _ := HM26_.out.go hbx
      clear ht hbx
      clear HL26_ HM26_
      refine hK.out _ _ HL27_.out (fun hHeld => ?_)
      clear hK K
      refine norm_any' (fun K hK => ?_); go_simp; refine hK _ _ ?_; clear hK K
      refine wpAnyH_ready (rs := [5, 6]) (by kernel_rfl) (by simp) (AllReadyH.cons rfl (fun K hK => ?_) (AllReadyH.cons rfl (fun K hK => ?_) AllReadyH.nil))
      ·go_simp
       refine Calls.mono (small_c s Z27) ?_
       rintro e Z28 ⟨b, rfl, ht, hbx⟩
       have HTB : Hid _ := ht
       have HL28_ : Hid _ := HL27_.out.go hbx
       have HM28_ : Hid _ := HM27_.out.go hbx
       clear ht hbx
       clear HL27_ HM27_
       refine hK.out _ _ HL28_.out (fun hHeld => ?_)
       clear hK K
       refine norm_any' (fun K hK => ?_); go_simp; refine hK _ _ ?_; clear hK K
       refine wpAnyH_ready (rs := [6]) (by kernel_rfl) (by simp) (AllReadyH.cons rfl (fun K hK => ?_) AllReadyH.nil)
       go_simp
       have HL29_ : Hid _ := HL28_.out.go (bel1 Z28 (.cells #[.int .i64 0, .int .i64 0, .int .i64 0, .int .i64 0, .int .i64 0, .int .i64 0] 23))
       have HM29_ : Hid _ := HM28_.out.one HL28_.out.sz (bel1 Z28 (.cells #[.int .i64 0, .int .i64 0, .int .i64 0, .int .i64 0, .int .i64 0, .int .i64 0] 23)) (Nat.le_refl _) (heap_alloc_new Z28 (.cells #[.int .i64 0, .int .i64 0, .int .i64 0, .int .i64 0, .int .i64 0, .int .i64 0] 23))
       obtain ⟨pa, hepa⟩ : ∃ pa, Z28.heap.size = pa := ⟨_, rfl⟩
       rw [hepa] at HM29_
       generalize Z28.alloc (.cells #[.int .i64 0, .int .i64 0, .int .i64 0, .int .i64 0, .int .i64 0, .int .i64 0] 23) = Z29 at *
       rw [hepa]
       clear hepa
       clear HL28_ HM28_
       refine hK.out _ _ HL29_.out (fun hHeld => ?_)
       clear hK K
       refine norm_any' (fun K hK => ?_); go_simp; refine hK _ _ ?_; clear hK K
       have HS : Hid _ := two_set (a := a) (b := b) HL29_.out HM29_.out (List.Mem.head _) (List.Mem.tail _ (List.Mem.head _)) (by
         have hn := HM29_.out.nd
         simp only [List.map_cons, List.map_nil, List.nodup_cons, List.mem_cons, List.not_mem_nil, or_false, not_false_eq_true, and_true, List.nodup_nil] at hn
         first | exact hn | exact fun e => hn e.symm)
       have HPA : Hid _ := HM29_.out.mem (List.Mem.head _)
       clear HL29_ HM29_
       refine wpAnyH_ready (rs := [8]) (by kernel_rfl) (by simp) (AllReadyH.cons rfl (fun K hK => ?_) AllReadyH.nil)
       refine step_store_row rfl 23 (.tmp 7) (.tmp 32) rfl pa a.v.toArray rfl rfl 23 _ HPA.out (i6 a) rfl (one6 a) ?_
       refine hK.out _ _ HS.out.1 (fun hHeld => ?_)
       clear hK K
       refine norm_any' (fun K hK => ?_); go_simp; refine hK _ _ ?_; clear hK K
       refine wpAnyH_ready (rs := [9]) (by kernel_rfl) (by simp) (AllReadyH.cons rfl (fun K hK => ?_) AllReadyH.nil)
       refine step_store_row rfl 23 (.tmp 8) (.tmp 35) rfl pb b.v.toArray rfl rfl 23 _ HS.out.2.1 (i6 b) rfl (one6 b) ?_
       refine hK.out _ _ HS.out.2.2.1 (fun hHeld => ?_)
       clear hK K
       refine norm_any' (fun K hK => ?_); go_simp; refine hK _ _ ?_; clear hK K
       refine wpAnyH_done (by kernel_rfl) ?_ _
       go_wp2
       go_meet
       case rel => exact ⟨pa, pb, a, b, rfl, rfl, HTA.out, HTB.out, HS.out.2.2.2.2.1, HS.out.2.2.2.2.2, HS.out.2.2.2.1⟩
      ·go_simp
       have HL30_ : Hid _ := HL27_.out.go (bel1 Z27 (.cells #[.int .i64 0, .int .i64 0, .int .i64 0, .int .i64 0, .int .i64 0, .int .i64 0] 23))
       have HM30_ : Hid _ := HM27_.out.one HL27_.out.sz (bel1 Z27 (.cells #[.int .i64 0, .int .i64 0, .int .i64 0, .int .i64 0, .int .i64 0, .int .i64 0] 23)) (Nat.le_refl _) (heap_alloc_new Z27 (.cells #[.int .i64 0, .int .i64 0, .int .i64 0, .int .i64 0, .int .i64 0, .int .i64 0] 23))
       obtain ⟨pa, hepa⟩ : ∃ pa, Z27.heap.size = pa := ⟨_, rfl⟩
       rw [hepa] at HM30_
       generalize Z27.alloc (.cells #[.int .i64 0, .int .i64 0, .int .i64 0, .int .i64 0, .int .i64 0, .int .i64 0] 23) = Z30 at *
       rw [hepa]
       clear hepa
       clear HL27_ HM27_
       refine hK.out _ _ HL30_.out (fun hHeld => ?_)
       clear hK K
       refine norm_any' (fun K hK => ?_); go_simp; refine hK _ _ ?_; clear hK K
       refine wpAnyH_ready (rs := [5]) (by kernel_rfl) (by simp) (AllReadyH.cons rfl (fun K hK => ?_) AllReadyH.nil)
       go_simp
       refine Calls.mono (small_c s Z30) ?_
       rintro e Z31 ⟨b, rfl, ht, hbx⟩
       have HTB : Hid _ := ht
       have HL31_ : Hid _ := HL30_.out.go hbx
       have HM31_ : Hid _ := HM30_.out.go hbx
       clear ht hbx
       clear HL30_ HM30_
       refine hK.out _ _ HL31_.out (fun hHeld => ?_)
       clear hK K
       refine norm_any' (fun K hK => ?_); go_simp; refine hK _ _ ?_; clear hK K
       have HS : Hid _ := two_set (a := a) (b := b) HL31_.out HM31_.out (List.Mem.head _) (List.Mem.tail _ (List.Mem.head _)) (by
         have hn := HM31_.out.nd
         simp only [List.map_cons, List.map_nil, List.nodup_cons, List.mem_cons, List.not_mem_nil, or_false, not_false_eq_true, and_true, List.nodup_nil] at hn
         first | exact hn | exact fun e => hn e.symm)
       have HPA : Hid _ := HM31_.out.mem (List.Mem.head _)
       clear HL31_ HM31_
       refine wpAnyH_ready (rs := [8]) (by kernel_rfl) (by simp) (AllReadyH.cons rfl (fun K hK => ?_) AllReadyH.nil)
       refine step_store_row rfl 23 (.tmp 7) (.tmp 32) rfl pa a.v.toArray rfl rfl 23 _ HPA.out (i6 a) rfl (one6 a) ?_
       refine hK.out _ _ HS.out.1 (fun hHeld => ?_)
       clear hK K
       refine norm_any' (fun K hK => ?_); go_simp; refine hK _ _ ?_; clear hK K
       refine wpAnyH_ready (rs := [9]) (by kernel_rfl) (by simp) (AllReadyH.cons rfl (fun K hK => ?_) AllReadyH.nil)
       refine step_store_row rfl 23 (.tmp 8) (.tmp 35) rfl pb b.v.toArray rfl rfl 23 _ HS.out.2.1 (i6 b) rfl (one6 b) ?_
       refine hK.out _ _ HS.out.2.2.1 (fun hHeld => ?_)
       clear hK K
       refine norm_any' (fun K hK => ?_); go_simp; refine hK _ _ ?_; clear hK K
       refine wpAnyH_done (by kernel_rfl) ?_ _
       go_wp2
       go_meet
       case rel => exact ⟨pa, pb, a, b, rfl, rfl, HTA.out, HTB.out, HS.out.2.2.2.2.1, HS.out.2.2.2.2.2, HS.out.2.2.2.1⟩
     ·go_simp
      have HL32_ : Hid _ := HL26_.out.go (bel1 Z26 (.cells #[.int .i64 0, .int .i64 0, .int .i64 0, .int .i64 0, .int .i64 0, .int .i64 0] 23))
      have HM32_ : Hid _ := HM26_.out.one HL26_.out.sz (bel1 Z26 (.cells #[.int .i64 0, .int .i64 0, .int .i64 0, .int .i64 0, .int .i64 0, .int .i64 0] 23)) (Nat.le_refl _) (heap_alloc_new Z26 (.cells #[.int .i64 0, .int .i64 0, .int .i64 0, .int .i64 0, .int .i64 0, .int .i64 0] 23))
      obtain ⟨pa, hepa⟩ : ∃ pa, Z26.heap.size = pa := ⟨_, rfl⟩
      rw [hepa] at HM32_
      generalize Z26.alloc (.cells #[.int .i64 0, .int .i64 0, .int .i64 0, .int .i64 0, .int .i64 0, .int .i64 0] 23) = Z32 at *
      rw [hepa]
      clear hepa
      clear HL26_ HM26_
      refine hK.out _ _ HL32_.out (fun hHeld => ?_)
      clear hK K
      refine norm_any' (fun K hK => ?_); go_simp; refine hK _ _ ?_; clear hK K
      refine wpAnyH_ready (rs := [2]) (by kernel_rfl) (by simp) (AllReadyH.cons rfl (fun K hK => ?_) AllReadyH.nil)
      go_simp
      refine Calls.mono (small_c c Z32) ?_
      rintro e Z33 ⟨a, rfl, ht, hbx⟩
      have HTA : Hid _ := ht
      have HL33_ : Hid _ := HL32_.out.go hbx
      have HM33_ : Hid _ := HM32_.out.go hbx
      clear ht hbx
      clear HL32_ HM32_
      refine hK.out _ _ HL33_.out (fun hHeld => ?_)
      clear hK K
      refine norm_any' (fun K hK => ?_); go_simp; refine hK _ _ ?_; clear hK K
      refine wpAnyH_ready (rs := [5]) (by kernel_rfl) (by simp) (AllReadyH.cons rfl (fun K hK => ?_) AllReadyH.nil)
      go_simp
      refine Calls.mono (small_c s Z33) ?_
      rintro e Z34 ⟨b, rfl, ht, hbx⟩
      have HTB : Hid _ := ht
      have HL34_ : Hid _ := HL33_.out.go hbx
      have HM34_ : Hid _ := HM33_.out.go hbx
      clear ht hbx
      clear HL33_ HM33_
      refine hK.out _ _ HL34_.out (fun hHeld => ?_)
      clear hK K
      refine norm_any' (fun K hK => ?_); go_simp; refine hK _ _ ?_; clear hK K
      have HS : Hid _ := two_set (a := a) (b := b) HL34_.out HM34_.out (List.Mem.head _) (List.Mem.tail _ (List.Mem.head _)) (by
        have hn := HM34_.out.nd
        simp only [List.map_cons, List.map_nil, List.nodup_cons, List.mem_cons, List.not_mem_nil, or_false, not_false_eq_true, and_true, List.nodup_nil] at hn
        first | exact hn | exact fun e => hn e.symm)
      have HPA : Hid _ := HM34_.out.mem (List.Mem.head _)
      clear HL34_ HM34_
      refine wpAnyH_ready (rs := [8]) (by kernel_rfl) (by simp) (AllReadyH.cons rfl (fun K hK => ?_) AllReadyH.nil)
      refine step_store_row rfl 23 (.tmp 7) (.tmp 32) rfl pa a.v.toArray rfl rfl 23 _ HPA.out (i6 a) rfl (one6 a) ?_
      refine hK.out _ _ HS.out.1 (fun hHeld => ?_)
      clear hK K
      refine norm_any' (fun K hK => ?_); go_simp; refine hK _ _ ?_; clear hK K
      refine wpAnyH_ready (rs := [9]) (by kernel_rfl) (by simp) (AllReadyH.cons rfl (fun K hK => ?_) AllReadyH.nil)
      refine step_store_row rfl 23 (.tmp 8) (.tmp 35) rfl pb b.v.toArray rfl rfl 23 _ HS.out.2.1 (i6 b) rfl (one6 b) ?_
      refine hK.out _ _ HS.out.2.2.1 (fun hHeld => ?_)
      clear hK K
      refine norm_any' (fun K hK => ?_); go_simp; refine hK _ _ ?_; clear hK K
      refine wpAnyH_done (by kernel_rfl) ?_ _
      go_wp2
      go_meet
      case rel => exact ⟨pa, pb, a, b, rfl, rfl, HTA.out, HTB.out, HS.out.2.2.2.2.1, HS.out.2.2.2.2.2, HS.out.2.2.2.1⟩
  case rest =>
    obtain ⟨pa, pb, a, b, rfl, rfl, hta, htb, hpa, hpb, hlb⟩ := hcut.out
    have HTA : Hid _ := hta
    have HTB : Hid _ := htb
    have HLB : Hid _ := hlb
    have HP : Hid (w.heap.size ≤ pa ∧ w.heap.size ≤ pb ∧ pa < wc.heap.size ∧ pb < wc.heap.size) := ⟨hpa, hpb, hlb.lt⟩
    have HTW : Hid _ := fun i hi => cell_bel (HT.out i hi) hlb.bel
    clear hta htb hlb hpa hpb hcut HX0
    simp only [ptr]
    go_wp2_with (first | refine wpList_load_row rfl 23 (.tmp 7) rfl pa rfl 23 _ (0, 0) _ HLB.out.a uLim rfl iLim ?_ | refine wpList_load_row rfl 23 (.tmp 8) rfl pb rfl 23 _ (0, 0) _ HLB.out.b uLim rfl iLim ?_)
    refine Calls.mono (tnew_p false a b _ (Lm.tiny.own HTA.out) HTB.out) ?_
    rintro e X1 ⟨k, rfl, htb, hsb, _, hlo, hb1⟩
    obtain ⟨n, hn⟩ : ∃ n : Nat, b.b = (n : Int) := ⟨b.b.toNat, by have := HTB.out; unfold Lm.tiny at this; omega⟩
    have HN : Hid (1 ≤ n ∧ n ≤ 4) := by have := HTB.out; unfold Lm.tiny at this; show _ ∧ _; omega
    have HLB1 : Hid _ := HLB.out.go hb1
    have HOLD : Hid (Old w pa pb wc.heap.size k) := ⟨hlo, HP.out.2.2.1, HP.out.2.2.2, HLB.out.bel.size⟩
    have HL1 : Hid _ := L1.start (u := false) HLB1.out htb hsb hn
    have cb : X1.cell? ⟨pb, 4, none⟩ = some (.int .i64 (n : Int)) := by
      obtain ⟨_, _, _, _, a4, a5⟩ := lim_cells HLB1.out.b
      rw [← hn]
      exact a4
    have cb4 : X1.cell? ⟨pb, 4, none⟩ = some (.int .i64 b.b) := by
      obtain ⟨_, _, _, _, a4, a5⟩ := lim_cells HLB1.out.b
      exact a4
    obtain ⟨M, hM⟩ : ∃ M, n + q = M := ⟨_, rfl⟩
    have HM : Hid (n ≤ M ∧ 1 ≤ M ∧ M ≤ 19) := by have := HN.out; have := HQ.out; show _ ∧ _; omega
    have hwM : IntKind.i64.wrap ((n : Int) + (q : Int)) = (M : Int) := by have h1 := HN.out; have h2 := HQ.out; rw [wrp _ (by omega) (by omega)]; omega
    have HEM : Hid (n + q = M) := hM
    have hmI := HMI.out
    have HTW1 : Hid (TbI X1) := fun i hi => cell_bel (HTW.out i hi) hb1
    clear htb hsb hlo hb1 hM HLB HP HLB1
    clear cb4
    go_wp2_with fail
    clear cb hwM hmI hn
    have HL1' : Hid (L1 a b w pa pb k false (lim n M 0) 0 X1) := HL1.out
    clear HL1
    go_loopg [14] (M + 1) (fun kx s14 wr => ∃ i : Nat, s14 = .int .i64 (i : Int) ∧ i ≤ M ∧ M - i + 1 ≤ kx ∧ Hid (L1 a b w pa pb k false (lim n M i) i wr))
    case atStart => exact ⟨0, rfl, Nat.zero_le _, Nat.le_refl _, HL1'.out⟩
    case round =>
      obtain ⟨i, rfl, hi, hk, HR⟩ := hrel
      clear HL1'
      by_cases hlt : i < M
      · have hli : (i : Int) < (M : Int) := by omega
        have HHI : Hid (i < M ∧ M - i + 1 ≤ gk) := ⟨hlt, hk⟩
        obtain ⟨v, hv⟩ : ∃ v, sid i false false = v := ⟨_, rfl⟩
        obtain ⟨y, hy⟩ : ∃ y : Int, 4 * (i : Int) = y := ⟨_, rfl⟩
        have hM2 := HM.out
        have e1 : IntKind.i64.wrap (4 * (i : Int)) = y := by rw [wrp _ (by omega) (by omega)]; exact hy
        have e2 : IntKind.i64.wrap (y + 0) = v := by rw [wrp _ (by omega) (by omega), ← hv, ← hy]; simp [sid]
        have hw1 : IntKind.i64.wrap ((i : Int) + 1) = ((i + 1 : Nat) : Int) := by rw [wrp _ (by omega) (by omega)]; omega
        have HV : Hid _ := hv
        have HE : Hid (IntKind.i64.wrap (4 * (i : Int)) = y ∧ IntKind.i64.wrap (y + 0) = v ∧ IntKind.i64.wrap ((i : Int) + 1) = ((i + 1 : Nat) : Int)) := ⟨e1, e2, hw1⟩
        have HWR : Hid _ := HR.out
        clear HR hM2 hv hy e1 e2 hw1 hlt hi hk
        by_cases hin : i = n
        · subst hin
          have HIN : Hid (i = i) := rfl
          have HWR0 : Hid (L1 a b w pa pb k false i i wr) := by
            have := HWR.out
            rw [lim_at] at this
            exact this
          have HFU : Hid _ := HWR0.out.full HTA.out HTB.out HOLD.out rfl (by have := HM.out; have := HHI.out; omega)
          clear HWR
          as_aux_lemma =>
          go_wp2_with fail
          refine Calls.mono HFU.out ?_
          rintro e Y1 ⟨rfl, hl⟩
          have HL2 : Hid _ := hl
          have HRA : Hid _ := hl.raise HOLD.out M (by have := HM.out; omega)
          have hq := eq_nil
          clear hl HFU HWR0
          go_wp2_with fail
          refine Calls.mono HRA.out ?_
          rintro e Y2 ⟨rfl, hl⟩
          have HRA2 : Hid _ := hl.raise HOLD.out 0 (by omega)
          clear hl HL2 HRA
          go_wp2_with fail
          refine Calls.mono HRA2.out ?_
          rintro e Y3 ⟨rfl, hl⟩
          have HL4 : Hid (L1 a b w pa pb k false M i Y3) := by
            have := hl
            rwa [show max (max i M) 0 = M by have := HHI.out; omega] at this
          clear hl HRA2
          have HMO : Hid _ := HL4.out.more HTA.out HTB.out HOLD.out HHI.out.1 (by have := HM.out; omega)
          rw [HV.out] at HMO
          go_wp2_with fail
          clear hq
          refine Calls.mono HMO.out ?_
          rintro e Y4 ⟨rfl, hl⟩
          have HL5 : Hid (L1 a b w pa pb k false (lim i M (i + 1)) (i + 1) Y4) := by
            show _
            rw [lim_on]
            exact hl
          clear hl HMO HL4
          obtain ⟨e1, e2, hw1⟩ := HE.out
          rw [Int.add_zero] at e2
          go_wp2_with fail
          go_roundg (M - (i + 1) + 1)
          case measure => have := HHI.out; omega
          case rel => exact ⟨i + 1, rfl, by have := HHI.out; omega, Nat.le_refl _, HL5.out⟩
        · have hli2 : ¬ (i : Int) = (n : Int) := by omega
          have HIN : Hid (i ≠ n) := hin
          clear hin
          have HMO : Hid _ := HWR.out.more HTA.out HTB.out HOLD.out (lim_lt HHI.out.1 HIN.out) (by have := HM.out; have := lim_le (i := i) this.1; omega)
          rw [HV.out] at HMO
          as_aux_lemma =>
          go_wp2_with fail
          refine Calls.mono HMO.out ?_
          rintro e Y4 ⟨rfl, hl⟩
          have HL5 : Hid (L1 a b w pa pb k false (lim n M (i + 1)) (i + 1) Y4) := by
            show _
            rw [lim_up HIN.out]
            exact hl
          clear hl HMO
          obtain ⟨e1, e2, hw1⟩ := HE.out
          rw [Int.add_zero] at e2
          go_wp2_with fail
          go_roundg (M - (i + 1) + 1)
          case measure => have := HHI.out; omega
          case rel => exact ⟨i + 1, rfl, by have := HHI.out; omega, Nat.le_refl _, HL5.out⟩
      · have hli : ¬ (i : Int) < (M : Int) := by omega
        obtain rfl : i = M := by omega
        have HWR : Hid (L1 a b w pa pb k false i i wr) := by
          have := HR.out
          rwa [lim_end HM.out.1] at this
        have HFU : Hid _ := HWR.out.full HTA.out HTB.out HOLD.out rfl (by have := HM.out; omega)
        obtain ⟨m1, hm1⟩ : ∃ m1, i = m1 + 1 := ⟨i - 1, by have := HM.out; omega⟩
        obtain ⟨v, hv⟩ : ∃ v, sid m1 false false = v := ⟨_, rfl⟩
        obtain ⟨y, hy⟩ : ∃ y : Int, 4 * (m1 : Int) = y := ⟨_, rfl⟩
        have hM2 := HM.out
        have e0 : IntKind.i64.wrap ((i : Int) - 1) = (m1 : Int) := by rw [wrp _ (by omega) (by omega)]; omega
        have e1 : IntKind.i64.wrap (4 * (m1 : Int)) = y := by rw [wrp _ (by omega) (by omega)]; exact hy
        have e2 : IntKind.i64.wrap (y + 0) = v := by rw [wrp _ (by omega) (by omega), ← hv, ← hy]; simp [sid]
        rw [Int.add_zero] at e2
        have HV : Hid _ := hv
        have HM1 : Hid _ := hm1
        have HE : Hid (IntKind.i64.wrap ((i : Int) - 1) = (m1 : Int) ∧ IntKind.i64.wrap (4 * (m1 : Int)) = y ∧ IntKind.i64.wrap y = v) := ⟨e0, e1, e2⟩
        clear hv hm1 hM2 e0 e1 e2 hy HR hk hi hlt HWR
        as_aux_lemma =>
        go_wp2_with fail
        refine Calls.mono HFU.out ?_
        rintro e Y1 ⟨rfl, hl⟩
        have HTO : Hid _ := hl.told
        clear hl HFU
        go_wp2_with fail
        refine Calls.mono HTO.out ?_
        rintro e Y2 ⟨⟨t1, t2, t3, rfl⟩, hlb⟩
        have HLB2 : Hid _ := hlb
        clear hlb HTO
        go_wp2_with (refine wpList_load_row rfl 23 (.tmp 7) rfl pa rfl 23 _ (0, 0) _ HLB2.out.a uLim rfl iLim ?_)
        refine Calls.mono (tnew_p true x9 a _ x9_mid.own HTA.out) ?_
        rintro e Y3 ⟨k2, rfl, htb, hsb, hnb, hlo, hb3⟩
        have HBE : Hid (Below w.heap.size w Y3) := bel_trans HLB2.out.bel hb3
        have HBE4 : Hid (Below w.heap.size w (Y3.alloc (.cells #[.int .u8 97] 5 (1, 2)))) := bel_trans HBE.out (bel1 Y3 (.cells #[.int .u8 97] 5 (1, 2)))
        have HTI : Hid (TbI (Y3.alloc (.cells #[.int .u8 97] 5 (1, 2)))) := fun i hi => cell_bel (HT.out i hi) HBE4.out
        have HLO : Hid ((∀ b ∈ k2.l, Y2.heap.size ≤ b) ∧ w.heap.size ≤ Y2.heap.size) := ⟨hlo, HLB2.out.bel.size⟩
        have HTK : Hid _ := take_first (n := 1) (cap := 1) (htb.go (bel1 Y3 (.cells #[.int .u8 97] 5 (1, 2)))) x9_mid HTA.out (heap_bel hsb (bel1 _ _)) (heap_bel hnb (bel1 _ _)) HTI.out m1 false (by have := HM.out; have := HM1.out; show (m1 : Int) < 20; omega) _ false [97] rfl (sl_97 Y3) (Nat.le_refl _) (by omega) (by show ((1 : Nat) : Int) ≤ 9; omega) (by show ((1 : Nat) : Int) ≤ 9; omega)
        rw [HV.out, ← HM1.out] at HTK
        have hq := eq_nil
        have hcv := cv_one
        obtain ⟨e0, e1, e2⟩ := HE.out
        clear htb hsb hnb hlo hb3 HLB2
        go_wp2_with fail
        clear e0 e1 e2 hcv
        generalize Y3.alloc (.cells #[.int .u8 97] 5 (1, 2)) = Y4 at *
        refine Calls.mono HTK.out ?_
        rintro e Y5 ⟨rfl, st, o, cc, ht, hws, hiy, hch⟩
        have HS2 : Hid (L2 a w k2 (ids 0 i false false) 0 Y5) := by
          refine L2.start (o := o) (c := cc) HBE4.out HLO.out.1 HLO.out.2 hch ht ?_ ?_ ?_
          · rw [ids_len]; exact hws
          · rw [ids_len]; exact hiy
          · rw [ids_len]; have := HM.out; omega
        clear ht hws hiy hch HTK HTI HBE HBE4 HLO HE HV HM1
        go_wp2_with fail
        clear hq
        go_loopg [25] (i + 1) (fun kx s25 wr => ∃ j : Nat, s25 = .int .i64 (j : Int) ∧ j ≤ i ∧ i - j + 1 ≤ kx ∧ Hid (L2 a w k2 (ids 0 i false false) j wr))
        case atStart => exact ⟨0, rfl, Nat.zero_le _, Nat.le_refl _, HS2.out⟩
        case round =>
          obtain ⟨j, rfl, hj, hk, HR2⟩ := hrel
          clear HS2
          by_cases hlt : j < i
          · have hlj : (j : Int) < (i : Int) := by omega
            have HHJ : Hid (j < i ∧ i - j + 1 ≤ gk) := ⟨hlt, hk⟩
            obtain ⟨v, hv⟩ : ∃ v, sid j false false = v := ⟨_, rfl⟩
            obtain ⟨y, hy⟩ : ∃ y : Int, 4 * (j : Int) = y := ⟨_, rfl⟩
            have hM2 := HM.out
            have e1 : IntKind.i64.wrap (4 * (j : Int)) = y := by rw [wrp _ (by omega) (by omega)]; exact hy
            have e2 : IntKind.i64.wrap (y + 0) = v := by rw [wrp _ (by omega) (by omega), ← hv, ← hy]; simp [sid]
            rw [Int.add_zero] at e2
            have hw1 : IntKind.i64.wrap ((j : Int) + 1) = ((j + 1 : Nat) : Int) := by rw [wrp _ (by omega) (by omega)]; omega
            have HST : Hid _ := acc_step HR2.out hlt
            rw [hv] at HST
            clear hv hy hM2 hlt hk hj HR2
            as_aux_lemma =>
            go_wp2_with fail
            refine Calls.mono HST.out ?_
            rintro e V1 ⟨rfl, hl⟩
            have HL : Hid _ := hl
            clear hl HST
            go_wp2_with fail
            go_roundg (i - (j + 1) + 1)
            case measure => have := HHJ.out; omega
            case rel => exact ⟨j + 1, rfl, by have := HHJ.out; omega, Nat.le_refl _, HL.out⟩
          · have hlj : ¬ (j : Int) < (i : Int) := by omega
            have HNO : Hid _ := HR2.out.none (by rw [ids_len]; omega)
            clear HR2 hlt hk hj
            as_aux_lemma =>
            go_wp2_with fail
            refine Calls.mono HNO.out ?_
            rintro e V1 ⟨rfl, hl⟩
            have HL : Hid _ := hl
            clear hl HNO
            go_wp2
            go_ret
            exact ⟨rfl, HL.out⟩
end Go.Proofs.YtekgnibdnfephaaDoor
