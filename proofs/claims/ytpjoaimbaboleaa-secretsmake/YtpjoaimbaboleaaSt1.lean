/- SecretsMake: a step on both sides: kinds 3 to 5. -/
import Derived.Test.YtpjoaimbaboleaaSt0
namespace Go.Proofs.Ytpjoaimbaboleaa
open Go.RowKit Go.Shelf Go.Lib
set_option linter.unusedVariables false

set_option maxRecDepth 100000 in
set_option maxHeartbeats 2000000 in
theorem step3 {W0 w : World} {V R : Nat} {L : List Tm} (h : Rs W0 w V L R L) (hO : Onc L) (hC : Cns L) (hle : L.length ≤ 90000) (H G : List UInt8) (hH : H.length = 16) (hG : G.length = 16) (a b : Int) (lb : ByteArray) (o : Option Addr) (c : Nat) (l : List UInt8) (hS : Sl W0 o l) (hl0 : l.length ≤ 140737488351232) (hlb : lb.size ≤ 140737488351232) :
    Calls Try.prog 13 #[.pointer (some ⟨V, 0, none⟩), .pointer (some ⟨R, 0, none⟩), .agg  #[.int .i64 3, .int .i64 a, .int .i64 b, .string lb, .slice o l.length c], hv H, hv G] w (StP W0 V R L w) := by
  have hS : Aside (Sl W0 o l) := hS
  have hl0 : Aside (l.length ≤ 140737488351232) := hl0
  have hlb : Aside (lb.size ≤ 140737488351232) := hlb
  have mixed : Try.prog.follows Departure.mixedOrders = true := by kernel_rfl
  have hb1 : Below w.heap.size w (((((w.alloc (.cells #[.int .i64 3, .int .i64 a, .int .i64 b, .string lb, .slice o l.length c] 35)).alloc (.cells (hl H).toArray 29)).alloc (.cells (hl G).toArray 29)).alloc (.cells (hl z16).toArray 29)).alloc (.cells (hl z16).toArray 29)) := ((((bel1 w _).alloc (by simp) _).alloc (by simp; omega) _).alloc (by simp; omega) _).alloc (by simp; omega) _
  have X7 : Aside ((((((w.alloc (.cells #[.int .i64 3, .int .i64 a, .int .i64 b, .string lb, .slice o l.length c] 35)).alloc (.cells (hl H).toArray 29)).alloc (.cells (hl G).toArray 29)).alloc (.cells (hl z16).toArray 29)).alloc (.cells (hl z16).toArray 29)).heap[w.heap.size]? = some (.cells #[.int .i64 3, .int .i64 a, .int .i64 b, .string lb, .slice o l.length c] 35 (0, 0))) := nth' (nth' (nth' (nth' (new' rfl))))
  have X8 : Aside ((((((w.alloc (.cells #[.int .i64 3, .int .i64 a, .int .i64 b, .string lb, .slice o l.length c] 35)).alloc (.cells (hl H).toArray 29)).alloc (.cells (hl G).toArray 29)).alloc (.cells (hl z16).toArray 29)).alloc (.cells (hl z16).toArray 29)).heap[w.heap.size + 1]? = some (.cells (hl H).toArray 29 (0, 0))) := nth' (nth' (nth' (new' (by simp))))
  have X9 : Aside ((((((w.alloc (.cells #[.int .i64 3, .int .i64 a, .int .i64 b, .string lb, .slice o l.length c] 35)).alloc (.cells (hl H).toArray 29)).alloc (.cells (hl G).toArray 29)).alloc (.cells (hl z16).toArray 29)).alloc (.cells (hl z16).toArray 29)).heap[w.heap.size + 1 + 1]? = some (.cells (hl G).toArray 29 (0, 0))) := nth' (nth' (new' (by simp)))
  have X10 : Aside ((((((w.alloc (.cells #[.int .i64 3, .int .i64 a, .int .i64 b, .string lb, .slice o l.length c] 35)).alloc (.cells (hl H).toArray 29)).alloc (.cells (hl G).toArray 29)).alloc (.cells (hl z16).toArray 29)).alloc (.cells (hl z16).toArray 29)).heap[w.heap.size + 1 + 1 + 1]? = some (.cells (hl z16).toArray 29 (0, 0))) := nth' (new' (by simp))
  have X12 : Aside ((((((w.alloc (.cells #[.int .i64 3, .int .i64 a, .int .i64 b, .string lb, .slice o l.length c] 35)).alloc (.cells (hl H).toArray 29)).alloc (.cells (hl G).toArray 29)).alloc (.cells (hl z16).toArray 29)).alloc (.cells (hl z16).toArray 29)).heap[w.heap.size + 1 + 1 + 1 + 1]? = some (.cells (hl z16).toArray 29 (0, 0))) := new' (by simp)
  have HB : Aside (Below w.heap.size w ((((((w.alloc (.cells #[.int .i64 3, .int .i64 a, .int .i64 b, .string lb, .slice o l.length c] 35)).alloc (.cells (hl H).toArray 29)).alloc (.cells (hl G).toArray 29)).alloc (.cells (hl z16).toArray 29)).alloc (.cells (hl z16).toArray 29)).setRow (w.heap.size + 1 + 1 + 1 + 1) (hl z16).toArray)) := bel_set hb1 (by omega) _
  have HR0 : Aside (Rs W0 w V L R L) := h
  have HN : Aside (W0.heap.size ≤ w.heap.size) := h.ag.bel.size
  clear hb1 h
  go_enter Try.func13, Try.ntmps13
  go_wp2_with (refine st28 rfl (.tmp 12) (.tmp 16) rfl (w.heap.size + 1 + 1 + 1 + 1) z16 rfl hv_z z16 X12.out rfl rfl (Hid.out ?_))
  rw [hz28, hz28]
  have Y7 : Aside _ := (setRow_other (((((w.alloc (.cells #[.int .i64 3, .int .i64 a, .int .i64 b, .string lb, .slice o l.length c] 35)).alloc (.cells (hl H).toArray 29)).alloc (.cells (hl G).toArray 29)).alloc (.cells (hl z16).toArray 29)).alloc (.cells (hl z16).toArray 29)) (w.heap.size + 1 + 1 + 1 + 1) (w.heap.size) (hl z16).toArray (by omega)).trans X7.out
  have Y8 : Aside _ := (setRow_other (((((w.alloc (.cells #[.int .i64 3, .int .i64 a, .int .i64 b, .string lb, .slice o l.length c] 35)).alloc (.cells (hl H).toArray 29)).alloc (.cells (hl G).toArray 29)).alloc (.cells (hl z16).toArray 29)).alloc (.cells (hl z16).toArray 29)) (w.heap.size + 1 + 1 + 1 + 1) (w.heap.size + 1) (hl z16).toArray (by omega)).trans X8.out
  have Y9 : Aside _ := (setRow_other (((((w.alloc (.cells #[.int .i64 3, .int .i64 a, .int .i64 b, .string lb, .slice o l.length c] 35)).alloc (.cells (hl H).toArray 29)).alloc (.cells (hl G).toArray 29)).alloc (.cells (hl z16).toArray 29)).alloc (.cells (hl z16).toArray 29)) (w.heap.size + 1 + 1 + 1 + 1) (w.heap.size + 1 + 1) (hl z16).toArray (by omega)).trans X9.out
  have Y10 : Aside _ := (setRow_other (((((w.alloc (.cells #[.int .i64 3, .int .i64 a, .int .i64 b, .string lb, .slice o l.length c] 35)).alloc (.cells (hl H).toArray 29)).alloc (.cells (hl G).toArray 29)).alloc (.cells (hl z16).toArray 29)).alloc (.cells (hl z16).toArray 29)) (w.heap.size + 1 + 1 + 1 + 1) (w.heap.size + 1 + 1 + 1) (hl z16).toArray (by omega)).trans X10.out
  have Y12 : Aside _ := setRow_heap (((((w.alloc (.cells #[.int .i64 3, .int .i64 a, .int .i64 b, .string lb, .slice o l.length c] 35)).alloc (.cells (hl H).toArray 29)).alloc (.cells (hl G).toArray 29)).alloc (.cells (hl z16).toArray 29)).alloc (.cells (hl z16).toArray 29)) (w.heap.size + 1 + 1 + 1 + 1) _ (hl z16).toArray 29 (0, 0) X12.out
  clear X7 X8 X9 X10 X12
  generalize (((((w.alloc (.cells #[.int .i64 3, .int .i64 a, .int .i64 b, .string lb, .slice o l.length c] 35)).alloc (.cells (hl H).toArray 29)).alloc (.cells (hl G).toArray 29)).alloc (.cells (hl z16).toArray 29)).alloc (.cells (hl z16).toArray 29)).setRow (w.heap.size + 1 + 1 + 1 + 1) (hl z16).toArray = Wa at *
  refine mkHid ?_
  go_wp2_with (refine str rfl (.tmp 14) (.tmp 17) rfl Wa.heap.size z16 rfl hv_z z16 (heap_alloc_new Wa _) rfl rfl (Hid.out ?_))
  rw [hz28r]
  have HBn := (nboxr Wa z16 z16).2
  have X14 : Aside _ := (nboxr Wa z16 z16).1
  have X7 : Aside _ := heap_bel Y7.out HBn
  have X8 : Aside _ := heap_bel Y8.out HBn
  have X9 : Aside _ := heap_bel Y9.out HBn
  have X10 : Aside _ := heap_bel Y10.out HBn
  have X12 : Aside _ := heap_bel Y12.out HBn
  have HRa : Aside (Rs W0 ((Wa.alloc (.cells (hl z16).toArray 28)).setRow Wa.heap.size (hl z16).toArray) V L R L) := HR0.out.go (HB.out.trans (HBn.mono HB.out.size))
  have HKa : Aside (Kq w ((Wa.alloc (.cells (hl z16).toArray 28)).setRow Wa.heap.size (hl z16).toArray)) := Kq.of_kc (Kc.of_bel (HB.out.trans (HBn.mono HB.out.size)))
  have HD : Aside (w.heap.size ≤ Wa.heap.size ∧ w.heap.size + 1 + 1 + 1 + 1 < Wa.heap.size) := ⟨HB.out.size, (Array.getElem?_eq_some_iff.1 Y12.out).1⟩
  clear HBn Y7 Y8 Y9 Y10 Y12 HB HR0
  generalize (Wa.alloc (.cells (hl z16).toArray 28)).setRow Wa.heap.size (hl z16).toArray = Wb at *
  generalize Wa.heap.size = D14 at *
  have c0 : Wb.cell? ⟨w.heap.size, 0, none⟩ = some (.int .i64 3) := by have := X7.out; simp [World.cell?, this]
  have c3 : Wb.cell? ⟨w.heap.size, 3, none⟩ = some (.string lb) := by have := X7.out; simp [World.cell?, this]
  have c4 : Wb.cell? ⟨w.heap.size, 4, none⟩ = some (.slice o l.length c) := by have := X7.out; simp [World.cell?, this]
  refine mkHid ?_
  go_wp2_with (first | (refine ld28 rfl (.tmp 8) rfl (w.heap.size + 1) rfl H X8.out hH ?_) | (refine ld28 rfl (.tmp 9) rfl (w.heap.size + 1 + 1) rfl G X9.out hG ?_))
  refine Calls.mono (a18 HRa.out.ag hle H G hH hG) ?_
  rintro e Wc ⟨rfl, hq1, hq2⟩
  have HBR : Aside (Calls Try.prog 34 #[.pointer (some ⟨R, 0, none⟩), hv H, hv G] (Wc.setRow (w.heap.size + 1 + 1 + 1 + 1) (hl (dvHand L H G).1).toArray) (RqP (fun X => Rs W0 X V (dvHand L H G).2.2 R (dvHand L H G).2.2) (dvHand L H G).1 (dvHand L H G).2.1 (Wc.setRow (w.heap.size + 1 + 1 + 1 + 1) (hl (dvHand L H G).1).toArray))) := by
    have hr : Rs W0 Wc V (dvHand L H G).2.2 R L := HRa.out.prog hq1 hq2
    have hr2 : Rs W0 (Wc.setRow (w.heap.size + 1 + 1 + 1 + 1) (hl (dvHand L H G).1).toArray) V (dvHand L H G).2.2 R L := hr.setb (hq2 _ _ _ _ X12.out (by decide) (by decide)) ⟨by decide, by decide, by decide, by decide⟩ (by have := HN.out; omega) _
    exact b34 hr2 hO hC hle H G hH hG
  have HFIN : Aside (∀ X e, e = .returned (.tuple #[hv (dvHand L H G).1, .bool true]) → Rs W0 X V (dvHand L H G).2.2 R (dvHand L H G).2.2 → Kq w X → StP W0 V R L w e X) := fun X e he hr hk => ⟨(dvHand L H G), he, hr, dvHand_h _ _ _, (dvHand_l _ _ _).1, by have := dvHand_l L H G; omega, Onc_hand hO _ _, Cns_hand hC _ _, hk⟩
  have hr1 : (dvHand L H G).1.length = 16 := dvHand_h _ _ _
  have HK1 : Aside (Kq w Wc) := HKa.out.trans (Kq.of_kc hq2)
  have Z12 : Aside _ := hq2 _ _ _ _ X12.out (by decide) (by decide)
  have Z7 : Aside _ := hq2 _ _ _ _ X7.out (by decide) (by decide)
  have Z8 : Aside _ := hq2 _ _ _ _ X8.out (by decide) (by decide)
  have Z9 : Aside _ := hq2 _ _ _ _ X9.out (by decide) (by decide)
  have Z10 : Aside _ := hq2 _ _ _ _ X10.out (by decide) (by decide)
  have Z14 : Aside _ := hq2 _ _ _ _ X14.out (by decide) (by decide)
  clear hq1 hq2 X7 X8 X9 X10 X12 X14 c0 c3 c4 HRa HKa
  generalize (dvHand L H G).1 = R1 at *
  generalize (dvHand L H G).2.1 = E1 at *
  generalize (dvHand L H G).2.2 = RL at *
  as_aux_lemma =>
  go_wp2_with (refine st28 rfl (.tmp 12) (.tmp 71) rfl (w.heap.size + 1 + 1 + 1 + 1) R1 rfl rfl z16 Z12.out hr1 rfl (Hid.out ?_))
  have Y12 : Aside _ := setRow_heap Wc (w.heap.size + 1 + 1 + 1 + 1) _ (hl R1).toArray 29 (0, 0) Z12.out
  have Y7 : Aside _ := (setRow_other Wc (w.heap.size + 1 + 1 + 1 + 1) (w.heap.size) (hl R1).toArray (by omega)).trans Z7.out
  have Y8 : Aside _ := (setRow_other Wc (w.heap.size + 1 + 1 + 1 + 1) (w.heap.size + 1) (hl R1).toArray (by omega)).trans Z8.out
  have Y9 : Aside _ := (setRow_other Wc (w.heap.size + 1 + 1 + 1 + 1) (w.heap.size + 1 + 1) (hl R1).toArray (by omega)).trans Z9.out
  have Y10 : Aside _ := (setRow_other Wc (w.heap.size + 1 + 1 + 1 + 1) (w.heap.size + 1 + 1 + 1) (hl R1).toArray (by omega)).trans Z10.out
  have Y14 : Aside _ := (setRow_other Wc (w.heap.size + 1 + 1 + 1 + 1) D14 (hl R1).toArray (by have := HD.out.2; omega)).trans Z14.out
  have HK2 : Aside (Kq w (Wc.setRow (w.heap.size + 1 + 1 + 1 + 1) (hl R1).toArray)) := HK1.out.set (by omega) _
  clear Z12 Z7 Z8 Z9 Z10 Z14 HK1
  generalize Wc.setRow (w.heap.size + 1 + 1 + 1 + 1) (hl R1).toArray = Wd at *
  have c3 : Wd.cell? ⟨w.heap.size, 3, none⟩ = some (.string lb) := by have := Y7.out; simp [World.cell?, this]
  have c4 : Wd.cell? ⟨w.heap.size, 4, none⟩ = some (.slice o l.length c) := by have := Y7.out; simp [World.cell?, this]
  refine mkHid ?_
  go_wp2_with (first | (refine ld28 rfl (.tmp 8) rfl (w.heap.size + 1) rfl H Y8.out hH ?_) | (refine ld28 rfl (.tmp 9) rfl (w.heap.size + 1 + 1) rfl G Y9.out hG ?_))
  refine Calls.mono HBR.out ?_
  rintro e We ⟨rfl, hq1, hq2⟩
  have HRb : Aside (Rs W0 (We.setRow D14 (hl R1).toArray) V RL R RL) := Rs.setb hq1 (hq2 _ _ _ _ Y14.out (by decide) (by decide)) ⟨by decide, by decide, by decide, by decide⟩ (by have := HN.out; have := HD.out.1; omega) _
  have HKa : Aside (Kq w (We.setRow D14 (hl R1).toArray)) := (HK2.out.trans (Kq.of_kz hq2)).set HD.out.1 _
  have Z14 : Aside _ := hq2 _ _ _ _ Y14.out (by decide) (by decide)
  have X14 : Aside _ := setRow_heap We D14 _ (hl R1).toArray 28 (0, 0) Z14.out
  have X12 : Aside _ := (setRow_other We D14 (w.heap.size + 1 + 1 + 1 + 1) (hl R1).toArray (by have := HD.out.2; omega)).trans (hq2 _ _ _ _ Y12.out (by decide) (by decide))
  have X10 : Aside _ := (setRow_other We D14 (w.heap.size + 1 + 1 + 1) (hl R1).toArray (by have := HD.out.2; omega)).trans (hq2 _ _ _ _ Y10.out (by decide) (by decide))
  clear hq1 hq2 Y12 Y7 Y8 Y9 Y10 Y14 HK2 c3 c4 HBR
  go_wp2_with (refine str rfl (.tmp 14) (.tmp 78) rfl D14 R1 rfl rfl z16 Z14.out hr1 rfl (Hid.out ?_))
  clear Z14
  generalize We.setRow D14 (hl R1).toArray = Wb at *
  have HRa : Aside (Rs W0 Wb V RL R RL) := HRb.out
  clear HRb
  refine mkHid ?_
  go_wp2_with fail
  have m12 : (Try.prog.info? 29).map (·.size) = some (hl R1).length := hi28.trans (by simp [hr1])
  have m14 : (Try.prog.info? 28).map (·.size) = some (hl R1).length := hi28r.trans (by simp [hr1])
  have EQ : Aside (∀ X, (binOp .eql 29 (hv R1) (hv R1)).run Try.prog X = .ok (.bool true) X) := eq_self R1 hr1
  have x10 : Aside (Wb.drew.heap[w.heap.size + 1 + 1 + 1]? = some (.cells (hl z16).toArray 29 (0, 0))) := X10.out
  have x12 : Aside (Wb.drew.heap[w.heap.size + 1 + 1 + 1 + 1]? = some (.cells (hl R1).toArray 29 (0, 0))) := X12.out
  have x14 : Aside (Wb.drew.heap[D14]? = some (.cells (hl R1).toArray 28 (0, 0))) := X14.out
  have HR : Aside _ := setRow_heap Wb.drew (w.heap.size + 1 + 1 + 1) _ (hl R1).toArray 29 (0, 0) x10.out
  have HF : Aside (StP W0 V R L w (.returned (.tuple #[hv R1, .bool true])) (Wb.drew.setRow (w.heap.size + 1 + 1 + 1) (hl R1).toArray)) := HFIN.out _ _ rfl ((HRa.out.go (bel_drew Wb)).setb x10.out ⟨by decide, by decide, by decide, by decide⟩ (by have := HN.out; omega) _) ((HKa.out.trans (Kq.of_kc (Kc.of_bel (bel_drew Wb)))).set (by omega) _)
  refine wp_region_held_drew (S := fun X => X.rangeAt (w.heap.size + 1 + 1 + 1 + 1) 0 (hl R1) ∧ X.rangeAt D14 0 (hl R1)) (by kernel_rfl) ⟨range_of' x12.out, range_r x14.out⟩ (fun hHeld => ?_)
  refine wpAnyH_take (i := 0) (v := hv R1) rfl (by kernel_rfl) (by kernel_rfl) (by kernel_rfl) (fun _ _ _ h => h) (yieldsIf_load_mid (by rfl) 29 _ rfl (w.heap.size + 1 + 1 + 1 + 1) 0 rfl (hl R1) _ (fun X h => h.1) hu28 rfl m12) hHeld ?_
  refine norm_any' (fun K hK => ?_)
  go_simp
  refine hK _ _ ?_
  clear hK K
  refine wpAnyH_take (i := 1) (v := hv R1) rfl (by kernel_rfl) (by kernel_rfl) (by kernel_rfl) (fun _ _ _ h => h) (yieldsIf_load_mid (by rfl) 29 _ rfl (w.heap.size + 1 + 1 + 1 + 1) 0 rfl (hl R1) _ (fun X h => h.1) hu28 rfl m12) hHeld ?_
  refine norm_any' (fun K hK => ?_)
  go_simp
  refine hK _ _ ?_
  clear hK K
  refine wpAnyH_take (i := 2) (v := hv R1) rfl (by kernel_rfl) (by kernel_rfl) (by kernel_rfl) (fun _ _ _ h => h) (yieldsIf_load_mid (by rfl) 28 _ rfl D14 0 rfl (hl R1) _ (fun X h => h.2) hu28r rfl m14) hHeld ?_
  refine norm_any' (fun K hK => ?_)
  go_simp
  refine hK _ _ ?_
  clear hK K
  refine wpAnyH_take (i := 3) (v := .bool true) rfl (by kernel_rfl) (by kernel_rfl) (by kernel_rfl) (fun _ _ _ h => h) (yl_bin (by rfl) .eql 29 29 _ _ rfl (hl R1).toArray (hl R1).toArray rfl rfl hm29s _ EQ.out) hHeld ?_
  refine norm_any' (fun K hK => ?_)
  go_simp
  refine hK _ _ ?_
  clear hK K
  refine wpAnyH_take (i := 4) (v := .bool true) rfl (by kernel_rfl) (by kernel_rfl) (by kernel_rfl) (fun _ _ _ h => h) (Or.inl ⟨by rfl, by intro w hs; go_simp⟩) hHeld ?_
  refine norm_any' (fun K hK => ?_)
  go_simp
  refine hK _ _ ?_
  clear hK K
  refine wpAnyH_take (i := 5) (v := .int .i64 E1) rfl (by kernel_rfl) (by kernel_rfl) (by kernel_rfl) (fun _ _ _ h => h) (Or.inl ⟨by rfl, by intro w hs; go_simp⟩) hHeld ?_
  refine norm_any' (fun K hK => ?_)
  go_simp
  refine hK _ _ ?_
  clear hK K
  refine wpAnyH_take (i := 6) (v := .int .i64 E1) rfl (by kernel_rfl) (by kernel_rfl) (by kernel_rfl) (fun _ _ _ h => h) (Or.inl ⟨by rfl, by intro w hs; go_simp⟩) hHeld ?_
  refine norm_any' (fun K hK => ?_)
  go_simp
  refine hK _ _ ?_
  clear hK K
  refine wpAnyH_take (i := 7) (v := .bool true) rfl (by kernel_rfl) (by kernel_rfl) (by kernel_rfl) (fun _ _ _ h => h) (Or.inl ⟨by rfl, by intro w hs; go_simp⟩) hHeld ?_
  refine norm_any' (fun K hK => ?_)
  go_simp
  refine hK _ _ ?_
  clear hK K
  refine wpAnyH_take (i := 8) (v := .bool true) rfl (by kernel_rfl) (by kernel_rfl) (by kernel_rfl) (fun _ _ _ h => h) (Or.inl ⟨by rfl, by intro w hs; go_simp⟩) hHeld ?_
  refine norm_any' (fun K hK => ?_)
  go_simp
  refine hK _ _ ?_
  clear hK K
  refine wpAnyH_ready (rs := [9]) (by kernel_rfl) (by simp) (AllReadyH.cons rfl (fun K hK => ?_) AllReadyH.nil)
  rw [if_pos (by rfl)]
  have s12 : Aside _ := (setRow_other Wb.drew (w.heap.size + 1 + 1 + 1) (w.heap.size + 1 + 1 + 1 + 1) (hl R1).toArray (by omega)).trans x12.out
  have s14 : Aside _ := (setRow_other Wb.drew (w.heap.size + 1 + 1 + 1) D14 (hl R1).toArray (by have := HD.out.2; omega)).trans x14.out
  refine wp_store_row 29 _ _ rfl (w.heap.size + 1 + 1 + 1) (hl R1).toArray (by rfl) (by rfl) 29 _ x10.out (hi28.trans (by simp [hr1])) (by simp [hr1, z16_len]) (hl_one R1) ?_
  refine hK.out _ _ ⟨range_of' s12.out, range_r s14.out⟩ (fun hHeld => ?_)
  clear hK K
  refine norm_any' (fun K hK => ?_)
  go_simp
  refine hK _ _ ?_
  clear hK K
  refine wpAnyH_take (i := 10) (v := .bool true) rfl (by kernel_rfl) (by kernel_rfl) (by kernel_rfl) (fun _ _ _ h => h) (Or.inl ⟨by rfl, by intro w hs; go_simp⟩) hHeld ?_
  refine norm_any' (fun K hK => ?_)
  go_simp
  refine hK _ _ ?_
  clear hK K
  refine wpAnyH_done (by kernel_rfl) ?_ _
  clear hHeld
  go_wp2_with fail
  refine bodyPost_ret (v := .tuple #[hv R1, .bool true]) (res_h (fn := Try.f13) (p := 10) (u := 11) rfl _ _ (w.heap.size + 1 + 1 + 1) R1 rfl HR.out hr1) rfl ?_
  exact HF.out
set_option maxRecDepth 100000 in
set_option maxHeartbeats 2000000 in
theorem step4 {W0 w : World} {V R : Nat} {L : List Tm} (h : Rs W0 w V L R L) (hO : Onc L) (hC : Cns L) (hle : L.length ≤ 90000) (H G : List UInt8) (hH : H.length = 16) (hG : G.length = 16) (a b : Int) (lb : ByteArray) (o : Option Addr) (c : Nat) (l : List UInt8) (hS : Sl W0 o l) (hl0 : l.length ≤ 140737488351232) (hlb : lb.size ≤ 140737488351232) :
    Calls Try.prog 13 #[.pointer (some ⟨V, 0, none⟩), .pointer (some ⟨R, 0, none⟩), .agg  #[.int .i64 4, .int .i64 a, .int .i64 b, .string lb, .slice o l.length c], hv H, hv G] w (StP W0 V R L w) := by
  have hS : Aside (Sl W0 o l) := hS
  have hl0 : Aside (l.length ≤ 140737488351232) := hl0
  have hlb : Aside (lb.size ≤ 140737488351232) := hlb
  have mixed : Try.prog.follows Departure.mixedOrders = true := by kernel_rfl
  have hb1 : Below w.heap.size w (((((w.alloc (.cells #[.int .i64 4, .int .i64 a, .int .i64 b, .string lb, .slice o l.length c] 35)).alloc (.cells (hl H).toArray 29)).alloc (.cells (hl G).toArray 29)).alloc (.cells (hl z16).toArray 29)).alloc (.cells (hl z16).toArray 29)) := ((((bel1 w _).alloc (by simp) _).alloc (by simp; omega) _).alloc (by simp; omega) _).alloc (by simp; omega) _
  have X7 : Aside ((((((w.alloc (.cells #[.int .i64 4, .int .i64 a, .int .i64 b, .string lb, .slice o l.length c] 35)).alloc (.cells (hl H).toArray 29)).alloc (.cells (hl G).toArray 29)).alloc (.cells (hl z16).toArray 29)).alloc (.cells (hl z16).toArray 29)).heap[w.heap.size]? = some (.cells #[.int .i64 4, .int .i64 a, .int .i64 b, .string lb, .slice o l.length c] 35 (0, 0))) := nth' (nth' (nth' (nth' (new' rfl))))
  have X8 : Aside ((((((w.alloc (.cells #[.int .i64 4, .int .i64 a, .int .i64 b, .string lb, .slice o l.length c] 35)).alloc (.cells (hl H).toArray 29)).alloc (.cells (hl G).toArray 29)).alloc (.cells (hl z16).toArray 29)).alloc (.cells (hl z16).toArray 29)).heap[w.heap.size + 1]? = some (.cells (hl H).toArray 29 (0, 0))) := nth' (nth' (nth' (new' (by simp))))
  have X9 : Aside ((((((w.alloc (.cells #[.int .i64 4, .int .i64 a, .int .i64 b, .string lb, .slice o l.length c] 35)).alloc (.cells (hl H).toArray 29)).alloc (.cells (hl G).toArray 29)).alloc (.cells (hl z16).toArray 29)).alloc (.cells (hl z16).toArray 29)).heap[w.heap.size + 1 + 1]? = some (.cells (hl G).toArray 29 (0, 0))) := nth' (nth' (new' (by simp)))
  have X10 : Aside ((((((w.alloc (.cells #[.int .i64 4, .int .i64 a, .int .i64 b, .string lb, .slice o l.length c] 35)).alloc (.cells (hl H).toArray 29)).alloc (.cells (hl G).toArray 29)).alloc (.cells (hl z16).toArray 29)).alloc (.cells (hl z16).toArray 29)).heap[w.heap.size + 1 + 1 + 1]? = some (.cells (hl z16).toArray 29 (0, 0))) := nth' (new' (by simp))
  have X12 : Aside ((((((w.alloc (.cells #[.int .i64 4, .int .i64 a, .int .i64 b, .string lb, .slice o l.length c] 35)).alloc (.cells (hl H).toArray 29)).alloc (.cells (hl G).toArray 29)).alloc (.cells (hl z16).toArray 29)).alloc (.cells (hl z16).toArray 29)).heap[w.heap.size + 1 + 1 + 1 + 1]? = some (.cells (hl z16).toArray 29 (0, 0))) := new' (by simp)
  have HB : Aside (Below w.heap.size w ((((((w.alloc (.cells #[.int .i64 4, .int .i64 a, .int .i64 b, .string lb, .slice o l.length c] 35)).alloc (.cells (hl H).toArray 29)).alloc (.cells (hl G).toArray 29)).alloc (.cells (hl z16).toArray 29)).alloc (.cells (hl z16).toArray 29)).setRow (w.heap.size + 1 + 1 + 1 + 1) (hl z16).toArray)) := bel_set hb1 (by omega) _
  have HR0 : Aside (Rs W0 w V L R L) := h
  have HN : Aside (W0.heap.size ≤ w.heap.size) := h.ag.bel.size
  clear hb1 h
  go_enter Try.func13, Try.ntmps13
  go_wp2_with (refine st28 rfl (.tmp 12) (.tmp 16) rfl (w.heap.size + 1 + 1 + 1 + 1) z16 rfl hv_z z16 X12.out rfl rfl (Hid.out ?_))
  rw [hz28, hz28]
  have Y7 : Aside _ := (setRow_other (((((w.alloc (.cells #[.int .i64 4, .int .i64 a, .int .i64 b, .string lb, .slice o l.length c] 35)).alloc (.cells (hl H).toArray 29)).alloc (.cells (hl G).toArray 29)).alloc (.cells (hl z16).toArray 29)).alloc (.cells (hl z16).toArray 29)) (w.heap.size + 1 + 1 + 1 + 1) (w.heap.size) (hl z16).toArray (by omega)).trans X7.out
  have Y8 : Aside _ := (setRow_other (((((w.alloc (.cells #[.int .i64 4, .int .i64 a, .int .i64 b, .string lb, .slice o l.length c] 35)).alloc (.cells (hl H).toArray 29)).alloc (.cells (hl G).toArray 29)).alloc (.cells (hl z16).toArray 29)).alloc (.cells (hl z16).toArray 29)) (w.heap.size + 1 + 1 + 1 + 1) (w.heap.size + 1) (hl z16).toArray (by omega)).trans X8.out
  have Y9 : Aside _ := (setRow_other (((((w.alloc (.cells #[.int .i64 4, .int .i64 a, .int .i64 b, .string lb, .slice o l.length c] 35)).alloc (.cells (hl H).toArray 29)).alloc (.cells (hl G).toArray 29)).alloc (.cells (hl z16).toArray 29)).alloc (.cells (hl z16).toArray 29)) (w.heap.size + 1 + 1 + 1 + 1) (w.heap.size + 1 + 1) (hl z16).toArray (by omega)).trans X9.out
  have Y10 : Aside _ := (setRow_other (((((w.alloc (.cells #[.int .i64 4, .int .i64 a, .int .i64 b, .string lb, .slice o l.length c] 35)).alloc (.cells (hl H).toArray 29)).alloc (.cells (hl G).toArray 29)).alloc (.cells (hl z16).toArray 29)).alloc (.cells (hl z16).toArray 29)) (w.heap.size + 1 + 1 + 1 + 1) (w.heap.size + 1 + 1 + 1) (hl z16).toArray (by omega)).trans X10.out
  have Y12 : Aside _ := setRow_heap (((((w.alloc (.cells #[.int .i64 4, .int .i64 a, .int .i64 b, .string lb, .slice o l.length c] 35)).alloc (.cells (hl H).toArray 29)).alloc (.cells (hl G).toArray 29)).alloc (.cells (hl z16).toArray 29)).alloc (.cells (hl z16).toArray 29)) (w.heap.size + 1 + 1 + 1 + 1) _ (hl z16).toArray 29 (0, 0) X12.out
  clear X7 X8 X9 X10 X12
  generalize (((((w.alloc (.cells #[.int .i64 4, .int .i64 a, .int .i64 b, .string lb, .slice o l.length c] 35)).alloc (.cells (hl H).toArray 29)).alloc (.cells (hl G).toArray 29)).alloc (.cells (hl z16).toArray 29)).alloc (.cells (hl z16).toArray 29)).setRow (w.heap.size + 1 + 1 + 1 + 1) (hl z16).toArray = Wa at *
  refine mkHid ?_
  go_wp2_with (refine str rfl (.tmp 14) (.tmp 17) rfl Wa.heap.size z16 rfl hv_z z16 (heap_alloc_new Wa _) rfl rfl (Hid.out ?_))
  rw [hz28r]
  have HBn := (nboxr Wa z16 z16).2
  have X14 : Aside _ := (nboxr Wa z16 z16).1
  have X7 : Aside _ := heap_bel Y7.out HBn
  have X8 : Aside _ := heap_bel Y8.out HBn
  have X9 : Aside _ := heap_bel Y9.out HBn
  have X10 : Aside _ := heap_bel Y10.out HBn
  have X12 : Aside _ := heap_bel Y12.out HBn
  have HRa : Aside (Rs W0 ((Wa.alloc (.cells (hl z16).toArray 28)).setRow Wa.heap.size (hl z16).toArray) V L R L) := HR0.out.go (HB.out.trans (HBn.mono HB.out.size))
  have HKa : Aside (Kq w ((Wa.alloc (.cells (hl z16).toArray 28)).setRow Wa.heap.size (hl z16).toArray)) := Kq.of_kc (Kc.of_bel (HB.out.trans (HBn.mono HB.out.size)))
  have HD : Aside (w.heap.size ≤ Wa.heap.size ∧ w.heap.size + 1 + 1 + 1 + 1 < Wa.heap.size) := ⟨HB.out.size, (Array.getElem?_eq_some_iff.1 Y12.out).1⟩
  clear HBn Y7 Y8 Y9 Y10 Y12 HB HR0
  generalize (Wa.alloc (.cells (hl z16).toArray 28)).setRow Wa.heap.size (hl z16).toArray = Wb at *
  generalize Wa.heap.size = D14 at *
  have c0 : Wb.cell? ⟨w.heap.size, 0, none⟩ = some (.int .i64 4) := by have := X7.out; simp [World.cell?, this]
  have c3 : Wb.cell? ⟨w.heap.size, 3, none⟩ = some (.string lb) := by have := X7.out; simp [World.cell?, this]
  have c4 : Wb.cell? ⟨w.heap.size, 4, none⟩ = some (.slice o l.length c) := by have := X7.out; simp [World.cell?, this]
  refine mkHid ?_
  go_wp2_with (first | (refine ld28 rfl (.tmp 8) rfl (w.heap.size + 1) rfl H X8.out hH ?_))
  refine Calls.mono (a19 HRa.out.ag hle H hH) ?_
  rintro e Wc ⟨rfl, hq1, hq2⟩
  have HBR : Aside (Calls Try.prog 35 #[.pointer (some ⟨R, 0, none⟩), hv H] (Wc.setRow (w.heap.size + 1 + 1 + 1 + 1) (hl (dv L H bMaster []).1).toArray) (RqP (fun X => Rs W0 X V (dv L H bMaster []).2.2 R (dv L H bMaster []).2.2) (dv L H bMaster []).1 (dv L H bMaster []).2.1 (Wc.setRow (w.heap.size + 1 + 1 + 1 + 1) (hl (dv L H bMaster []).1).toArray))) := by
    have hr : Rs W0 Wc V (dv L H bMaster []).2.2 R L := HRa.out.prog hq1 hq2
    have hr2 : Rs W0 (Wc.setRow (w.heap.size + 1 + 1 + 1 + 1) (hl (dv L H bMaster []).1).toArray) V (dv L H bMaster []).2.2 R L := hr.setb (hq2 _ _ _ _ X12.out (by decide) (by decide)) ⟨by decide, by decide, by decide, by decide⟩ (by have := HN.out; omega) _
    exact b35 hr2 hO hC hle H hH
  have HFIN : Aside (∀ X e, e = .returned (.tuple #[hv (dv L H bMaster []).1, .bool true]) → Rs W0 X V (dv L H bMaster []).2.2 R (dv L H bMaster []).2.2 → Kq w X → StP W0 V R L w e X) := fun X e he hr hk => ⟨(dv L H bMaster []), he, hr, dv_h _ _ _, (dv_l _ _ _ _).1, by have := dv_l L H bMaster []; omega, Onc_dv hO _ _ _, Cns_dv hC _ _ _, hk⟩
  have hr1 : (dv L H bMaster []).1.length = 16 := dv_h _ _ _
  have HK1 : Aside (Kq w Wc) := HKa.out.trans (Kq.of_kc hq2)
  have Z12 : Aside _ := hq2 _ _ _ _ X12.out (by decide) (by decide)
  have Z7 : Aside _ := hq2 _ _ _ _ X7.out (by decide) (by decide)
  have Z8 : Aside _ := hq2 _ _ _ _ X8.out (by decide) (by decide)
  have Z9 : Aside _ := hq2 _ _ _ _ X9.out (by decide) (by decide)
  have Z10 : Aside _ := hq2 _ _ _ _ X10.out (by decide) (by decide)
  have Z14 : Aside _ := hq2 _ _ _ _ X14.out (by decide) (by decide)
  clear hq1 hq2 X7 X8 X9 X10 X12 X14 c0 c3 c4 HRa HKa
  generalize (dv L H bMaster []).1 = R1 at *
  generalize (dv L H bMaster []).2.1 = E1 at *
  generalize (dv L H bMaster []).2.2 = RL at *
  as_aux_lemma =>
  go_wp2_with (refine st28 rfl (.tmp 12) (.tmp 86) rfl (w.heap.size + 1 + 1 + 1 + 1) R1 rfl rfl z16 Z12.out hr1 rfl (Hid.out ?_))
  have Y12 : Aside _ := setRow_heap Wc (w.heap.size + 1 + 1 + 1 + 1) _ (hl R1).toArray 29 (0, 0) Z12.out
  have Y7 : Aside _ := (setRow_other Wc (w.heap.size + 1 + 1 + 1 + 1) (w.heap.size) (hl R1).toArray (by omega)).trans Z7.out
  have Y8 : Aside _ := (setRow_other Wc (w.heap.size + 1 + 1 + 1 + 1) (w.heap.size + 1) (hl R1).toArray (by omega)).trans Z8.out
  have Y9 : Aside _ := (setRow_other Wc (w.heap.size + 1 + 1 + 1 + 1) (w.heap.size + 1 + 1) (hl R1).toArray (by omega)).trans Z9.out
  have Y10 : Aside _ := (setRow_other Wc (w.heap.size + 1 + 1 + 1 + 1) (w.heap.size + 1 + 1 + 1) (hl R1).toArray (by omega)).trans Z10.out
  have Y14 : Aside _ := (setRow_other Wc (w.heap.size + 1 + 1 + 1 + 1) D14 (hl R1).toArray (by have := HD.out.2; omega)).trans Z14.out
  have HK2 : Aside (Kq w (Wc.setRow (w.heap.size + 1 + 1 + 1 + 1) (hl R1).toArray)) := HK1.out.set (by omega) _
  clear Z12 Z7 Z8 Z9 Z10 Z14 HK1
  generalize Wc.setRow (w.heap.size + 1 + 1 + 1 + 1) (hl R1).toArray = Wd at *
  have c3 : Wd.cell? ⟨w.heap.size, 3, none⟩ = some (.string lb) := by have := Y7.out; simp [World.cell?, this]
  have c4 : Wd.cell? ⟨w.heap.size, 4, none⟩ = some (.slice o l.length c) := by have := Y7.out; simp [World.cell?, this]
  refine mkHid ?_
  go_wp2_with (first | (refine ld28 rfl (.tmp 8) rfl (w.heap.size + 1) rfl H Y8.out hH ?_))
  refine Calls.mono HBR.out ?_
  rintro e We ⟨rfl, hq1, hq2⟩
  have HRb : Aside (Rs W0 (We.setRow D14 (hl R1).toArray) V RL R RL) := Rs.setb hq1 (hq2 _ _ _ _ Y14.out (by decide) (by decide)) ⟨by decide, by decide, by decide, by decide⟩ (by have := HN.out; have := HD.out.1; omega) _
  have HKa : Aside (Kq w (We.setRow D14 (hl R1).toArray)) := (HK2.out.trans (Kq.of_kz hq2)).set HD.out.1 _
  have Z14 : Aside _ := hq2 _ _ _ _ Y14.out (by decide) (by decide)
  have X14 : Aside _ := setRow_heap We D14 _ (hl R1).toArray 28 (0, 0) Z14.out
  have X12 : Aside _ := (setRow_other We D14 (w.heap.size + 1 + 1 + 1 + 1) (hl R1).toArray (by have := HD.out.2; omega)).trans (hq2 _ _ _ _ Y12.out (by decide) (by decide))
  have X10 : Aside _ := (setRow_other We D14 (w.heap.size + 1 + 1 + 1) (hl R1).toArray (by have := HD.out.2; omega)).trans (hq2 _ _ _ _ Y10.out (by decide) (by decide))
  clear hq1 hq2 Y12 Y7 Y8 Y9 Y10 Y14 HK2 c3 c4 HBR
  go_wp2_with (refine str rfl (.tmp 14) (.tmp 92) rfl D14 R1 rfl rfl z16 Z14.out hr1 rfl (Hid.out ?_))
  clear Z14
  generalize We.setRow D14 (hl R1).toArray = Wb at *
  have HRa : Aside (Rs W0 Wb V RL R RL) := HRb.out
  clear HRb
  refine mkHid ?_
  go_wp2_with fail
  have m12 : (Try.prog.info? 29).map (·.size) = some (hl R1).length := hi28.trans (by simp [hr1])
  have m14 : (Try.prog.info? 28).map (·.size) = some (hl R1).length := hi28r.trans (by simp [hr1])
  have EQ : Aside (∀ X, (binOp .eql 29 (hv R1) (hv R1)).run Try.prog X = .ok (.bool true) X) := eq_self R1 hr1
  have x10 : Aside (Wb.drew.heap[w.heap.size + 1 + 1 + 1]? = some (.cells (hl z16).toArray 29 (0, 0))) := X10.out
  have x12 : Aside (Wb.drew.heap[w.heap.size + 1 + 1 + 1 + 1]? = some (.cells (hl R1).toArray 29 (0, 0))) := X12.out
  have x14 : Aside (Wb.drew.heap[D14]? = some (.cells (hl R1).toArray 28 (0, 0))) := X14.out
  have HR : Aside _ := setRow_heap Wb.drew (w.heap.size + 1 + 1 + 1) _ (hl R1).toArray 29 (0, 0) x10.out
  have HF : Aside (StP W0 V R L w (.returned (.tuple #[hv R1, .bool true])) (Wb.drew.setRow (w.heap.size + 1 + 1 + 1) (hl R1).toArray)) := HFIN.out _ _ rfl ((HRa.out.go (bel_drew Wb)).setb x10.out ⟨by decide, by decide, by decide, by decide⟩ (by have := HN.out; omega) _) ((HKa.out.trans (Kq.of_kc (Kc.of_bel (bel_drew Wb)))).set (by omega) _)
  refine wp_region_held_drew (S := fun X => X.rangeAt (w.heap.size + 1 + 1 + 1 + 1) 0 (hl R1) ∧ X.rangeAt D14 0 (hl R1)) (by kernel_rfl) ⟨range_of' x12.out, range_r x14.out⟩ (fun hHeld => ?_)
  refine wpAnyH_take (i := 0) (v := hv R1) rfl (by kernel_rfl) (by kernel_rfl) (by kernel_rfl) (fun _ _ _ h => h) (yieldsIf_load_mid (by rfl) 29 _ rfl (w.heap.size + 1 + 1 + 1 + 1) 0 rfl (hl R1) _ (fun X h => h.1) hu28 rfl m12) hHeld ?_
  refine norm_any' (fun K hK => ?_)
  go_simp
  refine hK _ _ ?_
  clear hK K
  refine wpAnyH_take (i := 1) (v := hv R1) rfl (by kernel_rfl) (by kernel_rfl) (by kernel_rfl) (fun _ _ _ h => h) (yieldsIf_load_mid (by rfl) 29 _ rfl (w.heap.size + 1 + 1 + 1 + 1) 0 rfl (hl R1) _ (fun X h => h.1) hu28 rfl m12) hHeld ?_
  refine norm_any' (fun K hK => ?_)
  go_simp
  refine hK _ _ ?_
  clear hK K
  refine wpAnyH_take (i := 2) (v := hv R1) rfl (by kernel_rfl) (by kernel_rfl) (by kernel_rfl) (fun _ _ _ h => h) (yieldsIf_load_mid (by rfl) 28 _ rfl D14 0 rfl (hl R1) _ (fun X h => h.2) hu28r rfl m14) hHeld ?_
  refine norm_any' (fun K hK => ?_)
  go_simp
  refine hK _ _ ?_
  clear hK K
  refine wpAnyH_take (i := 3) (v := .bool true) rfl (by kernel_rfl) (by kernel_rfl) (by kernel_rfl) (fun _ _ _ h => h) (yl_bin (by rfl) .eql 29 29 _ _ rfl (hl R1).toArray (hl R1).toArray rfl rfl hm29s _ EQ.out) hHeld ?_
  refine norm_any' (fun K hK => ?_)
  go_simp
  refine hK _ _ ?_
  clear hK K
  refine wpAnyH_take (i := 4) (v := .bool true) rfl (by kernel_rfl) (by kernel_rfl) (by kernel_rfl) (fun _ _ _ h => h) (Or.inl ⟨by rfl, by intro w hs; go_simp⟩) hHeld ?_
  refine norm_any' (fun K hK => ?_)
  go_simp
  refine hK _ _ ?_
  clear hK K
  refine wpAnyH_take (i := 5) (v := .int .i64 E1) rfl (by kernel_rfl) (by kernel_rfl) (by kernel_rfl) (fun _ _ _ h => h) (Or.inl ⟨by rfl, by intro w hs; go_simp⟩) hHeld ?_
  refine norm_any' (fun K hK => ?_)
  go_simp
  refine hK _ _ ?_
  clear hK K
  refine wpAnyH_take (i := 6) (v := .int .i64 E1) rfl (by kernel_rfl) (by kernel_rfl) (by kernel_rfl) (fun _ _ _ h => h) (Or.inl ⟨by rfl, by intro w hs; go_simp⟩) hHeld ?_
  refine norm_any' (fun K hK => ?_)
  go_simp
  refine hK _ _ ?_
  clear hK K
  refine wpAnyH_take (i := 7) (v := .bool true) rfl (by kernel_rfl) (by kernel_rfl) (by kernel_rfl) (fun _ _ _ h => h) (Or.inl ⟨by rfl, by intro w hs; go_simp⟩) hHeld ?_
  refine norm_any' (fun K hK => ?_)
  go_simp
  refine hK _ _ ?_
  clear hK K
  refine wpAnyH_take (i := 8) (v := .bool true) rfl (by kernel_rfl) (by kernel_rfl) (by kernel_rfl) (fun _ _ _ h => h) (Or.inl ⟨by rfl, by intro w hs; go_simp⟩) hHeld ?_
  refine norm_any' (fun K hK => ?_)
  go_simp
  refine hK _ _ ?_
  clear hK K
  refine wpAnyH_ready (rs := [9]) (by kernel_rfl) (by simp) (AllReadyH.cons rfl (fun K hK => ?_) AllReadyH.nil)
  rw [if_pos (by rfl)]
  have s12 : Aside _ := (setRow_other Wb.drew (w.heap.size + 1 + 1 + 1) (w.heap.size + 1 + 1 + 1 + 1) (hl R1).toArray (by omega)).trans x12.out
  have s14 : Aside _ := (setRow_other Wb.drew (w.heap.size + 1 + 1 + 1) D14 (hl R1).toArray (by have := HD.out.2; omega)).trans x14.out
  refine wp_store_row 29 _ _ rfl (w.heap.size + 1 + 1 + 1) (hl R1).toArray (by rfl) (by rfl) 29 _ x10.out (hi28.trans (by simp [hr1])) (by simp [hr1, z16_len]) (hl_one R1) ?_
  refine hK.out _ _ ⟨range_of' s12.out, range_r s14.out⟩ (fun hHeld => ?_)
  clear hK K
  refine norm_any' (fun K hK => ?_)
  go_simp
  refine hK _ _ ?_
  clear hK K
  refine wpAnyH_take (i := 10) (v := .bool true) rfl (by kernel_rfl) (by kernel_rfl) (by kernel_rfl) (fun _ _ _ h => h) (Or.inl ⟨by rfl, by intro w hs; go_simp⟩) hHeld ?_
  refine norm_any' (fun K hK => ?_)
  go_simp
  refine hK _ _ ?_
  clear hK K
  refine wpAnyH_done (by kernel_rfl) ?_ _
  clear hHeld
  go_wp2_with fail
  refine bodyPost_ret (v := .tuple #[hv R1, .bool true]) (res_h (fn := Try.f13) (p := 10) (u := 11) rfl _ _ (w.heap.size + 1 + 1 + 1) R1 rfl HR.out hr1) rfl ?_
  exact HF.out
set_option maxRecDepth 100000 in
set_option maxHeartbeats 2000000 in
theorem step5 {W0 w : World} {V R : Nat} {L : List Tm} (h : Rs W0 w V L R L) (hO : Onc L) (hC : Cns L) (hle : L.length ≤ 90000) (H G : List UInt8) (hH : H.length = 16) (hG : G.length = 16) (a b : Int) (lb : ByteArray) (o : Option Addr) (c : Nat) (l : List UInt8) (hS : Sl W0 o l) (hl0 : l.length ≤ 140737488351232) (hlb : lb.size ≤ 140737488351232) :
    Calls Try.prog 13 #[.pointer (some ⟨V, 0, none⟩), .pointer (some ⟨R, 0, none⟩), .agg  #[.int .i64 5, .int .i64 a, .int .i64 b, .string lb, .slice o l.length c], hv H, hv G] w (StP W0 V R L w) := by
  have hS : Aside (Sl W0 o l) := hS
  have hl0 : Aside (l.length ≤ 140737488351232) := hl0
  have hlb : Aside (lb.size ≤ 140737488351232) := hlb
  have mixed : Try.prog.follows Departure.mixedOrders = true := by kernel_rfl
  have hb1 : Below w.heap.size w (((((w.alloc (.cells #[.int .i64 5, .int .i64 a, .int .i64 b, .string lb, .slice o l.length c] 35)).alloc (.cells (hl H).toArray 29)).alloc (.cells (hl G).toArray 29)).alloc (.cells (hl z16).toArray 29)).alloc (.cells (hl z16).toArray 29)) := ((((bel1 w _).alloc (by simp) _).alloc (by simp; omega) _).alloc (by simp; omega) _).alloc (by simp; omega) _
  have X7 : Aside ((((((w.alloc (.cells #[.int .i64 5, .int .i64 a, .int .i64 b, .string lb, .slice o l.length c] 35)).alloc (.cells (hl H).toArray 29)).alloc (.cells (hl G).toArray 29)).alloc (.cells (hl z16).toArray 29)).alloc (.cells (hl z16).toArray 29)).heap[w.heap.size]? = some (.cells #[.int .i64 5, .int .i64 a, .int .i64 b, .string lb, .slice o l.length c] 35 (0, 0))) := nth' (nth' (nth' (nth' (new' rfl))))
  have X8 : Aside ((((((w.alloc (.cells #[.int .i64 5, .int .i64 a, .int .i64 b, .string lb, .slice o l.length c] 35)).alloc (.cells (hl H).toArray 29)).alloc (.cells (hl G).toArray 29)).alloc (.cells (hl z16).toArray 29)).alloc (.cells (hl z16).toArray 29)).heap[w.heap.size + 1]? = some (.cells (hl H).toArray 29 (0, 0))) := nth' (nth' (nth' (new' (by simp))))
  have X9 : Aside ((((((w.alloc (.cells #[.int .i64 5, .int .i64 a, .int .i64 b, .string lb, .slice o l.length c] 35)).alloc (.cells (hl H).toArray 29)).alloc (.cells (hl G).toArray 29)).alloc (.cells (hl z16).toArray 29)).alloc (.cells (hl z16).toArray 29)).heap[w.heap.size + 1 + 1]? = some (.cells (hl G).toArray 29 (0, 0))) := nth' (nth' (new' (by simp)))
  have X10 : Aside ((((((w.alloc (.cells #[.int .i64 5, .int .i64 a, .int .i64 b, .string lb, .slice o l.length c] 35)).alloc (.cells (hl H).toArray 29)).alloc (.cells (hl G).toArray 29)).alloc (.cells (hl z16).toArray 29)).alloc (.cells (hl z16).toArray 29)).heap[w.heap.size + 1 + 1 + 1]? = some (.cells (hl z16).toArray 29 (0, 0))) := nth' (new' (by simp))
  have X12 : Aside ((((((w.alloc (.cells #[.int .i64 5, .int .i64 a, .int .i64 b, .string lb, .slice o l.length c] 35)).alloc (.cells (hl H).toArray 29)).alloc (.cells (hl G).toArray 29)).alloc (.cells (hl z16).toArray 29)).alloc (.cells (hl z16).toArray 29)).heap[w.heap.size + 1 + 1 + 1 + 1]? = some (.cells (hl z16).toArray 29 (0, 0))) := new' (by simp)
  have HB : Aside (Below w.heap.size w ((((((w.alloc (.cells #[.int .i64 5, .int .i64 a, .int .i64 b, .string lb, .slice o l.length c] 35)).alloc (.cells (hl H).toArray 29)).alloc (.cells (hl G).toArray 29)).alloc (.cells (hl z16).toArray 29)).alloc (.cells (hl z16).toArray 29)).setRow (w.heap.size + 1 + 1 + 1 + 1) (hl z16).toArray)) := bel_set hb1 (by omega) _
  have HR0 : Aside (Rs W0 w V L R L) := h
  have HN : Aside (W0.heap.size ≤ w.heap.size) := h.ag.bel.size
  clear hb1 h
  go_enter Try.func13, Try.ntmps13
  go_wp2_with (refine st28 rfl (.tmp 12) (.tmp 16) rfl (w.heap.size + 1 + 1 + 1 + 1) z16 rfl hv_z z16 X12.out rfl rfl (Hid.out ?_))
  rw [hz28, hz28]
  have Y7 : Aside _ := (setRow_other (((((w.alloc (.cells #[.int .i64 5, .int .i64 a, .int .i64 b, .string lb, .slice o l.length c] 35)).alloc (.cells (hl H).toArray 29)).alloc (.cells (hl G).toArray 29)).alloc (.cells (hl z16).toArray 29)).alloc (.cells (hl z16).toArray 29)) (w.heap.size + 1 + 1 + 1 + 1) (w.heap.size) (hl z16).toArray (by omega)).trans X7.out
  have Y8 : Aside _ := (setRow_other (((((w.alloc (.cells #[.int .i64 5, .int .i64 a, .int .i64 b, .string lb, .slice o l.length c] 35)).alloc (.cells (hl H).toArray 29)).alloc (.cells (hl G).toArray 29)).alloc (.cells (hl z16).toArray 29)).alloc (.cells (hl z16).toArray 29)) (w.heap.size + 1 + 1 + 1 + 1) (w.heap.size + 1) (hl z16).toArray (by omega)).trans X8.out
  have Y9 : Aside _ := (setRow_other (((((w.alloc (.cells #[.int .i64 5, .int .i64 a, .int .i64 b, .string lb, .slice o l.length c] 35)).alloc (.cells (hl H).toArray 29)).alloc (.cells (hl G).toArray 29)).alloc (.cells (hl z16).toArray 29)).alloc (.cells (hl z16).toArray 29)) (w.heap.size + 1 + 1 + 1 + 1) (w.heap.size + 1 + 1) (hl z16).toArray (by omega)).trans X9.out
  have Y10 : Aside _ := (setRow_other (((((w.alloc (.cells #[.int .i64 5, .int .i64 a, .int .i64 b, .string lb, .slice o l.length c] 35)).alloc (.cells (hl H).toArray 29)).alloc (.cells (hl G).toArray 29)).alloc (.cells (hl z16).toArray 29)).alloc (.cells (hl z16).toArray 29)) (w.heap.size + 1 + 1 + 1 + 1) (w.heap.size + 1 + 1 + 1) (hl z16).toArray (by omega)).trans X10.out
  have Y12 : Aside _ := setRow_heap (((((w.alloc (.cells #[.int .i64 5, .int .i64 a, .int .i64 b, .string lb, .slice o l.length c] 35)).alloc (.cells (hl H).toArray 29)).alloc (.cells (hl G).toArray 29)).alloc (.cells (hl z16).toArray 29)).alloc (.cells (hl z16).toArray 29)) (w.heap.size + 1 + 1 + 1 + 1) _ (hl z16).toArray 29 (0, 0) X12.out
  clear X7 X8 X9 X10 X12
  generalize (((((w.alloc (.cells #[.int .i64 5, .int .i64 a, .int .i64 b, .string lb, .slice o l.length c] 35)).alloc (.cells (hl H).toArray 29)).alloc (.cells (hl G).toArray 29)).alloc (.cells (hl z16).toArray 29)).alloc (.cells (hl z16).toArray 29)).setRow (w.heap.size + 1 + 1 + 1 + 1) (hl z16).toArray = Wa at *
  refine mkHid ?_
  go_wp2_with (refine str rfl (.tmp 14) (.tmp 17) rfl Wa.heap.size z16 rfl hv_z z16 (heap_alloc_new Wa _) rfl rfl (Hid.out ?_))
  rw [hz28r]
  have HBn := (nboxr Wa z16 z16).2
  have X14 : Aside _ := (nboxr Wa z16 z16).1
  have X7 : Aside _ := heap_bel Y7.out HBn
  have X8 : Aside _ := heap_bel Y8.out HBn
  have X9 : Aside _ := heap_bel Y9.out HBn
  have X10 : Aside _ := heap_bel Y10.out HBn
  have X12 : Aside _ := heap_bel Y12.out HBn
  have HRa : Aside (Rs W0 ((Wa.alloc (.cells (hl z16).toArray 28)).setRow Wa.heap.size (hl z16).toArray) V L R L) := HR0.out.go (HB.out.trans (HBn.mono HB.out.size))
  have HKa : Aside (Kq w ((Wa.alloc (.cells (hl z16).toArray 28)).setRow Wa.heap.size (hl z16).toArray)) := Kq.of_kc (Kc.of_bel (HB.out.trans (HBn.mono HB.out.size)))
  have HD : Aside (w.heap.size ≤ Wa.heap.size ∧ w.heap.size + 1 + 1 + 1 + 1 < Wa.heap.size) := ⟨HB.out.size, (Array.getElem?_eq_some_iff.1 Y12.out).1⟩
  clear HBn Y7 Y8 Y9 Y10 Y12 HB HR0
  generalize (Wa.alloc (.cells (hl z16).toArray 28)).setRow Wa.heap.size (hl z16).toArray = Wb at *
  generalize Wa.heap.size = D14 at *
  have c0 : Wb.cell? ⟨w.heap.size, 0, none⟩ = some (.int .i64 5) := by have := X7.out; simp [World.cell?, this]
  have c3 : Wb.cell? ⟨w.heap.size, 3, none⟩ = some (.string lb) := by have := X7.out; simp [World.cell?, this]
  have c4 : Wb.cell? ⟨w.heap.size, 4, none⟩ = some (.slice o l.length c) := by have := X7.out; simp [World.cell?, this]
  refine mkHid ?_
  go_wp2_with (first | (refine ld28 rfl (.tmp 8) rfl (w.heap.size + 1) rfl H X8.out hH ?_) | (refine ld28 rfl (.tmp 9) rfl (w.heap.size + 1 + 1) rfl G X9.out hG ?_))
  refine Calls.mono (a20 HRa.out.ag hle H G hH hG lb (by have := hlb.out; omega)) ?_
  rintro e Wc ⟨rfl, hq1, hq2⟩
  have HBR : Aside (Calls Try.prog 36 #[.pointer (some ⟨R, 0, none⟩), hv H, .string lb, hv G] (Wc.setRow (w.heap.size + 1 + 1 + 1 + 1) (hl (dv L H lb G).1).toArray) (RqP (fun X => Rs W0 X V (dv L H lb G).2.2 R (dv L H lb G).2.2) (dv L H lb G).1 (dv L H lb G).2.1 (Wc.setRow (w.heap.size + 1 + 1 + 1 + 1) (hl (dv L H lb G).1).toArray))) := by
    have hr : Rs W0 Wc V (dv L H lb G).2.2 R L := HRa.out.prog hq1 hq2
    have hr2 : Rs W0 (Wc.setRow (w.heap.size + 1 + 1 + 1 + 1) (hl (dv L H lb G).1).toArray) V (dv L H lb G).2.2 R L := hr.setb (hq2 _ _ _ _ X12.out (by decide) (by decide)) ⟨by decide, by decide, by decide, by decide⟩ (by have := HN.out; omega) _
    exact b36 hr2 hO hC hle H G hH hG lb
  have HFIN : Aside (∀ X e, e = .returned (.tuple #[hv (dv L H lb G).1, .bool true]) → Rs W0 X V (dv L H lb G).2.2 R (dv L H lb G).2.2 → Kq w X → StP W0 V R L w e X) := fun X e he hr hk => ⟨(dv L H lb G), he, hr, dv_h _ _ _, (dv_l _ _ _ _).1, by have := dv_l L H lb G; omega, Onc_dv hO _ _ _, Cns_dv hC _ _ _, hk⟩
  have hr1 : (dv L H lb G).1.length = 16 := dv_h _ _ _
  have HK1 : Aside (Kq w Wc) := HKa.out.trans (Kq.of_kc hq2)
  have Z12 : Aside _ := hq2 _ _ _ _ X12.out (by decide) (by decide)
  have Z7 : Aside _ := hq2 _ _ _ _ X7.out (by decide) (by decide)
  have Z8 : Aside _ := hq2 _ _ _ _ X8.out (by decide) (by decide)
  have Z9 : Aside _ := hq2 _ _ _ _ X9.out (by decide) (by decide)
  have Z10 : Aside _ := hq2 _ _ _ _ X10.out (by decide) (by decide)
  have Z14 : Aside _ := hq2 _ _ _ _ X14.out (by decide) (by decide)
  clear hq1 hq2 X7 X8 X9 X10 X12 X14 c0 c3 c4 HRa HKa
  generalize (dv L H lb G).1 = R1 at *
  generalize (dv L H lb G).2.1 = E1 at *
  generalize (dv L H lb G).2.2 = RL at *
  as_aux_lemma =>
  go_wp2_with (refine st28 rfl (.tmp 12) (.tmp 103) rfl (w.heap.size + 1 + 1 + 1 + 1) R1 rfl rfl z16 Z12.out hr1 rfl (Hid.out ?_))
  have Y12 : Aside _ := setRow_heap Wc (w.heap.size + 1 + 1 + 1 + 1) _ (hl R1).toArray 29 (0, 0) Z12.out
  have Y7 : Aside _ := (setRow_other Wc (w.heap.size + 1 + 1 + 1 + 1) (w.heap.size) (hl R1).toArray (by omega)).trans Z7.out
  have Y8 : Aside _ := (setRow_other Wc (w.heap.size + 1 + 1 + 1 + 1) (w.heap.size + 1) (hl R1).toArray (by omega)).trans Z8.out
  have Y9 : Aside _ := (setRow_other Wc (w.heap.size + 1 + 1 + 1 + 1) (w.heap.size + 1 + 1) (hl R1).toArray (by omega)).trans Z9.out
  have Y10 : Aside _ := (setRow_other Wc (w.heap.size + 1 + 1 + 1 + 1) (w.heap.size + 1 + 1 + 1) (hl R1).toArray (by omega)).trans Z10.out
  have Y14 : Aside _ := (setRow_other Wc (w.heap.size + 1 + 1 + 1 + 1) D14 (hl R1).toArray (by have := HD.out.2; omega)).trans Z14.out
  have HK2 : Aside (Kq w (Wc.setRow (w.heap.size + 1 + 1 + 1 + 1) (hl R1).toArray)) := HK1.out.set (by omega) _
  clear Z12 Z7 Z8 Z9 Z10 Z14 HK1
  generalize Wc.setRow (w.heap.size + 1 + 1 + 1 + 1) (hl R1).toArray = Wd at *
  have c3 : Wd.cell? ⟨w.heap.size, 3, none⟩ = some (.string lb) := by have := Y7.out; simp [World.cell?, this]
  have c4 : Wd.cell? ⟨w.heap.size, 4, none⟩ = some (.slice o l.length c) := by have := Y7.out; simp [World.cell?, this]
  refine mkHid ?_
  go_wp2_with (first | (refine ld28 rfl (.tmp 8) rfl (w.heap.size + 1) rfl H Y8.out hH ?_) | (refine ld28 rfl (.tmp 9) rfl (w.heap.size + 1 + 1) rfl G Y9.out hG ?_))
  refine Calls.mono HBR.out ?_
  rintro e We ⟨rfl, hq1, hq2⟩
  have HRb : Aside (Rs W0 (We.setRow D14 (hl R1).toArray) V RL R RL) := Rs.setb hq1 (hq2 _ _ _ _ Y14.out (by decide) (by decide)) ⟨by decide, by decide, by decide, by decide⟩ (by have := HN.out; have := HD.out.1; omega) _
  have HKa : Aside (Kq w (We.setRow D14 (hl R1).toArray)) := (HK2.out.trans (Kq.of_kz hq2)).set HD.out.1 _
  have Z14 : Aside _ := hq2 _ _ _ _ Y14.out (by decide) (by decide)
  have X14 : Aside _ := setRow_heap We D14 _ (hl R1).toArray 28 (0, 0) Z14.out
  have X12 : Aside _ := (setRow_other We D14 (w.heap.size + 1 + 1 + 1 + 1) (hl R1).toArray (by have := HD.out.2; omega)).trans (hq2 _ _ _ _ Y12.out (by decide) (by decide))
  have X10 : Aside _ := (setRow_other We D14 (w.heap.size + 1 + 1 + 1) (hl R1).toArray (by have := HD.out.2; omega)).trans (hq2 _ _ _ _ Y10.out (by decide) (by decide))
  clear hq1 hq2 Y12 Y7 Y8 Y9 Y10 Y14 HK2 c3 c4 HBR
  go_wp2_with (refine str rfl (.tmp 14) (.tmp 112) rfl D14 R1 rfl rfl z16 Z14.out hr1 rfl (Hid.out ?_))
  clear Z14
  generalize We.setRow D14 (hl R1).toArray = Wb at *
  have HRa : Aside (Rs W0 Wb V RL R RL) := HRb.out
  clear HRb
  refine mkHid ?_
  go_wp2_with fail
  have m12 : (Try.prog.info? 29).map (·.size) = some (hl R1).length := hi28.trans (by simp [hr1])
  have m14 : (Try.prog.info? 28).map (·.size) = some (hl R1).length := hi28r.trans (by simp [hr1])
  have EQ : Aside (∀ X, (binOp .eql 29 (hv R1) (hv R1)).run Try.prog X = .ok (.bool true) X) := eq_self R1 hr1
  have x10 : Aside (Wb.drew.heap[w.heap.size + 1 + 1 + 1]? = some (.cells (hl z16).toArray 29 (0, 0))) := X10.out
  have x12 : Aside (Wb.drew.heap[w.heap.size + 1 + 1 + 1 + 1]? = some (.cells (hl R1).toArray 29 (0, 0))) := X12.out
  have x14 : Aside (Wb.drew.heap[D14]? = some (.cells (hl R1).toArray 28 (0, 0))) := X14.out
  have HR : Aside _ := setRow_heap Wb.drew (w.heap.size + 1 + 1 + 1) _ (hl R1).toArray 29 (0, 0) x10.out
  have HF : Aside (StP W0 V R L w (.returned (.tuple #[hv R1, .bool true])) (Wb.drew.setRow (w.heap.size + 1 + 1 + 1) (hl R1).toArray)) := HFIN.out _ _ rfl ((HRa.out.go (bel_drew Wb)).setb x10.out ⟨by decide, by decide, by decide, by decide⟩ (by have := HN.out; omega) _) ((HKa.out.trans (Kq.of_kc (Kc.of_bel (bel_drew Wb)))).set (by omega) _)
  refine wp_region_held_drew (S := fun X => X.rangeAt (w.heap.size + 1 + 1 + 1 + 1) 0 (hl R1) ∧ X.rangeAt D14 0 (hl R1)) (by kernel_rfl) ⟨range_of' x12.out, range_r x14.out⟩ (fun hHeld => ?_)
  refine wpAnyH_take (i := 0) (v := hv R1) rfl (by kernel_rfl) (by kernel_rfl) (by kernel_rfl) (fun _ _ _ h => h) (yieldsIf_load_mid (by rfl) 29 _ rfl (w.heap.size + 1 + 1 + 1 + 1) 0 rfl (hl R1) _ (fun X h => h.1) hu28 rfl m12) hHeld ?_
  refine norm_any' (fun K hK => ?_)
  go_simp
  refine hK _ _ ?_
  clear hK K
  refine wpAnyH_take (i := 1) (v := hv R1) rfl (by kernel_rfl) (by kernel_rfl) (by kernel_rfl) (fun _ _ _ h => h) (yieldsIf_load_mid (by rfl) 29 _ rfl (w.heap.size + 1 + 1 + 1 + 1) 0 rfl (hl R1) _ (fun X h => h.1) hu28 rfl m12) hHeld ?_
  refine norm_any' (fun K hK => ?_)
  go_simp
  refine hK _ _ ?_
  clear hK K
  refine wpAnyH_take (i := 2) (v := hv R1) rfl (by kernel_rfl) (by kernel_rfl) (by kernel_rfl) (fun _ _ _ h => h) (yieldsIf_load_mid (by rfl) 28 _ rfl D14 0 rfl (hl R1) _ (fun X h => h.2) hu28r rfl m14) hHeld ?_
  refine norm_any' (fun K hK => ?_)
  go_simp
  refine hK _ _ ?_
  clear hK K
  refine wpAnyH_take (i := 3) (v := .bool true) rfl (by kernel_rfl) (by kernel_rfl) (by kernel_rfl) (fun _ _ _ h => h) (yl_bin (by rfl) .eql 29 29 _ _ rfl (hl R1).toArray (hl R1).toArray rfl rfl hm29s _ EQ.out) hHeld ?_
  refine norm_any' (fun K hK => ?_)
  go_simp
  refine hK _ _ ?_
  clear hK K
  refine wpAnyH_take (i := 4) (v := .bool true) rfl (by kernel_rfl) (by kernel_rfl) (by kernel_rfl) (fun _ _ _ h => h) (Or.inl ⟨by rfl, by intro w hs; go_simp⟩) hHeld ?_
  refine norm_any' (fun K hK => ?_)
  go_simp
  refine hK _ _ ?_
  clear hK K
  refine wpAnyH_take (i := 5) (v := .int .i64 E1) rfl (by kernel_rfl) (by kernel_rfl) (by kernel_rfl) (fun _ _ _ h => h) (Or.inl ⟨by rfl, by intro w hs; go_simp⟩) hHeld ?_
  refine norm_any' (fun K hK => ?_)
  go_simp
  refine hK _ _ ?_
  clear hK K
  refine wpAnyH_take (i := 6) (v := .int .i64 E1) rfl (by kernel_rfl) (by kernel_rfl) (by kernel_rfl) (fun _ _ _ h => h) (Or.inl ⟨by rfl, by intro w hs; go_simp⟩) hHeld ?_
  refine norm_any' (fun K hK => ?_)
  go_simp
  refine hK _ _ ?_
  clear hK K
  refine wpAnyH_take (i := 7) (v := .bool true) rfl (by kernel_rfl) (by kernel_rfl) (by kernel_rfl) (fun _ _ _ h => h) (Or.inl ⟨by rfl, by intro w hs; go_simp⟩) hHeld ?_
  refine norm_any' (fun K hK => ?_)
  go_simp
  refine hK _ _ ?_
  clear hK K
  refine wpAnyH_take (i := 8) (v := .bool true) rfl (by kernel_rfl) (by kernel_rfl) (by kernel_rfl) (fun _ _ _ h => h) (Or.inl ⟨by rfl, by intro w hs; go_simp⟩) hHeld ?_
  refine norm_any' (fun K hK => ?_)
  go_simp
  refine hK _ _ ?_
  clear hK K
  refine wpAnyH_ready (rs := [9]) (by kernel_rfl) (by simp) (AllReadyH.cons rfl (fun K hK => ?_) AllReadyH.nil)
  rw [if_pos (by rfl)]
  have s12 : Aside _ := (setRow_other Wb.drew (w.heap.size + 1 + 1 + 1) (w.heap.size + 1 + 1 + 1 + 1) (hl R1).toArray (by omega)).trans x12.out
  have s14 : Aside _ := (setRow_other Wb.drew (w.heap.size + 1 + 1 + 1) D14 (hl R1).toArray (by have := HD.out.2; omega)).trans x14.out
  refine wp_store_row 29 _ _ rfl (w.heap.size + 1 + 1 + 1) (hl R1).toArray (by rfl) (by rfl) 29 _ x10.out (hi28.trans (by simp [hr1])) (by simp [hr1, z16_len]) (hl_one R1) ?_
  refine hK.out _ _ ⟨range_of' s12.out, range_r s14.out⟩ (fun hHeld => ?_)
  clear hK K
  refine norm_any' (fun K hK => ?_)
  go_simp
  refine hK _ _ ?_
  clear hK K
  refine wpAnyH_take (i := 10) (v := .bool true) rfl (by kernel_rfl) (by kernel_rfl) (by kernel_rfl) (fun _ _ _ h => h) (Or.inl ⟨by rfl, by intro w hs; go_simp⟩) hHeld ?_
  refine norm_any' (fun K hK => ?_)
  go_simp
  refine hK _ _ ?_
  clear hK K
  refine wpAnyH_done (by kernel_rfl) ?_ _
  clear hHeld
  go_wp2_with fail
  refine bodyPost_ret (v := .tuple #[hv R1, .bool true]) (res_h (fn := Try.f13) (p := 10) (u := 11) rfl _ _ (w.heap.size + 1 + 1 + 1) R1 rfl HR.out hr1) rfl ?_
  exact HF.out
end Go.Proofs.Ytpjoaimbaboleaa
