/- ProtectKeys, the walk (the secret is a name). -/
import Derived.Test.YtdklkofnekacdaaKm
namespace Go.Proofs.Ytdklkofnekacdaa
open Go.RowKit Go.Shelf Go.Lib
set_option linter.unusedVariables false

set_option maxRecDepth 100000 in
set_option maxHeartbeats 2000000 in
theorem keys_walk_in (o o2 : Option Addr) (cp c2 n n2 : Nat) (num : Int) (w : World) (LA LB : Nat → List Tm) (LC LD : List Tm) (KI KN : Nat → List UInt8) (KM T : List UInt8) (eI eN eM eT : Int) (hLA : LA 0 = frs 3)
    (k : Nat) (hk : k < 3) (hnum : num = (k : Int)) (hC : ∀ V R, Cs w V R o n cp o2 n2 c2 (nameL (1 + k)) LA LB LC LD KI KN KM T eI eN eM eT) :
    Calls Try.prog 3 #[.slice o n cp, .int .i64 num, .slice o2 n2 c2] w fun e w' => e = .returned (.bool true) ∧ Below w.heap.size w w' := by
  have HBO : Aside (Calls Try.prog 5 #[.int .i64 3] w fun e w' => ∃ V R, e = .returned (.tuple #[.pointer (some ⟨V, 0, none⟩), .pointer (some ⟨R, 0, none⟩), .bool true]) ∧ Rs w w' V (frs 3) R (frs 3)) := both_c w 3 (by omega)
  have HCC : Aside (∀ V R, Cs w V R o n cp o2 n2 c2 (nameL (1 + k)) LA LB LC LD KI KN KM T eI eN eM eT) := hC
  have HLA : Aside _ := hLA
  have HBD : Aside _ := bd29
  have hs1 : s1.length = 16 := rfl
  have HNM : Aside (∀ X, Calls Try.prog 7 #[.int .i64 (1 + (k : Int))] X fun e w' => e = .returned (hv (nameL (1 + k))) ∧ Below X.heap.size X w') := fun X => by
    have := rname_c (1 + k) (by omega) X
    rw [show ((1 + k : Nat) : Int) = 1 + (k : Int) by omega] at this
    exact this
  have hsl := nameL_len (1 + k)
  subst hnum
  have g0 : (0 : Int) ≤ (k : Int) := by omega
  have g1 : (k : Int) < 3 := by omega
  have g0' : decide ((0 : Int) ≤ (k : Int)) = true := by simp
  have g1' : decide ((k : Int) < 3) = true := by simpa using g1
  have gn : k < 3 := hk
  have gn' : decide (k < 3) = true := by simpa using hk
  have gw : IntKind.i64.wrap (1 + (k : Int)) = 1 + (k : Int) := by rw [IntKind.wrap_i64]; omega
  clear hk hC hLA
  generalize nameL (1 + k) = s at *
  generalize s1 = H0 at *
  as_aux_lemma =>
  go_enter Try.func3, Try.ntmps3
  go_wp2_with fail
  refine Calls.mono HBO.out ?_
  rintro e W1 ⟨V, R, rfl, hrs⟩
  have HA : Aside (Rs w W1 V (LA 0) R (LA 0)) := by rw [HLA.out]; exact hrs
  have HC : Aside _ := HCC.out V R
  clear hrs HBO HLA HCC
  as_aux_lemma =>
  go_wp2_with fail
  refine Calls.mono (lnames_c W1) ?_
  rintro e W1' ⟨rfl, rfl⟩
  as_aux_lemma =>
  go_wp2_with (first | (refine wb29 rfl _ rfl rfl H0 HBD.out ?_) | (refine st28 rfl (.tmp 10) (.tmp 36) rfl W1'.heap.size H0 rfl rfl z16 (heap_alloc_new W1' _) hs1 rfl (Hid.out ?_)))
  rw [hz28]
  have X10 : Aside _ := (nboxT W1' 29 z16 H0).1
  have HA2 : Aside (Rs w ((W1'.alloc (.cells (hl z16).toArray 29)).setRow W1'.heap.size (hl H0).toArray) V (LA 0) R (LA 0)) := HA.out.go (nboxT W1' 29 z16 H0).2
  have b10 : w.heap.size ≤ W1'.heap.size := HA.out.bel.size
  clear HA HBD
  generalize (W1'.alloc (.cells (hl z16).toArray 29)).setRow W1'.heap.size (hl H0).toArray = W2 at *
  generalize W1'.heap.size = B10 at *
  as_aux_lemma =>
  refine mkHid ?_
  go_wp2_with fail
  refine Calls.mono (HNM.out W2) ?_
  rintro e W3 ⟨rfl, hb⟩
  have X10' : Aside _ := heap_bel X10.out hb
  have XS : Aside _ := setRow_heap W3 B10 _ (hl s).toArray 29 (0, 0) X10'.out
  have HA3 : Aside (Rs w (W3.setRow B10 (hl s).toArray) V (LA 0) R (LA 0)) := (HA2.out.go hb).boxed X10'.out (by decide) b10 _
  clear hb X10 HA2 HNM
  as_aux_lemma =>
  go_wp2_with (refine st28 rfl (.tmp 10) (.tmp 45) rfl B10 s rfl rfl H0 X10'.out hsl hs1 (Hid.out ?_))
  clear X10'
  generalize W3.setRow B10 (hl s).toArray = W4 at *
  as_aux_lemma =>
  refine mkHid ?_
  have hs1 := hsl
  go_wp2_with fail
  have HAL : Aside (Rs w (W4.alloc (.cells #[.bool false, .bool true] 4)) V (LA 0) R (LA 0)) := HA3.out.go (bel1 W4 _)
  have XSL : Aside _ := heap_bel XS.out (bel1 W4 (.cells #[.bool false, .bool true] 4))
  have XBL : Aside _ := heap_alloc_new W4 (.cells #[.bool false, .bool true] 4)
  clear HA3 XS
  generalize W4.alloc (.cells #[.bool false, .bool true] 4) = W5 at *
  generalize W4.heap.size = Bb at *
  as_aux_lemma =>
  go_loopg [48] 3 (fun kx s48 wr => ∃ j : Nat, s48 = .int .i64 (j : Int) ∧ j ≤ 2 ∧ 2 - j ≤ kx ∧ Aside (Rs w wr V (LA j) R (LA j) ∧ wr.heap[B10]? = some (.cells (hl s).toArray 29 (0, 0)) ∧ wr.heap[Bb]? = some (.cells #[.bool false, .bool true] 4 (0, 0))))
  case atStart => exact ⟨0, rfl, by omega, by omega, HAL.out, XSL.out, XBL.out⟩
  case round =>
    obtain ⟨j, rfl, hj, hg, HQ⟩ := hrel
    clear HAL XSL XBL
    have X10 : Aside _ := HQ.out.2.1
    have XB : Aside _ := HQ.out.2.2
    have HA : Aside _ := HQ.out.1
    clear HQ
    by_cases hlt : j < 2
    · skip
      have i1 : (j : Int) < 2 := by omega
      have i1' : decide ((j : Int) < 2) = true := by simpa using i1
      have i2' : decide (j < 2) = true := by simpa using hlt
      have i0 : (0 : Int) ≤ (j : Int) := by omega
      have iw : IntKind.i64.wrap ((j : Int) + 1) = ((j + 1 : Nat) : Int) := by rw [IntKind.wrap_i64]; omega
      have cB : wr.cell? ⟨Bb, j, none⟩ = some (.bool (decide (j = 1))) := by
        rw [cell_row XB.out]
        rcases (show j = 0 ∨ j = 1 by omega) with rfl | rfl <;> rfl
      have HI : Aside _ := HC.out.hI j hlt
      have HJ : Aside _ := HC.out.hJ j hlt
      have HN : Aside _ := HC.out.hN j hlt
      have HM : Aside _ := HC.out.hM j hlt
      have kI : Aside (K3 (KI j)) := HC.out.kI j hlt
      have kN : Aside (K3 (KN j)) := HC.out.kN j hlt
      generalize decide (j = 1) = bj at cB HI HJ
      generalize KI j = K1 at HI HJ HN HM kI
      generalize KN j = K2 at HN HM kN
      have l1 := kI.out.len
      have l2 := kN.out.len
      have m33 : (Try.prog.info? 33).map (·.size) = some (hl K1).length := hi33.trans (by simp [l1])
      have m38 : (Try.prog.info? 38).map (·.size) = some (hl K1).length := hi38.trans (by simp [l1])
      have n33 : (Try.prog.info? 33).map (·.size) = some (hl K2).length := hi33.trans (by simp [l2])
      have n38 : (Try.prog.info? 38).map (·.size) = some (hl K2).length := hi38.trans (by simp [l2])
      have hu33 := u33
      have hu38 := u38
      as_aux_lemma =>
      go_wp2_with fail
      refine Calls.mono (HI.out _ HA.out) ?_
      rintro e W6 ⟨rfl, ha, hq⟩
      have HA' : Aside (Rs w W6 V (LB j) R (LA j)) := ha
      have X10' : Aside _ := hq _ _ _ _ X10.out (by decide)
      have XB' : Aside _ := hq _ _ _ _ XB.out (by decide)
      clear HA ha hq X10 XB
      have HA : Aside (Rs w W6 V (LB j) R (LA j)) := HA'.out
      have X10 : Aside _ := X10'.out
      have XB : Aside _ := XB'.out
      clear HA' X10' XB'
      as_aux_lemma =>
      go_wp2_with (refine st33 rfl (.tmp 13) (.tmp 57) rfl W6.heap.size K1 rfl rfl z48 (heap_alloc_new W6 _) l1 rfl (Hid.out ?_))
      rw [hz33]
      have HBn := (nboxT W6 33 z48 K1).2
      have X13' : Aside _ := (nboxT W6 33 z48 K1).1
      have HA' : Aside (Rs w ((W6.alloc (.cells (hl z48).toArray 33)).setRow W6.heap.size (hl K1).toArray) V (LB j) R (LA j)) := HA.out.go HBn
      have b13 : w.heap.size ≤ W6.heap.size := HA.out.bel.size
      have X10' : Aside _ := heap_bel X10.out HBn
      have XB' : Aside _ := heap_bel XB.out HBn
      clear HA HBn X10 XB
      generalize (W6.alloc (.cells (hl z48).toArray 33)).setRow W6.heap.size (hl K1).toArray = W7 at *
      generalize W6.heap.size = B13 at *
      have HA : Aside (Rs w W7 V (LB j) R (LA j)) := HA'.out
      have X10 : Aside _ := X10'.out
      have XB : Aside _ := XB'.out
      have X13 : Aside _ := X13'.out
      clear HA' X10' XB' X13'
      as_aux_lemma =>
      refine mkHid ?_
      go_wp2_with fail
      refine Calls.mono (HJ.out _ HA.out) ?_
      rintro e W8 ⟨rfl, ha, hq⟩
      have HA' : Aside (Rs w W8 V (LB j) R (LB j)) := ha
      have X10' : Aside _ := hq _ _ _ _ X10.out (by decide)
      have XB' : Aside _ := hq _ _ _ _ XB.out (by decide)
      have X13' : Aside _ := hq _ _ _ _ X13.out (by decide)
      clear HA ha hq X10 XB X13
      have HA : Aside (Rs w W8 V (LB j) R (LB j)) := HA'.out
      have X10 : Aside _ := X10'.out
      have XB : Aside _ := XB'.out
      have X13 : Aside _ := X13'.out
      clear HA' X10' XB' X13'
      as_aux_lemma =>
      go_wp2_with (refine st38 rfl (.tmp 15) (.tmp 64) rfl W8.heap.size K1 rfl rfl z48 (heap_alloc_new W8 _) l1 rfl (Hid.out ?_))
      rw [hz38]
      have HBn := (nboxT W8 38 z48 K1).2
      have X15' : Aside _ := (nboxT W8 38 z48 K1).1
      have HA' : Aside (Rs w ((W8.alloc (.cells (hl z48).toArray 38)).setRow W8.heap.size (hl K1).toArray) V (LB j) R (LB j)) := HA.out.go HBn
      have b15 : w.heap.size ≤ W8.heap.size := HA.out.bel.size
      have X10' : Aside _ := heap_bel X10.out HBn
      have XB' : Aside _ := heap_bel XB.out HBn
      have X13' : Aside _ := heap_bel X13.out HBn
      clear HA HBn X10 XB X13
      generalize (W8.alloc (.cells (hl z48).toArray 38)).setRow W8.heap.size (hl K1).toArray = W9 at *
      generalize W8.heap.size = B15 at *
      have HA : Aside (Rs w W9 V (LB j) R (LB j)) := HA'.out
      have X10 : Aside _ := X10'.out
      have XB : Aside _ := XB'.out
      have X13 : Aside _ := X13'.out
      have X15 : Aside _ := X15'.out
      clear HA' X10' XB' X13' X15'
      as_aux_lemma =>
      refine mkHid ?_
      go_wp2_with fail
      have HAd : Aside (Rs w W9.drew V (LB j) R (LB j)) := HA.out.go (bel_drew W9)
      have X10d : Aside _ := heap_bel X10.out (bel_drew W9)
      have XBd : Aside _ := heap_bel XB.out (bel_drew W9)
      have X13d : Aside _ := heap_bel X13.out (bel_drew W9)
      have X15d : Aside _ := heap_bel X15.out (bel_drew W9)
      clear HA X10 XB X13 X15
      have HKY : Aside (∀ X, Calls Try.prog 10 #[hv K1] X fun e w' => e = .returned (hv K1) ∧ Below X.heap.size X w') := fun X => kI.out.keys X
      
      refine wp_region_held_drew (S := fun X => X.rangeAt B13 0 (hl K1) ∧ X.rangeAt B15 0 (hl K1)) (by kernel_rfl) ⟨boxT X13d.out, boxT X15d.out⟩ (fun hHeld => ?_)
      generalize W9.drew = W9d at *
      as_aux_lemma =>
      refine wpAnyH_take (i := 0) (v := hv K1) rfl (by kernel_rfl) (by kernel_rfl) (by kernel_rfl) (fun _ _ _ h => h) (yieldsIf_load_mid (by rfl) 33 _ rfl B13 0 rfl (hl K1) _ (fun X h => h.1) hu33 rfl m33) hHeld ?_
      refine norm_any' (fun K hK => ?_)
      go_simp
      refine hK _ _ ?_
      clear hK K
      refine wpAnyH_take (i := 2) (v := hv K1) rfl (by kernel_rfl) (by kernel_rfl) (by kernel_rfl) (fun _ _ _ h => h) (yieldsIf_load_mid (by rfl) 38 _ rfl B15 0 rfl (hl K1) _ (fun X h => h.2) hu38 rfl m38) hHeld ?_
      refine norm_any' (fun K hK => ?_)
      go_simp
      refine hK _ _ ?_
      clear hK K
      refine wpAnyH_ready (rs := [1]) (by kernel_rfl) (by simp) (AllReadyH.cons rfl (fun K hK => ?_) AllReadyH.nil)
      go_simp
      refine Calls.mono (HKY.out W9d) ?_
      rintro e W10 ⟨rfl, hz⟩
      have HA : Aside (Rs w W10 V (LB j) R (LB j)) := HAd.out.go hz
      have X10 : Aside _ := heap_bel X10d.out hz
      have XB : Aside _ := heap_bel XBd.out hz
      have X13 : Aside _ := heap_bel X13d.out hz
      have X15 : Aside _ := heap_bel X15d.out hz
      clear hz HAd HKY X10d XBd X13d X15d
      refine hK.out _ _ ⟨boxT X13.out, boxT X15.out⟩ (fun hHeld => ?_)
      clear hK K
      refine norm_any' (fun K hK => ?_)
      go_simp
      refine hK _ _ ?_
      clear hK K
      refine wpAnyH_take (i := 3) (v := .bool false) rfl (by kernel_rfl) (by kernel_rfl) (by kernel_rfl) (fun _ _ _ h => h) (yl_bin' (by rfl) .neq 38 38 _ _ rfl (hl K1).toArray (hl K1).toArray rfl rfl hm38 _ kI.out.neq) hHeld ?_
      refine norm_any' (fun K hK => ?_)
      go_simp
      refine hK _ _ ?_
      clear hK K
      refine wpAnyH_take (i := 4) (v := .bool false) rfl (by kernel_rfl) (by kernel_rfl) (by kernel_rfl) (fun _ _ _ h => h) (Or.inl ⟨by rfl, by intro w hs; go_simp⟩) hHeld ?_
      refine norm_any' (fun K hK => ?_)
      go_simp
      refine hK _ _ ?_
      clear hK K
      refine wpAnyH_take (i := 5) (v := .int .i64 eI) rfl (by kernel_rfl) (by kernel_rfl) (by kernel_rfl) (fun _ _ _ h => h) (Or.inl ⟨by rfl, by intro w hs; go_simp⟩) hHeld ?_
      refine norm_any' (fun K hK => ?_)
      go_simp
      refine hK _ _ ?_
      clear hK K
      refine wpAnyH_take (i := 6) (v := .int .i64 eI) rfl (by kernel_rfl) (by kernel_rfl) (by kernel_rfl) (fun _ _ _ h => h) (Or.inl ⟨by rfl, by intro w hs; go_simp⟩) hHeld ?_
      refine norm_any' (fun K hK => ?_)
      go_simp
      refine hK _ _ ?_
      clear hK K
      refine wpAnyH_take (i := 7) (v := .bool false) rfl (by kernel_rfl) (by kernel_rfl) (by kernel_rfl) (fun _ _ _ h => h) (Or.inl ⟨by rfl, by intro w hs; go_simp⟩) hHeld ?_
      refine norm_any' (fun K hK => ?_)
      go_simp
      refine hK _ _ ?_
      clear hK K
      refine wpAnyH_take (i := 8) (v := .bool false) rfl (by kernel_rfl) (by kernel_rfl) (by kernel_rfl) (fun _ _ _ h => h) (Or.inl ⟨by rfl, by intro w hs; go_simp⟩) hHeld ?_
      refine norm_any' (fun K hK => ?_)
      go_simp
      refine hK _ _ ?_
      clear hK K
      refine wpAnyH_done (by kernel_rfl) ?_ _
      clear hHeld
      as_aux_lemma =>
      go_wp2_with (refine ld33 rfl (.tmp 13) rfl B13 rfl K1 X13.out l1 ?_)
      refine Calls.mono (HN.out _ HA.out) ?_
      rintro e W11 ⟨rfl, ha, hq⟩
      have HA' : Aside (Rs w W11 V (LA (j + 1)) R (LB j)) := ha
      have X10' : Aside _ := hq _ _ _ _ X10.out (by decide)
      have XB' : Aside _ := hq _ _ _ _ XB.out (by decide)
      have X13' : Aside _ := hq _ _ _ _ X13.out (by decide)
      have X15' : Aside _ := hq _ _ _ _ X15.out (by decide)
      clear HA ha hq X10 XB X13 X15
      have HA : Aside (Rs w W11 V (LA (j + 1)) R (LB j)) := HA'.out
      have X10 : Aside _ := X10'.out
      have XB : Aside _ := XB'.out
      have X13 : Aside _ := X13'.out
      have X15 : Aside _ := X15'.out
      clear HA' X10' XB' X13' X15'
      as_aux_lemma =>
      have XN : Aside _ := setRow_heap W11 B13 _ (hl K2).toArray 33 (0, 0) X13.out
      have HA' : Aside (Rs w (W11.setRow B13 (hl K2).toArray) V (LA (j + 1)) R (LB j)) := HA.out.boxed X13.out (by decide) b13 _
      have X10' : Aside _ := setT X10.out X13.out (by decide) (hl K2).toArray
      have XB' : Aside _ := setT XB.out X13.out (by decide) (hl K2).toArray
      have X15' : Aside _ := setT X15.out X13.out (by decide) (hl K2).toArray
      go_wp2_with (refine st33 rfl (.tmp 13) (.tmp 79) rfl B13 K2 rfl rfl K1 X13.out l2 l1 (Hid.out ?_))
      clear HA X13 X10 XB X15
      generalize W11.setRow B13 (hl K2).toArray = W12 at *
      have HA : Aside (Rs w W12 V (LA (j + 1)) R (LB j)) := HA'.out
      have X13 : Aside _ := XN.out
      have X10 : Aside _ := X10'.out
      have XB : Aside _ := XB'.out
      have X15 : Aside _ := X15'.out
      clear HA' XN X10' XB' X15'
      as_aux_lemma =>
      refine mkHid ?_
      go_wp2_with (refine ld38 rfl (.tmp 15) rfl B15 rfl K1 X15.out l1 ?_)
      refine Calls.mono (HM.out _ HA.out) ?_
      rintro e W13 ⟨rfl, ha, hq⟩
      have HA' : Aside (Rs w W13 V (LA (j + 1)) R (LA (j + 1))) := ha
      have X10' : Aside _ := hq _ _ _ _ X10.out (by decide)
      have XB' : Aside _ := hq _ _ _ _ XB.out (by decide)
      have X13' : Aside _ := hq _ _ _ _ X13.out (by decide)
      have X15' : Aside _ := hq _ _ _ _ X15.out (by decide)
      clear HA ha hq X10 XB X13 X15
      have HA : Aside (Rs w W13 V (LA (j + 1)) R (LA (j + 1))) := HA'.out
      have X10 : Aside _ := X10'.out
      have XB : Aside _ := XB'.out
      have X13 : Aside _ := X13'.out
      have X15 : Aside _ := X15'.out
      clear HA' X10' XB' X13' X15'
      as_aux_lemma =>
      have XN : Aside _ := setRow_heap W13 B15 _ (hl K2).toArray 38 (0, 0) X15.out
      have HA' : Aside (Rs w (W13.setRow B15 (hl K2).toArray) V (LA (j + 1)) R (LA (j + 1))) := HA.out.boxed X15.out (by decide) b15 _
      have X10' : Aside _ := setT X10.out X15.out (by decide) (hl K2).toArray
      have XB' : Aside _ := setT XB.out X15.out (by decide) (hl K2).toArray
      have X13' : Aside _ := setT X13.out X15.out (by decide) (hl K2).toArray
      go_wp2_with (refine st38 rfl (.tmp 15) (.tmp 85) rfl B15 K2 rfl rfl K1 X15.out l2 l1 (Hid.out ?_))
      clear HA X15 X10 XB X13
      generalize W13.setRow B15 (hl K2).toArray = W14 at *
      have HA : Aside (Rs w W14 V (LA (j + 1)) R (LA (j + 1))) := HA'.out
      have X15 : Aside _ := XN.out
      have X10 : Aside _ := X10'.out
      have XB : Aside _ := XB'.out
      have X13 : Aside _ := X13'.out
      clear HA' XN X10' XB' X13'
      as_aux_lemma =>
      refine mkHid ?_
      go_wp2_with fail
      have HAd : Aside (Rs w W14.drew V (LA (j + 1)) R (LA (j + 1))) := HA.out.go (bel_drew W14)
      have X10d : Aside _ := heap_bel X10.out (bel_drew W14)
      have XBd : Aside _ := heap_bel XB.out (bel_drew W14)
      have X13d : Aside _ := heap_bel X13.out (bel_drew W14)
      have X15d : Aside _ := heap_bel X15.out (bel_drew W14)
      clear HA X10 XB X13 X15
      have HKY : Aside (∀ X, Calls Try.prog 10 #[hv K2] X fun e w' => e = .returned (hv K2) ∧ Below X.heap.size X w') := fun X => kN.out.keys X
      
      refine wp_region_held_drew (S := fun X => X.rangeAt B13 0 (hl K2) ∧ X.rangeAt B15 0 (hl K2)) (by kernel_rfl) ⟨boxT X13d.out, boxT X15d.out⟩ (fun hHeld => ?_)
      generalize W14.drew = W14d at *
      as_aux_lemma =>
      refine wpAnyH_take (i := 0) (v := hv K2) rfl (by kernel_rfl) (by kernel_rfl) (by kernel_rfl) (fun _ _ _ h => h) (yieldsIf_load_mid (by rfl) 33 _ rfl B13 0 rfl (hl K2) _ (fun X h => h.1) hu33 rfl n33) hHeld ?_
      refine norm_any' (fun K hK => ?_)
      go_simp
      refine hK _ _ ?_
      clear hK K
      refine wpAnyH_take (i := 2) (v := hv K2) rfl (by kernel_rfl) (by kernel_rfl) (by kernel_rfl) (fun _ _ _ h => h) (yieldsIf_load_mid (by rfl) 38 _ rfl B15 0 rfl (hl K2) _ (fun X h => h.2) hu38 rfl n38) hHeld ?_
      refine norm_any' (fun K hK => ?_)
      go_simp
      refine hK _ _ ?_
      clear hK K
      refine wpAnyH_ready (rs := [1]) (by kernel_rfl) (by simp) (AllReadyH.cons rfl (fun K hK => ?_) AllReadyH.nil)
      go_simp
      refine Calls.mono (HKY.out W14d) ?_
      rintro e W15 ⟨rfl, hz⟩
      have HA : Aside (Rs w W15 V (LA (j + 1)) R (LA (j + 1))) := HAd.out.go hz
      have X10 : Aside _ := heap_bel X10d.out hz
      have XB : Aside _ := heap_bel XBd.out hz
      have X13 : Aside _ := heap_bel X13d.out hz
      have X15 : Aside _ := heap_bel X15d.out hz
      clear hz HAd HKY X10d XBd X13d X15d
      refine hK.out _ _ ⟨boxT X13.out, boxT X15.out⟩ (fun hHeld => ?_)
      clear hK K
      refine norm_any' (fun K hK => ?_)
      go_simp
      refine hK _ _ ?_
      clear hK K
      refine wpAnyH_take (i := 3) (v := .bool false) rfl (by kernel_rfl) (by kernel_rfl) (by kernel_rfl) (fun _ _ _ h => h) (yl_bin' (by rfl) .neq 38 38 _ _ rfl (hl K2).toArray (hl K2).toArray rfl rfl hm38 _ kN.out.neq) hHeld ?_
      refine norm_any' (fun K hK => ?_)
      go_simp
      refine hK _ _ ?_
      clear hK K
      refine wpAnyH_take (i := 4) (v := .bool false) rfl (by kernel_rfl) (by kernel_rfl) (by kernel_rfl) (fun _ _ _ h => h) (Or.inl ⟨by rfl, by intro w hs; go_simp⟩) hHeld ?_
      refine norm_any' (fun K hK => ?_)
      go_simp
      refine hK _ _ ?_
      clear hK K
      refine wpAnyH_take (i := 5) (v := .int .i64 eN) rfl (by kernel_rfl) (by kernel_rfl) (by kernel_rfl) (fun _ _ _ h => h) (Or.inl ⟨by rfl, by intro w hs; go_simp⟩) hHeld ?_
      refine norm_any' (fun K hK => ?_)
      go_simp
      refine hK _ _ ?_
      clear hK K
      refine wpAnyH_take (i := 6) (v := .int .i64 eN) rfl (by kernel_rfl) (by kernel_rfl) (by kernel_rfl) (fun _ _ _ h => h) (Or.inl ⟨by rfl, by intro w hs; go_simp⟩) hHeld ?_
      refine norm_any' (fun K hK => ?_)
      go_simp
      refine hK _ _ ?_
      clear hK K
      refine wpAnyH_take (i := 7) (v := .bool false) rfl (by kernel_rfl) (by kernel_rfl) (by kernel_rfl) (fun _ _ _ h => h) (Or.inl ⟨by rfl, by intro w hs; go_simp⟩) hHeld ?_
      refine norm_any' (fun K hK => ?_)
      go_simp
      refine hK _ _ ?_
      clear hK K
      refine wpAnyH_take (i := 8) (v := .bool false) rfl (by kernel_rfl) (by kernel_rfl) (by kernel_rfl) (fun _ _ _ h => h) (Or.inl ⟨by rfl, by intro w hs; go_simp⟩) hHeld ?_
      refine norm_any' (fun K hK => ?_)
      go_simp
      refine hK _ _ ?_
      clear hK K
      refine wpAnyH_done (by kernel_rfl) ?_ _
      clear hHeld
      as_aux_lemma =>
      go_wp2_with fail
      go_roundg (2 - (j + 1))
      case measure => omega
      case rel => exact ⟨j + 1, rfl, by omega, Nat.le_refl _, HA.out, X10.out, XB.out⟩
    · as_aux_lemma =>
      obtain rfl : j = 2 := by omega
      clear XB
      have MP : Aside _ := HC.out.mP
      have MR : Aside _ := HC.out.mR
      have TP : Aside _ := HC.out.tP
      have TR : Aside _ := HC.out.tR
      have kM : Aside (K3 KM) := HC.out.kM
      have kT := HC.out.kT
      clear HC
      have lM := kM.out.len
      have m33 : (Try.prog.info? 33).map (·.size) = some (hl KM).length := hi33.trans (by simp [lM])
      have m38 : (Try.prog.info? 38).map (·.size) = some (hl KM).length := hi38.trans (by simp [lM])
      have m29 : (Try.prog.info? 29).map (·.size) = some (hl T).length := hi28.trans (by simp [kT])
      have m28 : (Try.prog.info? 28).map (·.size) = some (hl T).length := hi28r.trans (by simp [kT])
      have hu29 := hu28
      have hu28' := hu28r
      have hu33 := u33
      have hu38 := u38
      have HTT : Aside (∀ X, (binOp .eql 29 (.agg (hl T).toArray) (.agg (hl T).toArray)).run Try.prog X = .ok (.bool true) X) := fun X => by
        have := eql28 T T kT kT X
        rw [beq_self_eq_true] at this
        exact this
      as_aux_lemma =>
      go_wp2_with (refine ld28 rfl (.tmp 10) rfl B10 rfl s X10.out hs1 ?_)
      refine Calls.mono (MP.out _ HA.out) ?_
      rintro e W6 ⟨rfl, ha, hq⟩
      have HA' : Aside (Rs w W6 V LC R (LA 2)) := ha
      have X10' : Aside _ := hq _ _ _ _ X10.out (by decide)
      clear HA ha hq X10
      have HA : Aside (Rs w W6 V LC R (LA 2)) := HA'.out
      have X10 : Aside _ := X10'.out
      clear HA' X10'
      as_aux_lemma =>
      go_wp2_with (refine st33 rfl (.tmp 17) (.tmp 101) rfl W6.heap.size KM rfl rfl z48 (heap_alloc_new W6 _) lM rfl (Hid.out ?_))
      rw [hz33]
      have HBn := (nboxT W6 33 z48 KM).2
      have X17' : Aside _ := (nboxT W6 33 z48 KM).1
      have HA' : Aside (Rs w ((W6.alloc (.cells (hl z48).toArray 33)).setRow W6.heap.size (hl KM).toArray) V LC R (LA 2)) := HA.out.go HBn
      have b17 : w.heap.size ≤ W6.heap.size := HA.out.bel.size
      have X10' : Aside _ := heap_bel X10.out HBn
      clear HA HBn X10
      generalize (W6.alloc (.cells (hl z48).toArray 33)).setRow W6.heap.size (hl KM).toArray = W7 at *
      generalize W6.heap.size = B17 at *
      have HA : Aside (Rs w W7 V LC R (LA 2)) := HA'.out
      have X10 : Aside _ := X10'.out
      have X17 : Aside _ := X17'.out
      clear HA' X10' X17'
      as_aux_lemma =>
      refine mkHid ?_
      go_wp2_with (refine ld28 rfl (.tmp 10) rfl B10 rfl s X10.out hs1 ?_)
      refine Calls.mono (MR.out _ HA.out) ?_
      rintro e W8 ⟨rfl, ha, hq⟩
      have HA' : Aside (Rs w W8 V LC R LC) := ha
      have X10' : Aside _ := hq _ _ _ _ X10.out (by decide)
      have X17' : Aside _ := hq _ _ _ _ X17.out (by decide)
      clear HA ha hq X10 X17
      have HA : Aside (Rs w W8 V LC R LC) := HA'.out
      have X10 : Aside _ := X10'.out
      have X17 : Aside _ := X17'.out
      clear HA' X10' X17'
      as_aux_lemma =>
      clear X10
      go_wp2_with (refine st38 rfl (.tmp 19) (.tmp 107) rfl W8.heap.size KM rfl rfl z48 (heap_alloc_new W8 _) lM rfl (Hid.out ?_))
      rw [hz38]
      have HBn := (nboxT W8 38 z48 KM).2
      have X19' : Aside _ := (nboxT W8 38 z48 KM).1
      have HA' : Aside (Rs w ((W8.alloc (.cells (hl z48).toArray 38)).setRow W8.heap.size (hl KM).toArray) V LC R LC) := HA.out.go HBn
      have b19 : w.heap.size ≤ W8.heap.size := HA.out.bel.size
      have X17' : Aside _ := heap_bel X17.out HBn
      clear HA HBn X17
      generalize (W8.alloc (.cells (hl z48).toArray 38)).setRow W8.heap.size (hl KM).toArray = W9 at *
      generalize W8.heap.size = B19 at *
      have HA : Aside (Rs w W9 V LC R LC) := HA'.out
      have X17 : Aside _ := X17'.out
      have X19 : Aside _ := X19'.out
      clear HA' X17' X19'
      as_aux_lemma =>
      refine mkHid ?_
      go_wp2_with fail
      refine Calls.mono (TP.out _ HA.out) ?_
      rintro e W10 ⟨rfl, ha, hq⟩
      have HA' : Aside (Rs w W10 V LD R LC) := ha
      have X17' : Aside _ := hq _ _ _ _ X17.out (by decide)
      have X19' : Aside _ := hq _ _ _ _ X19.out (by decide)
      clear HA ha hq X17 X19
      have HA : Aside (Rs w W10 V LD R LC) := HA'.out
      have X17 : Aside _ := X17'.out
      have X19 : Aside _ := X19'.out
      clear HA' X17' X19'
      as_aux_lemma =>
      go_wp2_with (refine st28 rfl (.tmp 21) (.tmp 114) rfl W10.heap.size T rfl rfl z16 (heap_alloc_new W10 _) kT rfl (Hid.out ?_))
      rw [hz28]
      have HBn := (nboxT W10 29 z16 T).2
      have X21' : Aside _ := (nboxT W10 29 z16 T).1
      have HA' : Aside (Rs w ((W10.alloc (.cells (hl z16).toArray 29)).setRow W10.heap.size (hl T).toArray) V LD R LC) := HA.out.go HBn
      have b21 : w.heap.size ≤ W10.heap.size := HA.out.bel.size
      have X17' : Aside _ := heap_bel X17.out HBn
      have X19' : Aside _ := heap_bel X19.out HBn
      clear HA HBn X17 X19
      generalize (W10.alloc (.cells (hl z16).toArray 29)).setRow W10.heap.size (hl T).toArray = W11 at *
      generalize W10.heap.size = B21 at *
      have HA : Aside (Rs w W11 V LD R LC) := HA'.out
      have X17 : Aside _ := X17'.out
      have X19 : Aside _ := X19'.out
      have X21 : Aside _ := X21'.out
      clear HA' X17' X19' X21'
      as_aux_lemma =>
      refine mkHid ?_
      go_wp2_with fail
      refine Calls.mono (TR.out _ HA.out) ?_
      rintro e W12 ⟨rfl, ha, hq⟩
      have HA' : Aside (Rs w W12 V LD R LD) := ha
      have X17' : Aside _ := hq _ _ _ _ X17.out (by decide)
      have X19' : Aside _ := hq _ _ _ _ X19.out (by decide)
      have X21' : Aside _ := hq _ _ _ _ X21.out (by decide)
      clear HA ha hq X17 X19 X21
      have HA : Aside (Rs w W12 V LD R LD) := HA'.out
      have X17 : Aside _ := X17'.out
      have X19 : Aside _ := X19'.out
      have X21 : Aside _ := X21'.out
      clear HA' X17' X19' X21'
      as_aux_lemma =>
      go_wp2_with (refine str rfl (.tmp 23) (.tmp 121) rfl W12.heap.size T rfl rfl z16 (heap_alloc_new W12 _) kT rfl (Hid.out ?_))
      rw [hz28r]
      have HBn := (nboxT W12 28 z16 T).2
      have X23' : Aside _ := (nboxT W12 28 z16 T).1
      have HA' : Aside (Rs w ((W12.alloc (.cells (hl z16).toArray 28)).setRow W12.heap.size (hl T).toArray) V LD R LD) := HA.out.go HBn
      have b23 : w.heap.size ≤ W12.heap.size := HA.out.bel.size
      have X17' : Aside _ := heap_bel X17.out HBn
      have X19' : Aside _ := heap_bel X19.out HBn
      have X21' : Aside _ := heap_bel X21.out HBn
      clear HA HBn X17 X19 X21
      generalize (W12.alloc (.cells (hl z16).toArray 28)).setRow W12.heap.size (hl T).toArray = W13 at *
      generalize W12.heap.size = B23 at *
      have HA : Aside (Rs w W13 V LD R LD) := HA'.out
      have X17 : Aside _ := X17'.out
      have X19 : Aside _ := X19'.out
      have X21 : Aside _ := X21'.out
      have X23 : Aside _ := X23'.out
      clear HA' X17' X19' X21' X23'
      as_aux_lemma =>
      refine mkHid ?_
      go_wp2_with fail
      have HAd : Aside (Rs w W13.drew V LD R LD) := HA.out.go (bel_drew W13)
      have X17d : Aside _ := heap_bel X17.out (bel_drew W13)
      have X19d : Aside _ := heap_bel X19.out (bel_drew W13)
      have X21d : Aside _ := heap_bel X21.out (bel_drew W13)
      have X23d : Aside _ := heap_bel X23.out (bel_drew W13)
      clear HA X17 X19 X21 X23
      have HKY : Aside (∀ X, Calls Try.prog 10 #[hv KM] X fun e w' => e = .returned (hv KM) ∧ Below X.heap.size X w') := fun X => kM.out.keys X
      
      refine wp_region_held_drew (S := fun X => X.rangeAt B17 0 (hl KM) ∧ X.rangeAt B19 0 (hl KM) ∧ X.rangeAt B21 0 (hl T) ∧ X.rangeAt B23 0 (hl T)) (by kernel_rfl) ⟨boxT X17d.out, boxT X19d.out, boxT X21d.out, boxT X23d.out⟩ (fun hHeld => ?_)
      generalize W13.drew = W13d at *
      as_aux_lemma =>
      refine wpAnyH_take (i := 0) (v := hv KM) rfl (by kernel_rfl) (by kernel_rfl) (by kernel_rfl) (fun _ _ _ h => h) (yieldsIf_load_mid (by rfl) 33 _ rfl B17 0 rfl (hl KM) _ (fun X h => h.1) hu33 rfl m33) hHeld ?_
      refine norm_any' (fun K hK => ?_)
      go_simp
      refine hK _ _ ?_
      clear hK K
      refine wpAnyH_take (i := 2) (v := hv KM) rfl (by kernel_rfl) (by kernel_rfl) (by kernel_rfl) (fun _ _ _ h => h) (yieldsIf_load_mid (by rfl) 38 _ rfl B19 0 rfl (hl KM) _ (fun X h => h.2.1) hu38 rfl m38) hHeld ?_
      refine norm_any' (fun K hK => ?_)
      go_simp
      refine hK _ _ ?_
      clear hK K
      refine wpAnyH_ready (rs := [1]) (by kernel_rfl) (by simp) (AllReadyH.cons rfl (fun K hK => ?_) AllReadyH.nil)
      go_simp
      refine Calls.mono (HKY.out W13d) ?_
      rintro e W14 ⟨rfl, hz⟩
      have HA : Aside (Rs w W14 V LD R LD) := HAd.out.go hz
      have X17 : Aside _ := heap_bel X17d.out hz
      have X19 : Aside _ := heap_bel X19d.out hz
      have X21 : Aside _ := heap_bel X21d.out hz
      have X23 : Aside _ := heap_bel X23d.out hz
      clear hz HAd HKY X17d X19d X21d X23d
      refine hK.out _ _ ⟨boxT X17.out, boxT X19.out, boxT X21.out, boxT X23.out⟩ (fun hHeld => ?_)
      clear hK K
      refine norm_any' (fun K hK => ?_)
      go_simp
      refine hK _ _ ?_
      clear hK K
      refine wpAnyH_take (i := 3) (v := .bool true) rfl (by kernel_rfl) (by kernel_rfl) (by kernel_rfl) (fun _ _ _ h => h) (yl_bin' (by rfl) .eql 38 38 _ _ rfl (hl KM).toArray (hl KM).toArray rfl rfl hm38 _ kM.out.eql) hHeld ?_
      refine norm_any' (fun K hK => ?_)
      go_simp
      refine hK _ _ ?_
      clear hK K
      refine wpAnyH_take (i := 4) (v := .bool true) rfl (by kernel_rfl) (by kernel_rfl) (by kernel_rfl) (fun _ _ _ h => h) (Or.inl ⟨by rfl, by intro w hs; go_simp⟩) hHeld ?_
      refine norm_any' (fun K hK => ?_)
      go_simp
      refine hK _ _ ?_
      clear hK K
      refine wpAnyH_take (i := 5) (v := .int .i64 eM) rfl (by kernel_rfl) (by kernel_rfl) (by kernel_rfl) (fun _ _ _ h => h) (Or.inl ⟨by rfl, by intro w hs; go_simp⟩) hHeld ?_
      refine norm_any' (fun K hK => ?_)
      go_simp
      refine hK _ _ ?_
      clear hK K
      refine wpAnyH_take (i := 6) (v := .int .i64 eM) rfl (by kernel_rfl) (by kernel_rfl) (by kernel_rfl) (fun _ _ _ h => h) (Or.inl ⟨by rfl, by intro w hs; go_simp⟩) hHeld ?_
      refine norm_any' (fun K hK => ?_)
      go_simp
      refine hK _ _ ?_
      clear hK K
      refine wpAnyH_take (i := 7) (v := .bool true) rfl (by kernel_rfl) (by kernel_rfl) (by kernel_rfl) (fun _ _ _ h => h) (Or.inl ⟨by rfl, by intro w hs; go_simp⟩) hHeld ?_
      refine norm_any' (fun K hK => ?_)
      go_simp
      refine hK _ _ ?_
      clear hK K
      refine wpAnyH_take (i := 8) (v := .bool true) rfl (by kernel_rfl) (by kernel_rfl) (by kernel_rfl) (fun _ _ _ h => h) (Or.inl ⟨by rfl, by intro w hs; go_simp⟩) hHeld ?_
      refine norm_any' (fun K hK => ?_)
      go_simp
      refine hK _ _ ?_
      clear hK K
      refine wpAnyH_take (i := 9) (v := .bool true) rfl (by kernel_rfl) (by kernel_rfl) (by kernel_rfl) (fun _ _ _ h => h) (Or.inl ⟨by rfl, by intro w hs; go_simp⟩) hHeld ?_
      refine norm_any' (fun K hK => ?_)
      go_simp
      refine hK _ _ ?_
      clear hK K
      refine wpAnyH_take (i := 10) (v := hv T) rfl (by kernel_rfl) (by kernel_rfl) (by kernel_rfl) (fun _ _ _ h => h) (yieldsIf_load_mid (by rfl) 29 _ rfl B21 0 rfl (hl T) _ (fun X h => h.2.2.1) hu29 rfl m29) hHeld ?_
      refine norm_any' (fun K hK => ?_)
      go_simp
      refine hK _ _ ?_
      clear hK K
      refine wpAnyH_take (i := 11) (v := hv T) rfl (by kernel_rfl) (by kernel_rfl) (by kernel_rfl) (fun _ _ _ h => h) (yieldsIf_load_mid (by rfl) 28 _ rfl B23 0 rfl (hl T) _ (fun X h => h.2.2.2) hu28' rfl m28) hHeld ?_
      refine norm_any' (fun K hK => ?_)
      go_simp
      refine hK _ _ ?_
      clear hK K
      refine wpAnyH_take (i := 12) (v := .bool true) rfl (by kernel_rfl) (by kernel_rfl) (by kernel_rfl) (fun _ _ _ h => h) (yl_bin' (by rfl) .eql 29 29 _ _ rfl (hl T).toArray (hl T).toArray rfl rfl hm29' _ HTT.out) hHeld ?_
      refine norm_any' (fun K hK => ?_)
      go_simp
      refine hK _ _ ?_
      clear hK K
      refine wpAnyH_take (i := 13) (v := .bool true) rfl (by kernel_rfl) (by kernel_rfl) (by kernel_rfl) (fun _ _ _ h => h) (Or.inl ⟨by rfl, by intro w hs; go_simp⟩) hHeld ?_
      refine norm_any' (fun K hK => ?_)
      go_simp
      refine hK _ _ ?_
      clear hK K
      refine wpAnyH_take (i := 14) (v := .bool true) rfl (by kernel_rfl) (by kernel_rfl) (by kernel_rfl) (fun _ _ _ h => h) (Or.inl ⟨by rfl, by intro w hs; go_simp⟩) hHeld ?_
      refine norm_any' (fun K hK => ?_)
      go_simp
      refine hK _ _ ?_
      clear hK K
      refine wpAnyH_take (i := 15) (v := .int .i64 eT) rfl (by kernel_rfl) (by kernel_rfl) (by kernel_rfl) (fun _ _ _ h => h) (Or.inl ⟨by rfl, by intro w hs; go_simp⟩) hHeld ?_
      refine norm_any' (fun K hK => ?_)
      go_simp
      refine hK _ _ ?_
      clear hK K
      refine wpAnyH_take (i := 16) (v := .int .i64 eT) rfl (by kernel_rfl) (by kernel_rfl) (by kernel_rfl) (fun _ _ _ h => h) (Or.inl ⟨by rfl, by intro w hs; go_simp⟩) hHeld ?_
      refine norm_any' (fun K hK => ?_)
      go_simp
      refine hK _ _ ?_
      clear hK K
      refine wpAnyH_take (i := 17) (v := .bool true) rfl (by kernel_rfl) (by kernel_rfl) (by kernel_rfl) (fun _ _ _ h => h) (Or.inl ⟨by rfl, by intro w hs; go_simp⟩) hHeld ?_
      refine norm_any' (fun K hK => ?_)
      go_simp
      refine hK _ _ ?_
      clear hK K
      refine wpAnyH_take (i := 18) (v := .bool true) rfl (by kernel_rfl) (by kernel_rfl) (by kernel_rfl) (fun _ _ _ h => h) (Or.inl ⟨by rfl, by intro w hs; go_simp⟩) hHeld ?_
      refine norm_any' (fun K hK => ?_)
      go_simp
      refine hK _ _ ?_
      clear hK K
      refine wpAnyH_take (i := 19) (v := .bool true) rfl (by kernel_rfl) (by kernel_rfl) (by kernel_rfl) (fun _ _ _ h => h) (Or.inl ⟨by rfl, by intro w hs; go_simp⟩) hHeld ?_
      refine norm_any' (fun K hK => ?_)
      go_simp
      refine hK _ _ ?_
      clear hK K
      refine wpAnyH_done (by kernel_rfl) ?_ _
      clear hHeld
      as_aux_lemma =>
      go_wp2_with fail
      go_ret
      exact ⟨rfl, HA.out.bel⟩
end Go.Proofs.Ytdklkofnekacdaa
