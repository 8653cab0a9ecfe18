/- SecretsKept, the walk. -/
import Derived.Test.YtpjoaimbaboleaaKu
namespace Go.Proofs.Ytpjoaimbaboleaa
open Go.RowKit Go.Shelf Go.Lib
set_option linter.unusedVariables false

set_option maxRecDepth 100000 in
set_option maxHeartbeats 8000000 in
theorem kept_walk (oa ob : Option Addr) (ca cb : Nat) (la lb : List UInt8) (w : World) (hA : Sl w oa la) (hB : Sl w ob lb) (hla : la.length ≤ 140737488351232) (hlb : lb.length ≤ 140737488351232) (hca : la.length ≤ ca) (hcb : lb.length ≤ cb) (hma : ca ≤ 9223372036854775807) (hmb : cb ≤ 9223372036854775807) : Calls Try.prog 5 #[.slice oa la.length ca, .slice ob lb.length cb] w fun e w' => e = .returned (.bool true) ∧ Below w.heap.size w w' := by
  have HSA : Aside (Sl w oa la) := hA
  have HLA : Aside (la.length ≤ 140737488351300) := by show _ ≤ _; omega
  have HYA : Aside (∀ X, Below w.heap.size w X → By w.heap.size X oa ca la) := fun X hX => by_old hA hla hca hma hX
  have HYB : Aside (∀ X, Below w.heap.size w X → By w.heap.size X ob cb lb) := fun X hX => by_old hB hlb hcb hmb hX
  clear hA hB hla hlb hca hcb hma hmb
  have mixed : Try.prog.follows Departure.mixedOrders = true := by kernel_rfl
  have nl : ∀ k, (nameL k).length = 16 := nameL_len
  go_enter Try.func5, Try.ntmps5
  go_wp2_with fail
  refine Calls.mono (new_c w) ?_
  rintro e W1 ⟨V, G, c, M, rfl, hva, hb1⟩
  have HA : Aside (Ag w W1 V [rt]) := ⟨hb1, G, c, M, hva⟩
  clear hva hb1
  go_wp2_with fail
  refine Calls.mono (HA.out.frs (by simp)) ?_
  rintro e W2 ⟨rfl, hq1, hq2⟩
  have HA2 : Aside (Ag w W2 V [rt, fr]) := hq1
  clear hq1 hq2 HA
  go_wp2_with fail
  refine Calls.mono (HA2.out.frs (by simp)) ?_
  rintro e W3 ⟨rfl, hq1, hq2⟩
  have HA3 : Aside (Ag w W3 V [rt, fr, fr]) := hq1
  clear hq1 hq2 HA2
  have x6 : Aside (((W3.alloc (.cells (hl z16).toArray 29)).alloc (.cells (hl z16).toArray 29)).heap[W3.heap.size]? = some (.cells (hl z16).toArray 29 (0, 0))) := nth' (new' rfl)
  have x7 : Aside (((W3.alloc (.cells (hl z16).toArray 29)).alloc (.cells (hl z16).toArray 29)).heap[W3.heap.size + 1]? = some (.cells (hl z16).toArray 29 (0, 0))) := new' (by simp)
  have y7 : Aside ((((W3.alloc (.cells (hl z16).toArray 29)).alloc (.cells (hl z16).toArray 29)).setRow W3.heap.size (hl (nameL 1)).toArray).heap[W3.heap.size + 1]? = some (.cells (hl z16).toArray 29 (0, 0))) := (setRow_other _ _ _ _ (by omega)).trans x7.out
  go_wp2_with (first | (refine st28 rfl (.tmp 6) (.tmp 32) rfl W3.heap.size (nameL 1) rfl rfl z16 x6.out (nl 1) rfl ?_) | (refine st28 rfl (.tmp 7) (.tmp 34) rfl (W3.heap.size + 1) (nameL 2) rfl rfl z16 y7.out (nl 2) rfl (Hid.out ?_)))
  rw [hz28, hz28]
  have HBn : Below W3.heap.size W3 ((((W3.alloc (.cells (hl z16).toArray 29)).alloc (.cells (hl z16).toArray 29)).setRow W3.heap.size (hl (nameL 1)).toArray).setRow (W3.heap.size + 1) (hl (nameL 2)).toArray) := bel_set (bel_set ((bel1 W3 _).alloc (by simp) _) (Nat.le_refl _) _) (by omega) _
  have X7 : Aside _ := setRow_heap _ (W3.heap.size + 1) _ (hl (nameL 2)).toArray 29 (0, 0) y7.out
  have X6 : Aside _ := (setRow_other _ (W3.heap.size + 1) W3.heap.size (hl (nameL 2)).toArray (by omega)).trans (setRow_heap _ W3.heap.size _ (hl (nameL 1)).toArray 29 (0, 0) x6.out)
  have HA : Aside (Ag w ((((W3.alloc (.cells (hl z16).toArray 29)).alloc (.cells (hl z16).toArray 29)).setRow W3.heap.size (hl (nameL 1)).toArray).setRow (W3.heap.size + 1) (hl (nameL 2)).toArray) V [rt, fr, fr]) := HA3.out.go HBn
  clear HBn x6 x7 y7 HA3
  generalize (((W3.alloc (.cells (hl z16).toArray 29)).alloc (.cells (hl z16).toArray 29)).setRow W3.heap.size (hl (nameL 1)).toArray).setRow (W3.heap.size + 1) (hl (nameL 2)).toArray = W4b at *
  generalize hD7 : W3.heap.size + 1 = D7 at *
  clear hD7
  generalize W3.heap.size = D6 at *
  refine mkHid ?_
  go_wp2_with (first | (refine ld28 rfl (.tmp 6) rfl D6 (by kernel_rfl) (nameL 1) X6.out (nl _) ?_))
  refine Calls.mono (HA.out.pub (by simp) 1 (by simp) (by simp)) ?_
  rintro e W5 hq
  obtain ⟨rfl, hq1, hq2⟩ := hq
  have HA' : Aside (Ag w W5 V [rt, fr, fr, tP 1]) := hq1
  have X6' : Aside _ := hq2 _ _ _ _ X6.out (by decide) (by decide)
  have X7' : Aside _ := hq2 _ _ _ _ X7.out (by decide) (by decide)
  clear HA hq1 hq2 X6 X7
  go_wp2_with (refine st28 rfl (.tmp 8) (.tmp 39) rfl W5.heap.size (nameL 3) (by kernel_rfl) (by kernel_rfl) z16 (heap_alloc_new W5 _) (nl _) rfl (Hid.out ?_))
  rw [hz28]
  have HBn := (nbox W5 z16 (nameL 3)).2
  have X8 : Aside _ := (nbox W5 z16 (nameL 3)).1
  have HA : Aside (Ag w ((W5.alloc (.cells (hl z16).toArray 29)).setRow W5.heap.size (hl (nameL 3)).toArray) V [rt, fr, fr, tP 1]) := HA'.out.go HBn
  have X6 : Aside _ := heap_bel X6'.out HBn
  have X7 : Aside _ := heap_bel X7'.out HBn
  clear HA' HBn X6' X7'
  generalize (W5.alloc (.cells (hl z16).toArray 29)).setRow W5.heap.size (hl (nameL 3)).toArray = W5b at *
  generalize W5.heap.size = D8 at *
  refine mkHid ?_
  go_wp2_with (first | (refine ld28 rfl (.tmp 7) rfl D7 (by kernel_rfl) (nameL 2) X7.out (nl _) ?_))
  refine Calls.mono (HA.out.pub (by simp) 2 (by simp) (by simp)) ?_
  rintro e W6 hq
  obtain ⟨rfl, hq1, hq2⟩ := hq
  have HA' : Aside (Ag w W6 V [rt, fr, fr, tP 1, tP 2]) := hq1
  have X6' : Aside _ := hq2 _ _ _ _ X6.out (by decide) (by decide)
  have X7' : Aside _ := hq2 _ _ _ _ X7.out (by decide) (by decide)
  have X8' : Aside _ := hq2 _ _ _ _ X8.out (by decide) (by decide)
  clear HA hq1 hq2 X6 X7 X8
  go_wp2_with (refine st28 rfl (.tmp 10) (.tmp 45) rfl W6.heap.size (nameL 4) (by kernel_rfl) (by kernel_rfl) z16 (heap_alloc_new W6 _) (nl _) rfl (Hid.out ?_))
  rw [hz28]
  have HBn := (nbox W6 z16 (nameL 4)).2
  have X10 : Aside _ := (nbox W6 z16 (nameL 4)).1
  have HA : Aside (Ag w ((W6.alloc (.cells (hl z16).toArray 29)).setRow W6.heap.size (hl (nameL 4)).toArray) V [rt, fr, fr, tP 1, tP 2]) := HA'.out.go HBn
  have X6 : Aside _ := heap_bel X6'.out HBn
  have X7 : Aside _ := heap_bel X7'.out HBn
  have X8 : Aside _ := heap_bel X8'.out HBn
  clear HA' HBn X6' X7' X8'
  generalize (W6.alloc (.cells (hl z16).toArray 29)).setRow W6.heap.size (hl (nameL 4)).toArray = W6b at *
  generalize W6.heap.size = D10 at *
  refine mkHid ?_
  go_wp2_with (first | (refine ld28 rfl (.tmp 6) rfl D6 (by kernel_rfl) (nameL 1) X6.out (nl _) ?_) | (refine ld28 rfl (.tmp 10) rfl D10 (by kernel_rfl) (nameL 4) X10.out (nl _) ?_))
  refine Calls.mono (agr_1 HA.out) ?_
  rintro e W7 hq
  obtain ⟨rfl, hq1, hq2⟩ := hq
  have HA' : Aside (Ag w W7 V LK6) := hq1
  have X6' : Aside _ := hq2 _ _ _ _ X6.out (by decide) (by decide)
  have X7' : Aside _ := hq2 _ _ _ _ X7.out (by decide) (by decide)
  have X8' : Aside _ := hq2 _ _ _ _ X8.out (by decide) (by decide)
  have X10' : Aside _ := hq2 _ _ _ _ X10.out (by decide) (by decide)
  clear HA hq1 hq2 X6 X7 X8 X10
  go_wp2_with (refine st28 rfl (.tmp 12) (.tmp 52) rfl W7.heap.size (nameL 5) (by kernel_rfl) (by kernel_rfl) z16 (heap_alloc_new W7 _) (nl _) rfl (Hid.out ?_))
  rw [hz28]
  have HBn := (nbox W7 z16 (nameL 5)).2
  have X12 : Aside _ := (nbox W7 z16 (nameL 5)).1
  have HA : Aside (Ag w ((W7.alloc (.cells (hl z16).toArray 29)).setRow W7.heap.size (hl (nameL 5)).toArray) V LK6) := HA'.out.go HBn
  have X6 : Aside _ := heap_bel X6'.out HBn
  have X7 : Aside _ := heap_bel X7'.out HBn
  have X8 : Aside _ := heap_bel X8'.out HBn
  have X10 : Aside _ := heap_bel X10'.out HBn
  clear HA' HBn X6' X7' X8' X10'
  generalize (W7.alloc (.cells (hl z16).toArray 29)).setRow W7.heap.size (hl (nameL 5)).toArray = W7b at *
  generalize W7.heap.size = D12 at *
  refine mkHid ?_
  go_wp2_with (first | (refine ld28 rfl (.tmp 7) rfl D7 (by kernel_rfl) (nameL 2) X7.out (nl _) ?_) | (refine ld28 rfl (.tmp 8) rfl D8 (by kernel_rfl) (nameL 3) X8.out (nl _) ?_))
  refine Calls.mono (agr_2 HA.out) ?_
  rintro e W8 hq
  obtain ⟨rfl, hq1, hq2⟩ := hq
  have HA' : Aside (Ag w W8 V LK6) := hq1
  have X6' : Aside _ := hq2 _ _ _ _ X6.out (by decide) (by decide)
  have X7' : Aside _ := hq2 _ _ _ _ X7.out (by decide) (by decide)
  have X8' : Aside _ := hq2 _ _ _ _ X8.out (by decide) (by decide)
  have X10' : Aside _ := hq2 _ _ _ _ X10.out (by decide) (by decide)
  have X12' : Aside _ := hq2 _ _ _ _ X12.out (by decide) (by decide)
  clear HA hq1 hq2 X6 X7 X8 X10 X12
  go_wp2_with (refine st28 rfl (.tmp 14) (.tmp 59) rfl W8.heap.size (nameL 5) (by kernel_rfl) (by kernel_rfl) z16 (heap_alloc_new W8 _) (nl _) rfl (Hid.out ?_))
  rw [hz28]
  have HBn := (nbox W8 z16 (nameL 5)).2
  have X14 : Aside _ := (nbox W8 z16 (nameL 5)).1
  have HA : Aside (Ag w ((W8.alloc (.cells (hl z16).toArray 29)).setRow W8.heap.size (hl (nameL 5)).toArray) V LK6) := HA'.out.go HBn
  have X6 : Aside _ := heap_bel X6'.out HBn
  have X7 : Aside _ := heap_bel X7'.out HBn
  have X8 : Aside _ := heap_bel X8'.out HBn
  have X10 : Aside _ := heap_bel X10'.out HBn
  have X12 : Aside _ := heap_bel X12'.out HBn
  clear HA' HBn X6' X7' X8' X10' X12'
  generalize (W8.alloc (.cells (hl z16).toArray 29)).setRow W8.heap.size (hl (nameL 5)).toArray = W8b at *
  generalize W8.heap.size = D14 at *
  refine mkHid ?_
  go_wp2_with fail
  refine Calls.mono (a17 HA.out (by simp) z16 rfl) ?_
  rintro e W9 hq
  rw [k_early] at hq
  obtain ⟨rfl, hq1, hq2⟩ := hq
  have HA' : Aside (Ag w W9 V (LK6 ++ [tE])) := hq1
  have X6' : Aside _ := hq2 _ _ _ _ X6.out (by decide) (by decide)
  have X7' : Aside _ := hq2 _ _ _ _ X7.out (by decide) (by decide)
  have X8' : Aside _ := hq2 _ _ _ _ X8.out (by decide) (by decide)
  have X10' : Aside _ := hq2 _ _ _ _ X10.out (by decide) (by decide)
  have X12' : Aside _ := hq2 _ _ _ _ X12.out (by decide) (by decide)
  have X14' : Aside _ := hq2 _ _ _ _ X14.out (by decide) (by decide)
  clear HA hq1 hq2 X6 X7 X8 X10 X12 X14
  go_wp2_with (refine st28 rfl (.tmp 16) (.tmp 65) rfl W9.heap.size (nameL 6) (by kernel_rfl) (by kernel_rfl) z16 (heap_alloc_new W9 _) (nl _) rfl (Hid.out ?_))
  rw [hz28]
  have HBn := (nbox W9 z16 (nameL 6)).2
  have X16 : Aside _ := (nbox W9 z16 (nameL 6)).1
  have HA : Aside (Ag w ((W9.alloc (.cells (hl z16).toArray 29)).setRow W9.heap.size (hl (nameL 6)).toArray) V (LK6 ++ [tE])) := HA'.out.go HBn
  have X6 : Aside _ := heap_bel X6'.out HBn
  have X7 : Aside _ := heap_bel X7'.out HBn
  have X8 : Aside _ := heap_bel X8'.out HBn
  have X10 : Aside _ := heap_bel X10'.out HBn
  have X12 : Aside _ := heap_bel X12'.out HBn
  have X14 : Aside _ := heap_bel X14'.out HBn
  clear HA' HBn X6' X7' X8' X10' X12' X14'
  generalize (W9.alloc (.cells (hl z16).toArray 29)).setRow W9.heap.size (hl (nameL 6)).toArray = W9b at *
  generalize W9.heap.size = D16 at *
  refine mkHid ?_
  go_wp2_with fail
  refine Calls.mono (a15 HA.out (by simp)) ?_
  rintro e W10 hq
  rw [k_begin] at hq
  obtain ⟨rfl, hq1, hq2⟩ := hq
  have HA' : Aside (Ag w W10 V (LK6 ++ [tE, tS])) := hq1
  have X6' : Aside _ := hq2 _ _ _ _ X6.out (by decide) (by decide)
  have X7' : Aside _ := hq2 _ _ _ _ X7.out (by decide) (by decide)
  have X8' : Aside _ := hq2 _ _ _ _ X8.out (by decide) (by decide)
  have X10' : Aside _ := hq2 _ _ _ _ X10.out (by decide) (by decide)
  have X12' : Aside _ := hq2 _ _ _ _ X12.out (by decide) (by decide)
  have X14' : Aside _ := hq2 _ _ _ _ X14.out (by decide) (by decide)
  have X16' : Aside _ := hq2 _ _ _ _ X16.out (by decide) (by decide)
  clear HA hq1 hq2 X6 X7 X8 X10 X12 X14 X16
  go_wp2_with (refine st28 rfl (.tmp 18) (.tmp 70) rfl W10.heap.size (nameL 7) (by kernel_rfl) (by kernel_rfl) z16 (heap_alloc_new W10 _) (nl _) rfl (Hid.out ?_))
  rw [hz28]
  have HBn := (nbox W10 z16 (nameL 7)).2
  have X18 : Aside _ := (nbox W10 z16 (nameL 7)).1
  have HA : Aside (Ag w ((W10.alloc (.cells (hl z16).toArray 29)).setRow W10.heap.size (hl (nameL 7)).toArray) V (LK6 ++ [tE, tS])) := HA'.out.go HBn
  have X6 : Aside _ := heap_bel X6'.out HBn
  have X7 : Aside _ := heap_bel X7'.out HBn
  have X8 : Aside _ := heap_bel X8'.out HBn
  have X10 : Aside _ := heap_bel X10'.out HBn
  have X12 : Aside _ := heap_bel X12'.out HBn
  have X14 : Aside _ := heap_bel X14'.out HBn
  have X16 : Aside _ := heap_bel X16'.out HBn
  have HG18 : Aside (w.heap.size ≤ W10.heap.size) := HA'.out.bel.size
  clear HA' HBn X6' X7' X8' X10' X12' X14' X16'
  generalize (W10.alloc (.cells (hl z16).toArray 29)).setRow W10.heap.size (hl (nameL 7)).toArray = W10b at *
  generalize W10.heap.size = D18 at *
  refine mkHid ?_
  have hq5 : ∀ X, (binOp .neq 29 (hv (nameL 5)) (hv (nameL 5))).run Try.prog X = .ok (.bool false) X := fun X => by rw [neq28 _ _ (nl 5) (nl 5)]; simp
  go_wp2_with (first | (refine ld28g (by rfl) (.tmp 12) rfl D12 (by kernel_rfl) (nameL 5) X12.out (nl _) ?_) | (refine ld28g (by rfl) (.tmp 14) rfl D14 (by kernel_rfl) (nameL 5) X14.out (nl _) ?_) | (refine ld28 rfl (.tmp 18) rfl D18 (by kernel_rfl) (nameL 7) X18.out (nl _) ?_))
  clear hq5
  go_wp2_with (first | (refine ld28 rfl (.tmp 18) rfl D18 (by kernel_rfl) (nameL 7) X18.out (nl _) ?_))
  refine Calls.mono (a16 HA.out (by simp) (nameL 7) (nl 7) oa ca la (HSA.out.bel HA.out.bel) HLA.out) ?_
  rintro e W11 hq
  rw [k_add] at hq
  obtain ⟨rfl, hq1, hq2⟩ := hq
  have HA' : Aside (Ag w W11 V (LK9 la)) := hq1
  have X6' : Aside _ := hq2 _ _ _ _ X6.out (by decide) (by decide)
  have X7' : Aside _ := hq2 _ _ _ _ X7.out (by decide) (by decide)
  have X8' : Aside _ := hq2 _ _ _ _ X8.out (by decide) (by decide)
  have X10' : Aside _ := hq2 _ _ _ _ X10.out (by decide) (by decide)
  have X12' : Aside _ := hq2 _ _ _ _ X12.out (by decide) (by decide)
  have X14' : Aside _ := hq2 _ _ _ _ X14.out (by decide) (by decide)
  have X16' : Aside _ := hq2 _ _ _ _ X16.out (by decide) (by decide)
  have X18' : Aside _ := hq2 _ _ _ _ X18.out (by decide) (by decide)
  clear HA hq1 hq2 X6 X7 X8 X10 X12 X14 X16 X18
  go_wp2_with (refine st28 rfl (.tmp 18) (.tmp 96) rfl D18 (nameL 8) (by kernel_rfl) (by kernel_rfl) (nameL 7) X18'.out (nl _) (nl _) (Hid.out ?_))
  have X18 : Aside _ := setRow_heap W11 D18 _ (hl (nameL 8)).toArray 29 (0, 0) X18'.out
  have HA : Aside (Ag w (W11.setRow D18 (hl (nameL 8)).toArray) V (LK9 la)) := HA'.out.setAny X18'.out (by decide) (by decide) HG18.out _
  have X6 : Aside _ := (setRow_other W11 D18 D6 (hl (nameL 8)).toArray (by rintro rfl; exact absurd (box_inj (by omega) (by omega) (X6'.out.symm.trans X18'.out)) (by decide))).trans X6'.out
  have X7 : Aside _ := (setRow_other W11 D18 D7 (hl (nameL 8)).toArray (by rintro rfl; exact absurd (box_inj (by omega) (by omega) (X7'.out.symm.trans X18'.out)) (by decide))).trans X7'.out
  have X8 : Aside _ := (setRow_other W11 D18 D8 (hl (nameL 8)).toArray (by rintro rfl; exact absurd (box_inj (by omega) (by omega) (X8'.out.symm.trans X18'.out)) (by decide))).trans X8'.out
  have X10 : Aside _ := (setRow_other W11 D18 D10 (hl (nameL 8)).toArray (by rintro rfl; exact absurd (box_inj (by omega) (by omega) (X10'.out.symm.trans X18'.out)) (by decide))).trans X10'.out
  have X12 : Aside _ := (setRow_other W11 D18 D12 (hl (nameL 8)).toArray (by rintro rfl; exact absurd (box_inj (by omega) (by omega) (X12'.out.symm.trans X18'.out)) (by decide))).trans X12'.out
  have X14 : Aside _ := (setRow_other W11 D18 D14 (hl (nameL 8)).toArray (by rintro rfl; exact absurd (box_inj (by omega) (by omega) (X14'.out.symm.trans X18'.out)) (by decide))).trans X14'.out
  have X16 : Aside _ := (setRow_other W11 D18 D16 (hl (nameL 8)).toArray (by rintro rfl; exact absurd (box_inj (by omega) (by omega) (X16'.out.symm.trans X18'.out)) (by decide))).trans X16'.out
  clear HA' X6' X7' X8' X10' X12' X14' X16' X18'
  generalize W11.setRow D18 (hl (nameL 8)).toArray = W11b at *
  refine mkHid ?_
  go_wp2_with (first | (refine ld28 rfl (.tmp 16) rfl D16 (by kernel_rfl) (nameL 6) X16.out (nl _) ?_) | (refine ld28 rfl (.tmp 12) rfl D12 (by kernel_rfl) (nameL 5) X12.out (nl _) ?_))
  refine Calls.mono (a18 HA.out (by simp) (nameL 6) (nameL 5) (nl _) (nl _)) ?_
  rintro e W12 hq
  rw [k_hand] at hq
  obtain ⟨rfl, hq1, hq2⟩ := hq
  have HA' : Aside (Ag w W12 V (LK9 la ++ [tH 5 bHand, tH 9 bBoth])) := hq1
  have X6' : Aside _ := hq2 _ _ _ _ X6.out (by decide) (by decide)
  have X7' : Aside _ := hq2 _ _ _ _ X7.out (by decide) (by decide)
  have X8' : Aside _ := hq2 _ _ _ _ X8.out (by decide) (by decide)
  have X10' : Aside _ := hq2 _ _ _ _ X10.out (by decide) (by decide)
  have X12' : Aside _ := hq2 _ _ _ _ X12.out (by decide) (by decide)
  have X14' : Aside _ := hq2 _ _ _ _ X14.out (by decide) (by decide)
  have X16' : Aside _ := hq2 _ _ _ _ X16.out (by decide) (by decide)
  have X18' : Aside _ := hq2 _ _ _ _ X18.out (by decide) (by decide)
  clear HA hq1 hq2 X6 X7 X8 X10 X12 X14 X16 X18
  go_wp2_with (refine st28 rfl (.tmp 20) (.tmp 103) rfl W12.heap.size (nameL 10) (by kernel_rfl) (by kernel_rfl) z16 (heap_alloc_new W12 _) (nl _) rfl (Hid.out ?_))
  rw [hz28]
  have HBn := (nbox W12 z16 (nameL 10)).2
  have X20 : Aside _ := (nbox W12 z16 (nameL 10)).1
  have HA : Aside (Ag w ((W12.alloc (.cells (hl z16).toArray 29)).setRow W12.heap.size (hl (nameL 10)).toArray) V (LK9 la ++ [tH 5 bHand, tH 9 bBoth])) := HA'.out.go HBn
  have X6 : Aside _ := heap_bel X6'.out HBn
  have X7 : Aside _ := heap_bel X7'.out HBn
  have X8 : Aside _ := heap_bel X8'.out HBn
  have X10 : Aside _ := heap_bel X10'.out HBn
  have X12 : Aside _ := heap_bel X12'.out HBn
  have X14 : Aside _ := heap_bel X14'.out HBn
  have X16 : Aside _ := heap_bel X16'.out HBn
  have X18 : Aside _ := heap_bel X18'.out HBn
  clear HA' HBn X6' X7' X8' X10' X12' X14' X16' X18'
  generalize (W12.alloc (.cells (hl z16).toArray 29)).setRow W12.heap.size (hl (nameL 10)).toArray = W12b at *
  generalize W12.heap.size = D20 at *
  refine mkHid ?_
  go_wp2_with (first | (refine ld28 rfl (.tmp 20) rfl D20 (by kernel_rfl) (nameL 10) X20.out (nl _) ?_))
  refine Calls.mono (a19 HA.out (by simp) (nameL 10) (nl _)) ?_
  rintro e W13 hq
  rw [k_master] at hq
  obtain ⟨rfl, hq1, hq2⟩ := hq
  have HA' : Aside (Ag w W13 V (LK9 la ++ [tH 5 bHand, tH 9 bBoth, tN 10 bMaster])) := hq1
  have X6' : Aside _ := hq2 _ _ _ _ X6.out (by decide) (by decide)
  have X7' : Aside _ := hq2 _ _ _ _ X7.out (by decide) (by decide)
  have X8' : Aside _ := hq2 _ _ _ _ X8.out (by decide) (by decide)
  have X10' : Aside _ := hq2 _ _ _ _ X10.out (by decide) (by decide)
  have X12' : Aside _ := hq2 _ _ _ _ X12.out (by decide) (by decide)
  have X14' : Aside _ := hq2 _ _ _ _ X14.out (by decide) (by decide)
  have X16' : Aside _ := hq2 _ _ _ _ X16.out (by decide) (by decide)
  have X18' : Aside _ := hq2 _ _ _ _ X18.out (by decide) (by decide)
  have X20' : Aside _ := hq2 _ _ _ _ X20.out (by decide) (by decide)
  clear HA hq1 hq2 X6 X7 X8 X10 X12 X14 X16 X18 X20
  go_wp2_with (refine st28 rfl (.tmp 21) (.tmp 109) rfl W13.heap.size (nameL 11) (by kernel_rfl) (by kernel_rfl) z16 (heap_alloc_new W13 _) (nl _) rfl (Hid.out ?_))
  rw [hz28]
  have HBn := (nbox W13 z16 (nameL 11)).2
  have X21 : Aside _ := (nbox W13 z16 (nameL 11)).1
  have HA : Aside (Ag w ((W13.alloc (.cells (hl z16).toArray 29)).setRow W13.heap.size (hl (nameL 11)).toArray) V (LK9 la ++ [tH 5 bHand, tH 9 bBoth, tN 10 bMaster])) := HA'.out.go HBn
  have X6 : Aside _ := heap_bel X6'.out HBn
  have X7 : Aside _ := heap_bel X7'.out HBn
  have X8 : Aside _ := heap_bel X8'.out HBn
  have X10 : Aside _ := heap_bel X10'.out HBn
  have X12 : Aside _ := heap_bel X12'.out HBn
  have X14 : Aside _ := heap_bel X14'.out HBn
  have X16 : Aside _ := heap_bel X16'.out HBn
  have X18 : Aside _ := heap_bel X18'.out HBn
  have X20 : Aside _ := heap_bel X20'.out HBn
  clear HA' HBn X6' X7' X8' X10' X12' X14' X16' X18' X20'
  generalize (W13.alloc (.cells (hl z16).toArray 29)).setRow W13.heap.size (hl (nameL 11)).toArray = W13b at *
  generalize W13.heap.size = D21 at *
  refine mkHid ?_
  go_wp2_with (first | (refine ld28 rfl (.tmp 21) rfl D21 (by kernel_rfl) (nameL 11) X21.out (nl _) ?_) | (refine ld28 rfl (.tmp 18) rfl D18 (by kernel_rfl) (nameL 8) X18.out (nl _) ?_))
  refine Calls.mono (a20 HA.out (by simp) (nameL 11) (nameL 8) (nl _) (nl _) bCD (by decide)) ?_
  rintro e W14 hq
  rw [k_traffic] at hq
  obtain ⟨rfl, hq1, hq2⟩ := hq
  have HA' : Aside (Ag w W14 V (LK9 la ++ [tH 5 bHand, tH 9 bBoth, tN 10 bMaster, tW 11 bCD])) := hq1
  have X6' : Aside _ := hq2 _ _ _ _ X6.out (by decide) (by decide)
  have X7' : Aside _ := hq2 _ _ _ _ X7.out (by decide) (by decide)
  have X8' : Aside _ := hq2 _ _ _ _ X8.out (by decide) (by decide)
  have X10' : Aside _ := hq2 _ _ _ _ X10.out (by decide) (by decide)
  have X12' : Aside _ := hq2 _ _ _ _ X12.out (by decide) (by decide)
  have X14' : Aside _ := hq2 _ _ _ _ X14.out (by decide) (by decide)
  have X16' : Aside _ := hq2 _ _ _ _ X16.out (by decide) (by decide)
  have X18' : Aside _ := hq2 _ _ _ _ X18.out (by decide) (by decide)
  have X20' : Aside _ := hq2 _ _ _ _ X20.out (by decide) (by decide)
  have X21' : Aside _ := hq2 _ _ _ _ X21.out (by decide) (by decide)
  clear HA hq1 hq2 X6 X7 X8 X10 X12 X14 X16 X18 X20 X21
  go_wp2_with (refine st28 rfl (.tmp 22) (.tmp 116) rfl W14.heap.size (nameL 12) (by kernel_rfl) (by kernel_rfl) z16 (heap_alloc_new W14 _) (nl _) rfl (Hid.out ?_))
  rw [hz28]
  have HBn := (nbox W14 z16 (nameL 12)).2
  have X22 : Aside _ := (nbox W14 z16 (nameL 12)).1
  have HA : Aside (Ag w ((W14.alloc (.cells (hl z16).toArray 29)).setRow W14.heap.size (hl (nameL 12)).toArray) V (LK9 la ++ [tH 5 bHand, tH 9 bBoth, tN 10 bMaster, tW 11 bCD])) := HA'.out.go HBn
  have X6 : Aside _ := heap_bel X6'.out HBn
  have X7 : Aside _ := heap_bel X7'.out HBn
  have X8 : Aside _ := heap_bel X8'.out HBn
  have X10 : Aside _ := heap_bel X10'.out HBn
  have X12 : Aside _ := heap_bel X12'.out HBn
  have X14 : Aside _ := heap_bel X14'.out HBn
  have X16 : Aside _ := heap_bel X16'.out HBn
  have X18 : Aside _ := heap_bel X18'.out HBn
  have X20 : Aside _ := heap_bel X20'.out HBn
  have X21 : Aside _ := heap_bel X21'.out HBn
  clear HA' HBn X6' X7' X8' X10' X12' X14' X16' X18' X20' X21'
  generalize (W14.alloc (.cells (hl z16).toArray 29)).setRow W14.heap.size (hl (nameL 12)).toArray = W14b at *
  generalize W14.heap.size = D22 at *
  refine mkHid ?_
  go_wp2_with (first | (refine ld28 rfl (.tmp 22) rfl D22 (by kernel_rfl) (nameL 12) X22.out (nl _) ?_) | (refine ld28 rfl (.tmp 18) rfl D18 (by kernel_rfl) (nameL 8) X18.out (nl _) ?_))
  refine Calls.mono (a21 HA.out (by simp) (nameL 12) (nameL 8) (nl _) (nl _)) ?_
  rintro e W15 hq
  rw [k_mark] at hq
  obtain ⟨rfl, hq1, hq2⟩ := hq
  have HA' : Aside (Ag w W15 V (LK la)) := hq1
  have X6' : Aside _ := hq2 _ _ _ _ X6.out (by decide) (by decide)
  have X7' : Aside _ := hq2 _ _ _ _ X7.out (by decide) (by decide)
  have X8' : Aside _ := hq2 _ _ _ _ X8.out (by decide) (by decide)
  have X10' : Aside _ := hq2 _ _ _ _ X10.out (by decide) (by decide)
  have X12' : Aside _ := hq2 _ _ _ _ X12.out (by decide) (by decide)
  have X14' : Aside _ := hq2 _ _ _ _ X14.out (by decide) (by decide)
  have X16' : Aside _ := hq2 _ _ _ _ X16.out (by decide) (by decide)
  have X18' : Aside _ := hq2 _ _ _ _ X18.out (by decide) (by decide)
  have X20' : Aside _ := hq2 _ _ _ _ X20.out (by decide) (by decide)
  have X21' : Aside _ := hq2 _ _ _ _ X21.out (by decide) (by decide)
  have X22' : Aside _ := hq2 _ _ _ _ X22.out (by decide) (by decide)
  clear HA hq1 hq2 X6 X7 X8 X10 X12 X14 X16 X18 X20 X21 X22
  go_wp2_with (refine st28 rfl (.tmp 23) (.tmp 123) rfl W15.heap.size (nameL 14) (by kernel_rfl) (by kernel_rfl) z16 (heap_alloc_new W15 _) (nl _) rfl (Hid.out ?_))
  rw [hz28]
  have HBn := (nbox W15 z16 (nameL 14)).2
  have X23 : Aside _ := (nbox W15 z16 (nameL 14)).1
  have HA : Aside (Ag w ((W15.alloc (.cells (hl z16).toArray 29)).setRow W15.heap.size (hl (nameL 14)).toArray) V (LK la)) := HA'.out.go HBn
  have X6 : Aside _ := heap_bel X6'.out HBn
  have X7 : Aside _ := heap_bel X7'.out HBn
  have X8 : Aside _ := heap_bel X8'.out HBn
  have X10 : Aside _ := heap_bel X10'.out HBn
  have X12 : Aside _ := heap_bel X12'.out HBn
  have X14 : Aside _ := heap_bel X14'.out HBn
  have X16 : Aside _ := heap_bel X16'.out HBn
  have X18 : Aside _ := heap_bel X18'.out HBn
  have X20 : Aside _ := heap_bel X20'.out HBn
  have X21 : Aside _ := heap_bel X21'.out HBn
  have X22 : Aside _ := heap_bel X22'.out HBn
  clear HA' HBn X6' X7' X8' X10' X12' X14' X16' X18' X20' X21' X22'
  generalize (W15.alloc (.cells (hl z16).toArray 29)).setRow W15.heap.size (hl (nameL 14)).toArray = W15b at *
  generalize W15.heap.size = D23 at *
  refine mkHid ?_
  go_wp2_with fail
  refine Calls.mono (hid_nil HA.out (HYA.out _ HA.out.bel)) ?_
  rintro e Wx ⟨bA, rfl, hbA, _, hbx⟩
  have HAx : Aside (Ag w Wx V (LK la)) := HA.out.go hbx
  have Y6 : Aside _ := heap_bel X6.out hbx
  have Y7 : Aside _ := heap_bel X7.out hbx
  have Y8 : Aside _ := heap_bel X8.out hbx
  have Y10 : Aside _ := heap_bel X10.out hbx
  have Y12 : Aside _ := heap_bel X12.out hbx
  have Y14 : Aside _ := heap_bel X14.out hbx
  have Y16 : Aside _ := heap_bel X16.out hbx
  have Y18 : Aside _ := heap_bel X18.out hbx
  have Y20 : Aside _ := heap_bel X20.out hbx
  have Y21 : Aside _ := heap_bel X21.out hbx
  have Y22 : Aside _ := heap_bel X22.out hbx
  have Y23 : Aside _ := heap_bel X23.out hbx
  clear hbx HA X6 X7 X8 X10 X12 X14 X16 X18 X20 X21 X22 X23
  cases bA with
  | true =>
    as_aux_lemma =>
    have HF : Aside _ := HAx.out.bel
    go_wp2_with fail
    go_ret
    exact ⟨rfl, HF.out⟩
  | false =>
  have HKA : Aside (∀ x ∈ wins la, x ∈ K4) := hbA rfl
  clear hbA
  as_aux_lemma =>
  go_wp2_with fail
  refine Calls.mono (hid_nil HAx.out (HYB.out _ HAx.out.bel)) ?_
  rintro e Wy ⟨bB, rfl, hbB, _, hbx⟩
  have HA : Aside (Ag w Wy V (LK la)) := HAx.out.go hbx
  have X6 : Aside _ := heap_bel Y6.out hbx
  have X7 : Aside _ := heap_bel Y7.out hbx
  have X8 : Aside _ := heap_bel Y8.out hbx
  have X10 : Aside _ := heap_bel Y10.out hbx
  have X12 : Aside _ := heap_bel Y12.out hbx
  have X14 : Aside _ := heap_bel Y14.out hbx
  have X16 : Aside _ := heap_bel Y16.out hbx
  have X18 : Aside _ := heap_bel Y18.out hbx
  have X20 : Aside _ := heap_bel Y20.out hbx
  have X21 : Aside _ := heap_bel Y21.out hbx
  have X22 : Aside _ := heap_bel Y22.out hbx
  have X23 : Aside _ := heap_bel Y23.out hbx
  clear hbx HAx Y6 Y7 Y8 Y10 Y12 Y14 Y16 Y18 Y20 Y21 Y22 Y23
  cases bB with
  | true =>
    as_aux_lemma =>
    have HF : Aside _ := HA.out.bel
    go_wp2_with fail
    go_ret
    exact ⟨rfl, HF.out⟩
  | false =>
  have HKB : Aside (∀ x ∈ wins lb, x ∈ K4) := hbB rfl
  clear hbB
  as_aux_lemma =>
  have HKb : Aside (Kb w D6 D8 D10 D18 D16 D23 oa ob ca cb la lb Wy) := ⟨X6.out, X8.out, X10.out, X18.out, X16.out, X23.out, HYA.out _ HA.out.bel, HYB.out _ HA.out.bel, HKA.out, HKB.out⟩
  clear HKA HKB HYA HYB HSA HLA
  go_wp2_with fail
  refine wp_region_held_drew (S := fun _ => True) (by kernel_rfl) trivial (fun hHeld => ?_)
  refine wpAnyH_take (i := 0) (v := .slice (some ⟨D8, 0, none⟩) 16 16) rfl (by kernel_rfl) (by kernel_rfl) (by kernel_rfl) (fun _ _ _ h => h) (Or.inl ⟨by rfl, by intro w hs; go_simp⟩) hHeld ?_
  refine norm_any' (fun K hK => ?_)
  go_simp
  refine hK _ _ ?_
  clear hK K
  refine wpAnyH_take (i := 1) (v := .slice (some ⟨D10, 0, none⟩) 16 16) rfl (by kernel_rfl) (by kernel_rfl) (by kernel_rfl) (fun _ _ _ h => h) (Or.inl ⟨by rfl, by intro w hs; go_simp⟩) hHeld ?_
  refine norm_any' (fun K hK => ?_)
  go_simp
  refine hK _ _ ?_
  clear hK K
  refine wpAnyH_take (i := 2) (v := .slice oa la.length ca) rfl (by kernel_rfl) (by kernel_rfl) (by kernel_rfl) (fun _ _ _ h => h) (Or.inl ⟨by rfl, by intro w hs; go_simp⟩) hHeld ?_
  refine norm_any' (fun K hK => ?_)
  go_simp
  refine hK _ _ ?_
  clear hK K
  refine wpAnyH_take (i := 3) (v := .slice ob lb.length cb) rfl (by kernel_rfl) (by kernel_rfl) (by kernel_rfl) (fun _ _ _ h => h) (Or.inl ⟨by rfl, by intro w hs; go_simp⟩) hHeld ?_
  refine norm_any' (fun K hK => ?_)
  go_simp
  refine hK _ _ ?_
  clear hK K
  refine wpAnyH_take (i := 4) (v := .slice (some ⟨D18, 0, none⟩) 16 16) rfl (by kernel_rfl) (by kernel_rfl) (by kernel_rfl) (fun _ _ _ h => h) (Or.inl ⟨by rfl, by intro w hs; go_simp⟩) hHeld ?_
  refine norm_any' (fun K hK => ?_)
  go_simp
  refine hK _ _ ?_
  clear hK K
  refine wpAnyH_take (i := 5) (v := .slice (some ⟨D16, 0, none⟩) 16 16) rfl (by kernel_rfl) (by kernel_rfl) (by kernel_rfl) (fun _ _ _ h => h) (Or.inl ⟨by rfl, by intro w hs; go_simp⟩) hHeld ?_
  refine norm_any' (fun K hK => ?_)
  go_simp
  refine hK _ _ ?_
  clear hK K
  refine wpAnyH_take (i := 6) (v := .slice (some ⟨D23, 0, none⟩) 16 16) rfl (by kernel_rfl) (by kernel_rfl) (by kernel_rfl) (fun _ _ _ h => h) (Or.inl ⟨by rfl, by intro w hs; go_simp⟩) hHeld ?_
  refine norm_any' (fun K hK => ?_)
  go_simp
  refine hK _ _ ?_
  clear hK K
  refine wpAnyH_ready (rs := [7]) (by kernel_rfl) (by simp) (AllReadyH.cons rfl (fun K hK => ?_) AllReadyH.nil)
  rw [if_pos (by rfl)]
  refine wp_bs7 (.tmp 151) (.tmp 152) (.tmp 153) (.tmp 154) (.tmp 155) (.tmp 156) (.tmp 157) rfl (some ⟨D8, 0, none⟩) (some ⟨D10, 0, none⟩) oa ob (some ⟨D18, 0, none⟩) (some ⟨D16, 0, none⟩) (some ⟨D23, 0, none⟩) 16 16 la.length lb.length 16 16 16 16 16 ca cb 16 16 16 rfl rfl rfl rfl rfl rfl rfl ?_
  refine hK.out _ _ trivial (fun hHeld => ?_)
  clear hK K
  refine norm_any' (fun K hK => ?_)
  go_simp
  refine hK _ _ ?_
  clear hK K
  refine wpAnyH_take (i := 8) (v := .slice (some ⟨Wy.heap.size, 0, none⟩) 7 7) rfl (by kernel_rfl) (by kernel_rfl) (by kernel_rfl) (fun _ _ _ h => h) (Or.inl ⟨by rfl, by intro w hs; go_simp⟩) hHeld ?_
  refine norm_any' (fun K hK => ?_)
  go_simp
  refine hK _ _ ?_
  clear hK K
  refine wpAnyH_done (by kernel_rfl) ?_ _
  clear hHeld
  have hbz : Below Wy.heap.size Wy ((Wy.alloc (.cells (seesC D8 D10 D18 D16 D23 oa ob ca cb la.length lb.length).toArray 33)).drew) := (bel1 Wy _).trans ((bel_drew _).mono (bel1 Wy _).size)
  have HKz : Aside (Kb w D6 D8 D10 D18 D16 D23 oa ob ca cb la lb ((Wy.alloc (.cells (seesC D8 D10 D18 D16 D23 oa ob ca cb la.length lb.length).toArray 33)).drew)) := HKb.out.go hbz
  have HAz : Aside (Ag w ((Wy.alloc (.cells (seesC D8 D10 D18 D16 D23 oa ob ca cb la.length lb.length).toArray 33)).drew) V (LK la)) := HA.out.go hbz
  have XS : Aside (((Wy.alloc (.cells (seesC D8 D10 D18 D16 D23 oa ob ca cb la.length lb.length).toArray 33)).drew).heap[Wy.heap.size]? = some (.cells (seesC D8 D10 D18 D16 D23 oa ob ca cb la.length lb.length).toArray 33 (0, 0))) := new' (w := Wy) rfl
  have Z20 : Aside _ := heap_bel X20.out hbz
  have Z21 : Aside _ := heap_bel X21.out hbz
  have Z22 : Aside _ := heap_bel X22.out hbz
  have Z12 : Aside _ := heap_bel X12.out hbz
  clear hbz HKb HA X6 X7 X8 X10 X12 X14 X16 X18 X20 X21 X22 X23
  unfold seesC at HKz HAz XS Z20 Z21 Z22 Z12
  generalize hWz : (Wy.alloc (.cells (List.toArray [Value.slice (some ⟨D8, 0, none⟩) 16 16, .slice (some ⟨D10, 0, none⟩) 16 16, .slice oa la.length ca, .slice ob lb.length cb, .slice (some ⟨D18, 0, none⟩) 16 16, .slice (some ⟨D16, 0, none⟩) 16 16, .slice (some ⟨D23, 0, none⟩) 16 16]) 33)).drew = Wz at *
  generalize Wy.heap.size = D25 at *
  clear hWz
  go_wp2_with (first | (refine ld28 rfl (.tmp 20) rfl D20 (by kernel_rfl) (nameL 10) Z20.out (nl _) ?_) | (refine ld28 rfl (.tmp 21) rfl D21 (by kernel_rfl) (nameL 11) Z21.out (nl _) ?_) | (refine ld28 rfl (.tmp 22) rfl D22 (by kernel_rfl) (nameL 12) Z22.out (nl _) ?_) | (refine ld28 rfl (.tmp 12) rfl D12 (by kernel_rfl) (nameL 5) Z12.out (nl _) ?_) | (refine wbs4 rfl (.tmp 159) (.tmp 160) (.tmp 161) (.tmp 162) rfl (nameL 10) (nameL 11) (nameL 12) (nameL 5) (by kernel_rfl) (by kernel_rfl) (by kernel_rfl) (by kernel_rfl) (nl _) (nl _) (nl _) (nl _) (Hid.out ?_)))
  have hba := bel1 Wz (.cells (hrow [nameL 10, nameL 11, nameL 12, nameL 5]).toArray 29)
  have HKa : Aside (Kb w D6 D8 D10 D18 D16 D23 oa ob ca cb la lb (Wz.alloc (.cells (hrow [nameL 10, nameL 11, nameL 12, nameL 5]).toArray 29))) := HKz.out.go hba
  have HAa : Aside (Ag w (Wz.alloc (.cells (hrow [nameL 10, nameL 11, nameL 12, nameL 5]).toArray 29)) V (LK la)) := HAz.out.go hba
  have XSa : Aside _ := heap_bel XS.out hba
  have XR : Aside ((Wz.alloc (.cells (hrow [nameL 10, nameL 11, nameL 12, nameL 5]).toArray 29)).heap[Wz.heap.size]? = some (.cells (hrow [nameL 10, nameL 11, nameL 12, nameL 5]).toArray 29 (0, 0))) := new' rfl
  clear hba HKz HAz XS Z20 Z21 Z22 Z12
  generalize Wz.alloc (.cells (hrow [nameL 10, nameL 11, nameL 12, nameL 5]).toArray 29) = Wp at *
  generalize Wz.heap.size = C at *
  refine mkHid ?_
  go_wp2_with fail
  go_loopg [165] 5 (fun kx s165 wr => ∃ j : Nat, s165 = .int .i64 (j : Int) ∧ j ≤ 4 ∧ 4 - j ≤ kx ∧ Aside (Below Wp.heap.size Wp wr))
  case atStart => exact ⟨0, rfl, by omega, by omega, Below.refl _ _⟩
  case round =>
    obtain ⟨j, rfl, hj, hg, HB⟩ := hrel
    by_cases hlt : j < 4
    · as_aux_lemma =>
      have i1 : (j : Int) < 4 := by omega
      have i1' : decide ((j : Int) < 4) = true := by simpa using i1
      have i2 : (0 : Int) ≤ j := by omega
      have hw : IntKind.i64.wrap ((j : Int) + 1) = ((j + 1 : Nat) : Int) := by rw [IntKind.wrap_i64]; omega
      have HRJ : Aside (wr.rangeAt C (j * 16) (hl (nameL (four j)))) := arr_k four16 (heap_bel XR.out HB.out) (four_at j hlt)
      have h4 := four_in j
      have H4 : Aside _ := h4
      have mj : (Try.prog.info? 29).map (·.size) = some (hl (nameL (four j))).length := hi28.trans (by simp [nl])
      have hjl := nl (four j)
      obtain ⟨NJ, hNJ⟩ : ∃ N, nameL (four j) = N := ⟨_, rfl⟩
      have HNJ : Aside (nameL (four j) = NJ) := hNJ
      rw [hNJ] at HRJ mj hjl
      clear hNJ h4
      go_wp2_with (first | (refine wpList_load_mid rfl 29 (.tmp 167) rfl C (j * 16) (by kernel_rfl) (hl NJ) _ HRJ.out hu28 rfl mj ?_) | (refine st28 rfl (.tmp 27) (.tmp 168) rfl wr.heap.size NJ (by kernel_rfl) (by kernel_rfl) z16 (heap_alloc_new wr _) hjl rfl (Hid.out ?_)))
      rw [hz28]
      have HBn := (nbox wr z16 NJ).2
      have X27 : Aside _ := (nbox wr z16 NJ).1
      have HB2 : Aside (Below Wp.heap.size Wp ((wr.alloc (.cells (hl z16).toArray 29)).setRow wr.heap.size (hl NJ).toArray)) := HB.out.trans (HBn.mono HB.out.size)
      clear HBn HB HRJ mj
      generalize (wr.alloc (.cells (hl z16).toArray 29)).setRow wr.heap.size (hl NJ).toArray = Wq at *
      generalize wr.heap.size = D27 at *
      have HBd : Aside (Below Wp.heap.size Wp Wq.drew) := HB2.out.trans ((bel_drew Wq).mono HB2.out.size)
      have X27d : Aside (Wq.drew.heap[D27]? = some (.cells (hl NJ).toArray 29 (0, 0))) := X27.out
      have HH1 : Aside (Calls Try.prog 26 #[.pointer (some ⟨V, 0, none⟩), .slice (some ⟨D27, 0, none⟩) 16 16, .slice (some ⟨D25, 0, none⟩) 7 7] Wq.drew fun e w' => e = .returned (.bool true) ∧ Below Wq.drew.heap.size Wq.drew w') :=
        hid_seen (m := four j) (HKa.out.go HBd.out) (HAa.out.go HBd.out) (heap_bel XSa.out HBd.out) (fun j v h => by simpa [seesC] using h) (by rw [HNJ.out]; exact X27d.out) H4.out
      have HGO : Aside (∀ X, Below Wq.drew.heap.size Wq.drew X → Below Wp.heap.size Wp X ∧ X.heap[D27]? = some (.cells (hl NJ).toArray 29 (0, 0))) := fun X hX => ⟨HBd.out.trans (hX.mono HBd.out.size), heap_bel X27d.out hX⟩
      refine mkHid ?_
      go_wp2_with fail
      refine wp_region_held_drew (S := fun _ => True) (by kernel_rfl) trivial (fun hHeld => ?_)
      refine wpAnyH_take (i := 0) (v := .pointer (some ⟨V, 0, none⟩)) rfl (by kernel_rfl) (by kernel_rfl) (by kernel_rfl) (fun _ _ _ h => h) (Or.inl ⟨by rfl, by intro w hs; go_simp⟩) hHeld ?_
      refine norm_any' (fun K hK => ?_)
      go_simp
      refine hK _ _ ?_
      clear hK K
      refine wpAnyH_take (i := 1) (v := .slice (some ⟨D27, 0, none⟩) 16 16) rfl (by kernel_rfl) (by kernel_rfl) (by kernel_rfl) (fun _ _ _ h => h) (Or.inl ⟨by rfl, by intro w hs; go_simp⟩) hHeld ?_
      refine norm_any' (fun K hK => ?_)
      go_simp
      refine hK _ _ ?_
      clear hK K
      refine wpAnyH_take (i := 2) (v := .slice (some ⟨D25, 0, none⟩) 7 7) rfl (by kernel_rfl) (by kernel_rfl) (by kernel_rfl) (fun _ _ _ h => h) (Or.inl ⟨by rfl, by intro w hs; go_simp⟩) hHeld ?_
      refine norm_any' (fun K hK => ?_)
      go_simp
      refine hK _ _ ?_
      clear hK K
      refine wpAnyH_ready (rs := [3]) (by kernel_rfl) (by simp) (AllReadyH.cons rfl (fun K hK => ?_) AllReadyH.nil)
      go_simp
      refine Calls.mono HH1.out ?_
      rintro e Y1 ⟨rfl, hb1⟩
      obtain ⟨hg1, hg2⟩ := HGO.out Y1 hb1
      have HG1 : Aside (Below Wp.heap.size Wp Y1) := hg1
      have G27 : Aside (Y1.heap[D27]? = some (.cells (hl NJ).toArray 29 (0, 0))) := hg2
      clear hb1 hg1 hg2 HH1 HGO
      refine hK.out _ _ trivial (fun hHeld => ?_)
      clear hK K
      refine norm_any' (fun K hK => ?_)
      go_simp
      refine hK _ _ ?_
      clear hK K
      refine wpAnyH_take (i := 4) (v := .bool false) rfl (by kernel_rfl) (by kernel_rfl) (by kernel_rfl) (fun _ _ _ h => h) (Or.inl ⟨by rfl, by intro w hs; go_simp⟩) hHeld ?_
      refine norm_any' (fun K hK => ?_)
      go_simp
      refine hK _ _ ?_
      clear hK K
      refine wpAnyH_take (i := 5) (v := .bool false) rfl (by kernel_rfl) (by kernel_rfl) (by kernel_rfl) (fun _ _ _ h => h) (Or.inl ⟨by rfl, by intro w hs; go_simp⟩) hHeld ?_
      refine norm_any' (fun K hK => ?_)
      go_simp
      refine hK _ _ ?_
      clear hK K
      refine wpAnyH_take (i := 6) (v := .pointer (some ⟨V, 0, none⟩)) rfl (by kernel_rfl) (by kernel_rfl) (by kernel_rfl) (fun _ _ _ h => h) (Or.inl ⟨by rfl, by intro w hs; go_simp⟩) hHeld ?_
      refine norm_any' (fun K hK => ?_)
      go_simp
      refine hK _ _ ?_
      clear hK K
      refine wpAnyH_take (i := 7) (v := .slice (some ⟨D27, 0, none⟩) 16 16) rfl (by kernel_rfl) (by kernel_rfl) (by kernel_rfl) (fun _ _ _ h => h) (Or.inl ⟨by rfl, by intro w hs; go_simp⟩) hHeld ?_
      refine norm_any' (fun K hK => ?_)
      go_simp
      refine hK _ _ ?_
      clear hK K
      refine wpAnyH_take (i := 8) (v := .slice (some ⟨D25, 0, none⟩) 7 7) rfl (by kernel_rfl) (by kernel_rfl) (by kernel_rfl) (fun _ _ _ h => h) (Or.inl ⟨by rfl, by intro w hs; go_simp⟩) hHeld ?_
      refine norm_any' (fun K hK => ?_)
      go_simp
      refine hK _ _ ?_
      clear hK K
      refine wpAnyH_take (i := 9) (v := .slice (some ⟨D6, 0, none⟩) 16 16) rfl (by kernel_rfl) (by kernel_rfl) (by kernel_rfl) (fun _ _ _ h => h) (Or.inl ⟨by rfl, by intro w hs; go_simp⟩) hHeld ?_
      refine norm_any' (fun K hK => ?_)
      go_simp
      refine hK _ _ ?_
      clear hK K
      refine wpAnyH_ready (rs := [10]) (by kernel_rfl) (by simp) (AllReadyH.cons rfl (fun K hK => ?_) AllReadyH.nil)
      go_simp
      have hbk := bel1 Y1 (.cells #[.slice (some ⟨D6, 0, none⟩) 16 16] 33)
      have HG2 : Aside (Below Wp.heap.size Wp (Y1.alloc (.cells #[.slice (some ⟨D6, 0, none⟩) 16 16] 33))) := HG1.out.trans (hbk.mono HG1.out.size)
      have XK : Aside ((Y1.alloc (.cells #[.slice (some ⟨D6, 0, none⟩) 16 16] 33)).heap[Y1.heap.size]? = some (.cells #[.slice (some ⟨D6, 0, none⟩) 16 16] 33 (0, 0))) := new' rfl
      have H27 : Aside ((Y1.alloc (.cells #[.slice (some ⟨D6, 0, none⟩) 16 16] 33)).heap[D27]? = some (.cells (hl NJ).toArray 29 (0, 0))) := heap_bel G27.out hbk
      clear hbk
      refine hK.out _ _ trivial (fun hHeld => ?_)
      clear hK K
      refine norm_any' (fun K hK => ?_)
      go_simp
      refine hK _ _ ?_
      clear hK K
      generalize Y1.alloc (.cells #[.slice (some ⟨D6, 0, none⟩) 16 16] 33) = Y2 at *
      generalize Y1.heap.size = DK at *
      obtain ⟨c', Y3, cs, hrun, hbr, hcr, hcs⟩ := app_see (Z := [.slice (some ⟨D8, 0, none⟩) 16 16, .slice (some ⟨D10, 0, none⟩) 16 16, .slice oa la.length ca, .slice ob lb.length cb, .slice (some ⟨D18, 0, none⟩) 16 16, .slice (some ⟨D16, 0, none⟩) 16 16, .slice (some ⟨D23, 0, none⟩) 16 16]) rfl (heap_bel XSa.out HG2.out) XK.out
      have HRUN : Aside _ := hrun
      have HG3 : Aside (Below Wp.heap.size Wp Y3) := HG2.out.trans (hbr.mono HG2.out.size)
      have HH2 : Aside (Calls Try.prog 26 #[.pointer (some ⟨V, 0, none⟩), .slice (some ⟨D27, 0, none⟩) 16 16, .slice (some ⟨Y2.heap.size, 0, none⟩) 8 c'] Y3 fun e w' => e = .returned (.bool false) ∧ Below Y3.heap.size Y3 w') :=
        hid_with (m := four j) (HKa.out.go HG3.out) (HAa.out.go HG3.out) hcr hcs (by rw [HNJ.out]; exact heap_bel H27.out hbr) H4.out
      clear hrun hbr hcr hcs
      refine wpAnyH_ready (rs := [11]) (by kernel_rfl) (by simp) (AllReadyH.cons rfl (fun K hK => ?_) AllReadyH.nil)
      refine step_append_g (by rfl) _ _ 58 58 rfl _ _ (by rfl) (by rfl) HRUN.out ?_
      refine hK.out _ _ trivial (fun hHeld => ?_)
      clear hK K
      refine norm_any' (fun K hK => ?_)
      go_simp
      refine hK _ _ ?_
      clear hK K
      refine wpAnyH_ready (rs := [12]) (by kernel_rfl) (by simp) (AllReadyH.cons rfl (fun K hK => ?_) AllReadyH.nil)
      go_simp
      refine Calls.mono HH2.out ?_
      rintro e Y4 ⟨rfl, hb1⟩
      have HG4 : Aside (Below Wp.heap.size Wp Y4) := HG3.out.trans (hb1.mono HG3.out.size)
      clear hb1
      refine hK.out _ _ trivial (fun hHeld => ?_)
      clear hK K
      refine norm_any' (fun K hK => ?_)
      go_simp
      refine hK _ _ ?_
      clear hK K
      refine wpAnyH_take (i := 13) (v := .bool false) rfl (by kernel_rfl) (by kernel_rfl) (by kernel_rfl) (fun _ _ _ h => h) (Or.inl ⟨by rfl, by intro w hs; go_simp⟩) hHeld ?_
      refine norm_any' (fun K hK => ?_)
      go_simp
      refine hK _ _ ?_
      clear hK K
      refine wpAnyH_done (by kernel_rfl) ?_ _
      clear hHeld
      go_wp2_with fail
      go_roundg (4 - (j + 1))
      case measure => omega
      case rel => exact ⟨j + 1, rfl, by omega, Nat.le_refl _, HG4.out⟩
    · as_aux_lemma =>
      obtain rfl : j = 4 := by omega
      have HK : Aside _ := HKa.out.go HB.out
      have HAe : Aside (Ag w wr V (LK la)) := HAa.out.go HB.out
      have HH : Aside (Calls Try.prog 26 #[.pointer (some ⟨V, 0, none⟩), .slice (some ⟨D16, 0, none⟩) 16 16, .slice none 0 0] wr fun e w' => e = .returned (.bool false) ∧ Below w.heap.size w w') := by
        have := hid_nil HAe.out (by_box HK.out.b16)
        rw [nameL_len] at this
        refine this.mono ?_
        rintro e w' ⟨b, rfl, _, h6, hbel⟩
        rw [h6 (by intro x hx; rw [nw 6 (by omega)] at hx; simpa using hx)]
        exact ⟨rfl, HAe.out.bel.trans (hbel.mono HAe.out.bel.size)⟩
      clear HK HAe
      go_wp2_with fail
      refine Calls.mono HH.out ?_
      rintro e We ⟨rfl, hbe⟩
      have HF : Aside _ := hbe
      clear hbe
      go_wp2_with fail
      go_ret
      exact ⟨rfl, HF.out⟩
end Go.Proofs.Ytpjoaimbaboleaa
