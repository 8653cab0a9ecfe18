/- The reference's keys: Initial. -/
import Derived.Test.YtdklkofnekacdaaRk
namespace Go.Proofs.Ytdklkofnekacdaa
open Go.RowKit Go.Shelf Go.Lib
set_option linter.unusedVariables false

section
variable {W0 w w' : World} {V R : Nat} {L0 L L1 L2 L3 : List Tm}
set_option maxRecDepth 100000 in
set_option maxHeartbeats 1000000 in
theorem rinitial_false (h : Rs W0 w V L0 R L) (hle : L.length ≤ 900) (o : Option Addr) (NL cp : Nat) (hNL : NL ≤ 20) (i1 i2 : Nat) (K3 : List UInt8) (hK : K3.length = 48)
    (hd1 : ∀ X, Rs W0 X V L0 R L → Calls Try.prog 26 #[.pointer (some ⟨R, 0, none⟩), hv (nameL 0), .string bInit, .slice o NL cp] X fun e w' => e = .returned (.tuple #[hv (nameL i1), .int .i64 0]) ∧ Rs W0 w' V L0 R L1 ∧ Kz X w')
    (hd2 : ∀ X, Rs W0 X V L0 R L1 → Calls Try.prog 26 #[.pointer (some ⟨R, 0, none⟩), hv (nameL i1), .string bCli, .slice none 0 0] X fun e w' => e = .returned (.tuple #[hv (nameL i2), .int .i64 0]) ∧ Rs W0 w' V L0 R L2 ∧ Kz X w')
    (hm : ∀ X, Rs W0 X V L0 R L2 → Calls Try.prog 14 #[.pointer (some ⟨R, 0, none⟩), hv (nameL i2)] X fun e w' => e = .returned (.tuple #[hv K3, .int .i64 0]) ∧ Rs W0 w' V L0 R L3 ∧ Kz X w') :
    Calls Try.prog 9 #[.pointer (some ⟨R, 0, none⟩), .slice o NL cp, .bool false] w fun e w' => e = .returned (.tuple #[hv K3, .int .i64 0]) ∧ Rs W0 w' V L0 R L3 ∧ Kz w w' := by
  have HD1 : Aside _ := hd1
  have HD2 : Aside _ := hd2
  have HM : Aside _ := hm
  have HRT : Aside (∀ X : World, Calls Try.prog 7 #[.int .i64 0] X fun e w' => e = .returned (hv (nameL 0)) ∧ Below X.heap.size X w') := fun X => rname_c 0 (by omega) X
  have HGE : Aside (W0.heap.size ≤ w.heap.size) := h.bel.size
  have HA : Aside (Rs W0 (w.alloc (.cells (hl z48).toArray 38)) V L0 R L) := h.go (bel1 _ _)
  have HC : Aside (Kz w (w.alloc (.cells (hl z48).toArray 38))) := Kz.of_bel (bel1 _ _)
  have X6 : Aside _ := heap_alloc_new w (.cells (hl z48).toArray 38)
  have j1 : ¬ (20 : Int) < (NL : Int) := by omega
  have j2 : decide ((20 : Int) < (NL : Int)) = false := by simpa using j1
  clear h hd1 hd2 hm
  have n0 := nameL_len 0
  have n1 := nameL_len i1
  have n2 := nameL_len i2
  generalize nameL 0 = N0 at *
  generalize nameL i1 = N1 at *
  generalize nameL i2 = N2 at *
  go_enter Try.func9, Try.ntmps9
  go_wp2_with fail
  rw [hz38]
  generalize w.alloc (.cells (hl z48).toArray 38) = W1 at *
  refine Calls.mono (HRT.out _) ?_
  rintro e W3 ⟨rfl, hb⟩
  have HA2 : Aside (Rs W0 W3 V L0 R L) := HA.out.go hb
  have HC2 : Aside (Kz w W3) := HC.out.trans (Kz.of_bel hb)
  have X62 : Aside _ := heap_bel X6.out hb
  clear hb HA HC X6 HRT
  have HA : Aside (Rs W0 W3 V L0 R L) := HA2.out
  have HC : Aside (Kz w W3) := HC2.out
  have X6 : Aside _ := X62.out
  clear HA2 HC2 X62
  go_wp2_with fail
  refine Calls.mono (HD1.out _ HA.out) ?_
  rintro e W4 ⟨rfl, ha, hkc⟩
  have HA' : Aside (Rs W0 W4 V L0 R L1) := ha
  have HC' : Aside (Kz w W4) := HC.out.trans hkc
  have X6' : Aside _ := hkc _ _ _ _ X6.out (by decide) (by decide)
  clear HA HC ha hkc X6
  have HA : Aside (Rs W0 W4 V L0 R L1) := HA'.out
  have HC : Aside (Kz w W4) := HC'.out
  have X6 : Aside _ := X6'.out
  clear HA' HC' X6'
  go_wp2_with (refine str rfl (.tmp 9) (.tmp 23) rfl W4.heap.size N1 rfl rfl z16 (heap_alloc_new W4 _) n1 rfl (Hid.out ?_))
  rw [hz28r]
  have HBn := (nboxr W4 z16 N1).2
  have X9' : Aside _ := (nboxr W4 z16 N1).1
  have HA' : Aside (Rs W0 ((W4.alloc (.cells (hl z16).toArray 28)).setRow W4.heap.size (hl N1).toArray) V L0 R L1) := HA.out.go HBn
  have HC' : Aside (Kz w ((W4.alloc (.cells (hl z16).toArray 28)).setRow W4.heap.size (hl N1).toArray)) := HC.out.trans (Kz.of_bel HBn)
  have X6' : Aside _ := heap_bel X6.out HBn
  clear HA HC HBn X6
  generalize (W4.alloc (.cells (hl z16).toArray 28)).setRow W4.heap.size (hl N1).toArray = W5 at *
  generalize W4.heap.size = B9 at *
  have HA : Aside (Rs W0 W5 V L0 R L1) := HA'.out
  have HC : Aside (Kz w W5) := HC'.out
  have X6 : Aside _ := X6'.out
  have X9 : Aside _ := X9'.out
  clear HA' HC' X6' X9'
  refine mkHid ?_
  go_wp2_with (refine ldr rfl (.tmp 9) rfl B9 rfl N1 X9.out n1 ?_)
  refine Calls.mono (HD2.out _ HA.out) ?_
  rintro e W6 ⟨rfl, ha, hkc⟩
  have HA' : Aside (Rs W0 W6 V L0 R L2) := ha
  have HC' : Aside (Kz w W6) := HC.out.trans hkc
  have X6' : Aside _ := hkc _ _ _ _ X6.out (by decide) (by decide)
  have X9' : Aside _ := hkc _ _ _ _ X9.out (by decide) (by decide)
  clear HA HC ha hkc X6 X9
  have HA : Aside (Rs W0 W6 V L0 R L2) := HA'.out
  have HC : Aside (Kz w W6) := HC'.out
  have X6 : Aside _ := X6'.out
  have X9 : Aside _ := X9'.out
  clear HA' HC' X6' X9'
  go_wp2_with (refine str rfl (.tmp 11) (.tmp 30) rfl W6.heap.size N2 rfl rfl z16 (heap_alloc_new W6 _) n2 rfl (Hid.out ?_))
  rw [hz28r]
  have HBn := (nboxr W6 z16 N2).2
  have X11' : Aside _ := (nboxr W6 z16 N2).1
  have HA' : Aside (Rs W0 ((W6.alloc (.cells (hl z16).toArray 28)).setRow W6.heap.size (hl N2).toArray) V L0 R L2) := HA.out.go HBn
  have HC' : Aside (Kz w ((W6.alloc (.cells (hl z16).toArray 28)).setRow W6.heap.size (hl N2).toArray)) := HC.out.trans (Kz.of_bel HBn)
  have X6' : Aside _ := heap_bel X6.out HBn
  have X9' : Aside _ := heap_bel X9.out HBn
  clear HA HC HBn X6 X9
  generalize (W6.alloc (.cells (hl z16).toArray 28)).setRow W6.heap.size (hl N2).toArray = W7 at *
  generalize W6.heap.size = B11 at *
  have HA : Aside (Rs W0 W7 V L0 R L2) := HA'.out
  have HC : Aside (Kz w W7) := HC'.out
  have X6 : Aside _ := X6'.out
  have X9 : Aside _ := X9'.out
  have X11 : Aside _ := X11'.out
  clear HA' HC' X6' X9' X11'
  refine mkHid ?_
  go_wp2_with (refine ldr rfl (.tmp 11) rfl B11 rfl N2 X11.out n2 ?_)
  refine Calls.mono (HM.out _ HA.out) ?_
  rintro e W8 ⟨rfl, ha, hkc⟩
  have HA' : Aside (Rs W0 W8 V L0 R L3) := ha
  have HC' : Aside (Kz w W8) := HC.out.trans hkc
  have X6' : Aside _ := hkc _ _ _ _ X6.out (by decide) (by decide)
  clear HA HC ha hkc X6
  have HA : Aside (Rs W0 W8 V L0 R L3) := HA'.out
  have HC : Aside (Kz w W8) := HC'.out
  have X6 : Aside _ := X6'.out
  clear HA' HC' X6'
  have HR : Aside _ := setRow_heap W8 w.heap.size _ (hl K3).toArray 38 (0, 0) X6.out
  have HAF : Aside (Rs W0 (W8.setRow w.heap.size (hl K3).toArray) V L0 R L3) := HA.out.setAny X6.out (.inr rfl) HGE.out _
  have HCF : Aside (Kz w (W8.setRow w.heap.size (hl K3).toArray)) := HC.out.set (Nat.le_refl _) _
  go_wp2_with (refine st38 rfl (.tmp 6) (.tmp 35) rfl w.heap.size K3 rfl rfl z48 X6.out hK rfl ?_)
  refine bodyPost_ret (v := .tuple #[hv K3, .int .i64 0]) (res_38 (fn := Try.f9) (p := 6) (u := 7) rfl _ _ w.heap.size K3 rfl HR.out hK) rfl ?_
  exact ⟨rfl, HAF.out, HCF.out⟩
set_option maxRecDepth 100000 in
set_option maxHeartbeats 1000000 in
theorem rinitial_true (h : Rs W0 w V L0 R L) (hle : L.length ≤ 900) (o : Option Addr) (NL cp : Nat) (hNL : NL ≤ 20) (i1 i2 : Nat) (K3 : List UInt8) (hK : K3.length = 48)
    (hd1 : ∀ X, Rs W0 X V L0 R L → Calls Try.prog 26 #[.pointer (some ⟨R, 0, none⟩), hv (nameL 0), .string bInit, .slice o NL cp] X fun e w' => e = .returned (.tuple #[hv (nameL i1), .int .i64 0]) ∧ Rs W0 w' V L0 R L1 ∧ Kz X w')
    (hd2 : ∀ X, Rs W0 X V L0 R L1 → Calls Try.prog 26 #[.pointer (some ⟨R, 0, none⟩), hv (nameL i1), .string bSer, .slice none 0 0] X fun e w' => e = .returned (.tuple #[hv (nameL i2), .int .i64 0]) ∧ Rs W0 w' V L0 R L2 ∧ Kz X w')
    (hm : ∀ X, Rs W0 X V L0 R L2 → Calls Try.prog 14 #[.pointer (some ⟨R, 0, none⟩), hv (nameL i2)] X fun e w' => e = .returned (.tuple #[hv K3, .int .i64 0]) ∧ Rs W0 w' V L0 R L3 ∧ Kz X w') :
    Calls Try.prog 9 #[.pointer (some ⟨R, 0, none⟩), .slice o NL cp, .bool true] w fun e w' => e = .returned (.tuple #[hv K3, .int .i64 0]) ∧ Rs W0 w' V L0 R L3 ∧ Kz w w' := by
  have HD1 : Aside _ := hd1
  have HD2 : Aside _ := hd2
  have HM : Aside _ := hm
  have HRT : Aside (∀ X : World, Calls Try.prog 7 #[.int .i64 0] X fun e w' => e = .returned (hv (nameL 0)) ∧ Below X.heap.size X w') := fun X => rname_c 0 (by omega) X
  have HGE : Aside (W0.heap.size ≤ w.heap.size) := h.bel.size
  have HA : Aside (Rs W0 (w.alloc (.cells (hl z48).toArray 38)) V L0 R L) := h.go (bel1 _ _)
  have HC : Aside (Kz w (w.alloc (.cells (hl z48).toArray 38))) := Kz.of_bel (bel1 _ _)
  have X6 : Aside _ := heap_alloc_new w (.cells (hl z48).toArray 38)
  have j1 : ¬ (20 : Int) < (NL : Int) := by omega
  have j2 : decide ((20 : Int) < (NL : Int)) = false := by simpa using j1
  clear h hd1 hd2 hm
  have n0 := nameL_len 0
  have n1 := nameL_len i1
  have n2 := nameL_len i2
  generalize nameL 0 = N0 at *
  generalize nameL i1 = N1 at *
  generalize nameL i2 = N2 at *
  go_enter Try.func9, Try.ntmps9
  go_wp2_with fail
  rw [hz38]
  generalize w.alloc (.cells (hl z48).toArray 38) = W1 at *
  refine Calls.mono (HRT.out _) ?_
  rintro e W3 ⟨rfl, hb⟩
  have HA2 : Aside (Rs W0 W3 V L0 R L) := HA.out.go hb
  have HC2 : Aside (Kz w W3) := HC.out.trans (Kz.of_bel hb)
  have X62 : Aside _ := heap_bel X6.out hb
  clear hb HA HC X6 HRT
  have HA : Aside (Rs W0 W3 V L0 R L) := HA2.out
  have HC : Aside (Kz w W3) := HC2.out
  have X6 : Aside _ := X62.out
  clear HA2 HC2 X62
  go_wp2_with fail
  refine Calls.mono (HD1.out _ HA.out) ?_
  rintro e W4 ⟨rfl, ha, hkc⟩
  have HA' : Aside (Rs W0 W4 V L0 R L1) := ha
  have HC' : Aside (Kz w W4) := HC.out.trans hkc
  have X6' : Aside _ := hkc _ _ _ _ X6.out (by decide) (by decide)
  clear HA HC ha hkc X6
  have HA : Aside (Rs W0 W4 V L0 R L1) := HA'.out
  have HC : Aside (Kz w W4) := HC'.out
  have X6 : Aside _ := X6'.out
  clear HA' HC' X6'
  go_wp2_with (refine str rfl (.tmp 9) (.tmp 23) rfl W4.heap.size N1 rfl rfl z16 (heap_alloc_new W4 _) n1 rfl (Hid.out ?_))
  rw [hz28r]
  have HBn := (nboxr W4 z16 N1).2
  have X9' : Aside _ := (nboxr W4 z16 N1).1
  have HA' : Aside (Rs W0 ((W4.alloc (.cells (hl z16).toArray 28)).setRow W4.heap.size (hl N1).toArray) V L0 R L1) := HA.out.go HBn
  have HC' : Aside (Kz w ((W4.alloc (.cells (hl z16).toArray 28)).setRow W4.heap.size (hl N1).toArray)) := HC.out.trans (Kz.of_bel HBn)
  have X6' : Aside _ := heap_bel X6.out HBn
  clear HA HC HBn X6
  generalize (W4.alloc (.cells (hl z16).toArray 28)).setRow W4.heap.size (hl N1).toArray = W5 at *
  generalize W4.heap.size = B9 at *
  have HA : Aside (Rs W0 W5 V L0 R L1) := HA'.out
  have HC : Aside (Kz w W5) := HC'.out
  have X6 : Aside _ := X6'.out
  have X9 : Aside _ := X9'.out
  clear HA' HC' X6' X9'
  refine mkHid ?_
  go_wp2_with (refine ldr rfl (.tmp 9) rfl B9 rfl N1 X9.out n1 ?_)
  refine Calls.mono (HD2.out _ HA.out) ?_
  rintro e W6 ⟨rfl, ha, hkc⟩
  have HA' : Aside (Rs W0 W6 V L0 R L2) := ha
  have HC' : Aside (Kz w W6) := HC.out.trans hkc
  have X6' : Aside _ := hkc _ _ _ _ X6.out (by decide) (by decide)
  have X9' : Aside _ := hkc _ _ _ _ X9.out (by decide) (by decide)
  clear HA HC ha hkc X6 X9
  have HA : Aside (Rs W0 W6 V L0 R L2) := HA'.out
  have HC : Aside (Kz w W6) := HC'.out
  have X6 : Aside _ := X6'.out
  have X9 : Aside _ := X9'.out
  clear HA' HC' X6' X9'
  go_wp2_with (refine str rfl (.tmp 11) (.tmp 30) rfl W6.heap.size N2 rfl rfl z16 (heap_alloc_new W6 _) n2 rfl (Hid.out ?_))
  rw [hz28r]
  have HBn := (nboxr W6 z16 N2).2
  have X11' : Aside _ := (nboxr W6 z16 N2).1
  have HA' : Aside (Rs W0 ((W6.alloc (.cells (hl z16).toArray 28)).setRow W6.heap.size (hl N2).toArray) V L0 R L2) := HA.out.go HBn
  have HC' : Aside (Kz w ((W6.alloc (.cells (hl z16).toArray 28)).setRow W6.heap.size (hl N2).toArray)) := HC.out.trans (Kz.of_bel HBn)
  have X6' : Aside _ := heap_bel X6.out HBn
  have X9' : Aside _ := heap_bel X9.out HBn
  clear HA HC HBn X6 X9
  generalize (W6.alloc (.cells (hl z16).toArray 28)).setRow W6.heap.size (hl N2).toArray = W7 at *
  generalize W6.heap.size = B11 at *
  have HA : Aside (Rs W0 W7 V L0 R L2) := HA'.out
  have HC : Aside (Kz w W7) := HC'.out
  have X6 : Aside _ := X6'.out
  have X9 : Aside _ := X9'.out
  have X11 : Aside _ := X11'.out
  clear HA' HC' X6' X9' X11'
  refine mkHid ?_
  go_wp2_with (refine ldr rfl (.tmp 11) rfl B11 rfl N2 X11.out n2 ?_)
  refine Calls.mono (HM.out _ HA.out) ?_
  rintro e W8 ⟨rfl, ha, hkc⟩
  have HA' : Aside (Rs W0 W8 V L0 R L3) := ha
  have HC' : Aside (Kz w W8) := HC.out.trans hkc
  have X6' : Aside _ := hkc _ _ _ _ X6.out (by decide) (by decide)
  clear HA HC ha hkc X6
  have HA : Aside (Rs W0 W8 V L0 R L3) := HA'.out
  have HC : Aside (Kz w W8) := HC'.out
  have X6 : Aside _ := X6'.out
  clear HA' HC' X6'
  have HR : Aside _ := setRow_heap W8 w.heap.size _ (hl K3).toArray 38 (0, 0) X6.out
  have HAF : Aside (Rs W0 (W8.setRow w.heap.size (hl K3).toArray) V L0 R L3) := HA.out.setAny X6.out (.inr rfl) HGE.out _
  have HCF : Aside (Kz w (W8.setRow w.heap.size (hl K3).toArray)) := HC.out.set (Nat.le_refl _) _
  go_wp2_with (refine st38 rfl (.tmp 6) (.tmp 35) rfl w.heap.size K3 rfl rfl z48 X6.out hK rfl ?_)
  refine bodyPost_ret (v := .tuple #[hv K3, .int .i64 0]) (res_38 (fn := Try.f9) (p := 6) (u := 7) rfl _ _ w.heap.size K3 rfl HR.out hK) rfl ?_
  exact ⟨rfl, HAF.out, HCF.out⟩
end
end Go.Proofs.Ytdklkofnekacdaa
