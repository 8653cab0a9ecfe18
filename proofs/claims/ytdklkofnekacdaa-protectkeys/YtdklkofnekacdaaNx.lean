/- Keys that are refused, on both sides. -/
import Derived.Test.YtdklkofnekacdaaNn
namespace Go.Proofs.Ytdklkofnekacdaa
open Go.RowKit Go.Shelf Go.Lib
set_option linter.unusedVariables false

section
variable {W0 w w' : World} {V R : Nat} {L0 L : List Tm}
set_option maxRecDepth 100000 in
/-- Next of keys that nobody made. -/
theorem next_no (h : Ag W0 w V L) (hle : L.length ≤ 1000) (hn : ∀ k, k < L.length → z16 ≠ nameL k) : Calls Try.prog 11 #[.pointer (some ⟨V, 0, none⟩), hv z48] w fun e w' => e = .returned (.tuple #[hv z48, .int .i64 15]) ∧ Below w.heap.size w w' := by
  have hbl : Below w.heap.size w ((w.alloc (.cells (hl z48).toArray 33)).alloc (.cells (hl z48).toArray 33)) := (bel1 w _).alloc (by simp) _
  have HD : Aside _ := der_no (h.go hbl) hle z16 rfl hn bNext none 0 0
  have HX3 : Aside (((w.alloc (.cells (hl z48).toArray 33)).alloc (.cells (hl z48).toArray 33)).heap[w.heap.size]? = some (.cells (hl z48).toArray 33 (0, 0))) := nth' (new' rfl)
  have HX4 : Aside (((w.alloc (.cells (hl z48).toArray 33)).alloc (.cells (hl z48).toArray 33)).heap[w.heap.size + 1]? = some (.cells (hl z48).toArray 33 (0, 0))) := new' (by simp)
  have hz : z48 = z16 ++ z16 ++ z16 := rfl
  have HR0 : Aside (∀ X : World, X.heap[w.heap.size]? = some (.cells (hl z48).toArray 33 (0, 0)) → X.rangeAt w.heap.size 0 (hl z16)) := fun X hX => by rw [hz] at hX; exact (rg33 hX rfl rfl rfl).1
  have hm0 : (Try.prog.info? 29).map (·.size) = some (hl z16).length := hi28.trans (by simp [z16])
  have hu := hu28
  have HBW : Aside _ := hbl
  clear h hbl hn hz
  go_enter Try.func11, Try.ntmps11
  go_wp2_with (refine wpList_load_mid rfl 29 (.tmp 12) rfl w.heap.size 0 rfl (hl z16) _ (HR0.out _ HX3.out) hu rfl hm0 (Hid.out ?_))
  rw [hz33]
  generalize (w.alloc (.cells (hl z48).toArray 33)).alloc (.cells (hl z48).toArray 33) = W1 at *
  refine mkHid ?_
  go_wp2_with fail
  refine Calls.mono HD.out ?_
  rintro e W2 ⟨rfl, hb⟩
  have HY4 : Aside _ := heap_bel HX4.out hb
  have HB2 : Aside (Below w.heap.size w W2) := HBW.out.trans (hb.mono HBW.out.size)
  clear hb HD HX3 HX4 HBW HR0
  go_wp2_with (refine st28 rfl (.tmp 6) (.tmp 15) rfl W2.heap.size z16 rfl rfl z16 (heap_alloc_new W2 _) rfl rfl (Hid.out ?_))
  rw [hz28]
  have HBn := (nbox W2 z16 z16).2
  have HX : Aside _ := heap_bel HY4.out HBn
  have HB3 : Aside (Below w.heap.size w ((W2.alloc (.cells (hl z16).toArray 29)).setRow W2.heap.size (hl z16).toArray)) := HB2.out.trans (HBn.mono HB2.out.size)
  clear HY4 HB2 HBn
  generalize (W2.alloc (.cells (hl z16).toArray 29)).setRow W2.heap.size (hl z16).toArray = W3 at *
  generalize W2.heap.size = B6 at *
  have HRS : Aside _ := setRow_heap W3 (w.heap.size + 1) _ (hl z48).toArray 33 (0, 0) HX.out
  have HBF : Aside (Below w.heap.size w (W3.setRow (w.heap.size + 1) (hl z48).toArray)) := bel_set HB3.out (by omega) _
  refine mkHid ?_
  go_wp2_with (refine st33 rfl (.tmp 4) (.tmp 19) rfl (w.heap.size + 1) z48 rfl rfl z48 HX.out rfl rfl ?_)
  refine bodyPost_ret (v := .tuple #[hv z48, .int .i64 15]) (res_33 (fn := Try.f11) (p := 4) (u := 5) rfl _ _ (w.heap.size + 1) z48 rfl HRS.out rfl) rfl ?_
  exact ⟨rfl, HBF.out⟩
set_option maxRecDepth 100000 in
/-- Initial of too long an identifier. -/
theorem initial_big (h : Ag W0 w V L) (hle : L.length ≤ 1000) (o : Option Addr) (NL cp : Nat) (hNL : 20 < NL) (b : Bool) : Calls Try.prog 8 #[.pointer (some ⟨V, 0, none⟩), .slice o NL cp, .bool b] w fun e w' => e = .returned (.tuple #[hv z48, .int .i64 2]) ∧ Below w.heap.size w w' := by
  have HN : Aside _ := pnone_c (h.go (bel1 w (.cells (hl z48).toArray 33))) hle
  have HX6 : Aside _ := heap_alloc_new w (.cells (hl z48).toArray 33)
  have HBW : Aside _ := bel1 w (.cells (hl z48).toArray 33)
  have j1 : (20 : Int) < (NL : Int) := by omega
  have j2 : decide ((20 : Int) < (NL : Int)) = true := by simpa using j1
  clear h
  go_enter Try.func8, Try.ntmps8
  go_wp2_with fail
  rw [hz33]
  generalize w.alloc (.cells (hl z48).toArray 33) = W1 at *
  refine Calls.mono HN.out ?_
  rintro e W2 ⟨rfl, hb⟩
  have HX : Aside _ := heap_bel HX6.out hb
  have HB2 : Aside (Below w.heap.size w W2) := HBW.out.trans (hb.mono HBW.out.size)
  have HRS : Aside _ := setRow_heap W2 w.heap.size _ (hl z48).toArray 33 (0, 0) HX.out
  have HBF : Aside (Below w.heap.size w (W2.setRow w.heap.size (hl z48).toArray)) := bel_set HB2.out (Nat.le_refl _) _
  clear hb HN HX6 HBW HB2
  go_wp2_with (refine st33 rfl (.tmp 6) (.tmp 21) rfl w.heap.size z48 rfl rfl z48 HX.out rfl rfl ?_)
  refine bodyPost_ret (v := .tuple #[hv z48, .int .i64 2]) (res_33 (fn := Try.f8) (p := 6) (u := 7) rfl _ _ w.heap.size z48 rfl HRS.out rfl) rfl ?_
  exact ⟨rfl, HBF.out⟩
set_option maxRecDepth 100000 in
theorem rinitial_big (R : Nat) (w : World) (o : Option Addr) (NL cp : Nat) (hNL : 20 < NL) (b : Bool) : Calls Try.prog 9 #[.pointer (some ⟨R, 0, none⟩), .slice o NL cp, .bool b] w fun e w' => e = .returned (.tuple #[hv z48, .int .i64 2]) ∧ Below w.heap.size w w' := by
  have HX : Aside _ := heap_alloc_new w (.cells (hl z48).toArray 38)
  have HRS : Aside _ := setRow_heap _ w.heap.size _ (hl z48).toArray 38 (0, 0) HX.out
  have HBF : Aside (Below w.heap.size w ((w.alloc (.cells (hl z48).toArray 38)).setRow w.heap.size (hl z48).toArray)) := bel_set (bel1 w _) (Nat.le_refl _) _
  have j1 : (20 : Int) < (NL : Int) := by omega
  have j2 : decide ((20 : Int) < (NL : Int)) = true := by simpa using j1
  go_enter Try.func9, Try.ntmps9
  go_wp2_with (refine st38 rfl (.tmp 6) (.tmp 16) rfl w.heap.size z48 rfl rfl z48 HX.out rfl rfl ?_)
  rw [hz38]
  refine bodyPost_ret (v := .tuple #[hv z48, .int .i64 2]) (res_38 (fn := Try.f9) (p := 6) (u := 7) rfl _ _ w.heap.size z48 rfl HRS.out rfl) rfl ?_
  exact ⟨rfl, HBF.out⟩
set_option maxRecDepth 100000 in
theorem rmk_no (h : Rs W0 w V L0 R L) (hle : L.length ≤ 1000) (H : List UInt8) (hH : H.length = 16) (hn : ∀ k, k < L.length → H ≠ nameL k) : Calls Try.prog 14 #[.pointer (some ⟨R, 0, none⟩), hv H] w fun e w' => e = .returned (.tuple #[hv z48, .int .i64 15]) ∧ Below w.heap.size w w' := by
  have hb1 : Below w.heap.size w ((w.alloc (.cells (hl H).toArray 28)).alloc (.cells (hl z48).toArray 38)) := (bel1 w _).alloc (by simp) _
  have HD : Aside _ := rder_no (h.go hb1) hle H hH hn bKey none 0 0
  have HB3 : Aside (((w.alloc (.cells (hl H).toArray 28)).alloc (.cells (hl z48).toArray 38)).heap[w.heap.size]? = some (.cells (hl H).toArray 28 (0, 0))) := nth' (new' rfl)
  have HB4 : Aside (((w.alloc (.cells (hl H).toArray 28)).alloc (.cells (hl z48).toArray 38)).heap[w.heap.size + 1]? = some (.cells (hl z48).toArray 38 (0, 0))) := new' (by simp)
  have HBW : Aside _ := hb1
  clear h hb1 hn
  go_enter Try.func14, Try.ntmps14
  go_wp2_with (refine ldr rfl (.tmp 3) rfl w.heap.size rfl H HB3.out hH (Hid.out ?_))
  rw [hz38]
  generalize (w.alloc (.cells (hl H).toArray 28)).alloc (.cells (hl z48).toArray 38) = W1 at *
  refine mkHid ?_
  go_wp2_with fail
  refine Calls.mono HD.out ?_
  rintro e W2 ⟨rfl, hb⟩
  have HX4 : Aside _ := heap_bel HB4.out hb
  have HB2 : Aside (Below w.heap.size w W2) := HBW.out.trans (hb.mono HBW.out.size)
  clear hb HD HB3 HB4 HBW
  go_wp2_with (refine str rfl (.tmp 6) (.tmp 14) rfl W2.heap.size z16 rfl rfl z16 (heap_alloc_new W2 _) rfl rfl (Hid.out ?_))
  rw [hz28r]
  have HBn := (nboxr W2 z16 z16).2
  have HX : Aside _ := heap_bel HX4.out HBn
  have HB3 : Aside (Below w.heap.size w ((W2.alloc (.cells (hl z16).toArray 28)).setRow W2.heap.size (hl z16).toArray)) := HB2.out.trans (HBn.mono HB2.out.size)
  clear HX4 HB2 HBn
  generalize (W2.alloc (.cells (hl z16).toArray 28)).setRow W2.heap.size (hl z16).toArray = W3 at *
  generalize W2.heap.size = B6 at *
  have HRS : Aside _ := setRow_heap W3 (w.heap.size + 1) _ (hl z48).toArray 38 (0, 0) HX.out
  have HBF : Aside (Below w.heap.size w (W3.setRow (w.heap.size + 1) (hl z48).toArray)) := bel_set HB3.out (by omega) _
  refine mkHid ?_
  go_wp2_with (refine st38 rfl (.tmp 4) (.tmp 18) rfl (w.heap.size + 1) z48 rfl rfl z48 HX.out rfl rfl ?_)
  refine bodyPost_ret (v := .tuple #[hv z48, .int .i64 15]) (res_38 (fn := Try.f14) (p := 4) (u := 5) rfl _ _ (w.heap.size + 1) z48 rfl HRS.out rfl) rfl ?_
  exact ⟨rfl, HBF.out⟩
set_option maxRecDepth 100000 in
/-- Next of keys that nobody made. -/
theorem rnext_no (h : Rs W0 w V L0 R L) (hle : L.length ≤ 1000) (hn : ∀ k, k < L.length → z16 ≠ nameL k) : Calls Try.prog 12 #[.pointer (some ⟨R, 0, none⟩), hv z48] w fun e w' => e = .returned (.tuple #[hv z48, .int .i64 15]) ∧ Below w.heap.size w w' := by
  have hbl : Below w.heap.size w ((w.alloc (.cells (hl z48).toArray 38)).alloc (.cells (hl z48).toArray 38)) := (bel1 w _).alloc (by simp) _
  have HD : Aside _ := rder_no (h.go hbl) hle z16 rfl hn bNext none 0 0
  have HX3 : Aside (((w.alloc (.cells (hl z48).toArray 38)).alloc (.cells (hl z48).toArray 38)).heap[w.heap.size]? = some (.cells (hl z48).toArray 38 (0, 0))) := nth' (new' rfl)
  have HX4 : Aside (((w.alloc (.cells (hl z48).toArray 38)).alloc (.cells (hl z48).toArray 38)).heap[w.heap.size + 1]? = some (.cells (hl z48).toArray 38 (0, 0))) := new' (by simp)
  have hz : z48 = z16 ++ z16 ++ z16 := rfl
  have HR0 : Aside (∀ X : World, X.heap[w.heap.size]? = some (.cells (hl z48).toArray 38 (0, 0)) → X.rangeAt w.heap.size 0 (hl z16)) := fun X hX => by rw [hz] at hX; exact (rg38 hX rfl rfl rfl).1
  have hm0 : (Try.prog.info? 28).map (·.size) = some (hl z16).length := hi28r.trans (by simp [z16])
  have hu := hu28r
  have HBW : Aside _ := hbl
  clear h hbl hn hz
  go_enter Try.func12, Try.ntmps12
  go_wp2_with (refine wpList_load_mid rfl 28 (.tmp 12) rfl w.heap.size 0 rfl (hl z16) _ (HR0.out _ HX3.out) hu rfl hm0 (Hid.out ?_))
  rw [hz38]
  generalize (w.alloc (.cells (hl z48).toArray 38)).alloc (.cells (hl z48).toArray 38) = W1 at *
  refine mkHid ?_
  go_wp2_with fail
  refine Calls.mono HD.out ?_
  rintro e W2 ⟨rfl, hb⟩
  have HY4 : Aside _ := heap_bel HX4.out hb
  have HB2 : Aside (Below w.heap.size w W2) := HBW.out.trans (hb.mono HBW.out.size)
  clear hb HD HX3 HX4 HBW HR0
  go_wp2_with (refine str rfl (.tmp 6) (.tmp 15) rfl W2.heap.size z16 rfl rfl z16 (heap_alloc_new W2 _) rfl rfl (Hid.out ?_))
  rw [hz28r]
  have HBn := (nboxr W2 z16 z16).2
  have HX : Aside _ := heap_bel HY4.out HBn
  have HB3 : Aside (Below w.heap.size w ((W2.alloc (.cells (hl z16).toArray 28)).setRow W2.heap.size (hl z16).toArray)) := HB2.out.trans (HBn.mono HB2.out.size)
  clear HY4 HB2 HBn
  generalize (W2.alloc (.cells (hl z16).toArray 28)).setRow W2.heap.size (hl z16).toArray = W3 at *
  generalize W2.heap.size = B6 at *
  have HRS : Aside _ := setRow_heap W3 (w.heap.size + 1) _ (hl z48).toArray 38 (0, 0) HX.out
  have HBF : Aside (Below w.heap.size w (W3.setRow (w.heap.size + 1) (hl z48).toArray)) := bel_set HB3.out (by omega) _
  refine mkHid ?_
  go_wp2_with (refine st38 rfl (.tmp 4) (.tmp 19) rfl (w.heap.size + 1) z48 rfl rfl z48 HX.out rfl rfl ?_)
  refine bodyPost_ret (v := .tuple #[hv z48, .int .i64 15]) (res_38 (fn := Try.f12) (p := 4) (u := 5) rfl _ _ (w.heap.size + 1) z48 rfl HRS.out rfl) rfl ?_
  exact ⟨rfl, HBF.out⟩
end
end Go.Proofs.Ytdklkofnekacdaa
