/- protect: Initial, Next. -/
import Derived.Test.YtdklkofnekacdaaPn
namespace Go.Proofs.Ytdklkofnekacdaa
open Go.RowKit Go.Shelf Go.Lib
set_option linter.unusedVariables false

/-- The handles of keys as they lie. -/
theorem rg33 {X : World} {g : Nat} {A B C : List UInt8} (hX : X.heap[g]? = some (.cells (hl (A ++ B ++ C)).toArray 33 (0, 0))) (hA : A.length = 16) (hB : B.length = 16) (hC : C.length = 16) : X.rangeAt g 0 (hl A) ∧ X.rangeAt g 32 (hl C) := by
  constructor
  · intro j v hv
    have hj : j < 16 := by have := (List.getElem?_eq_some_iff.1 hv).1; rw [hl_len, hA] at this; exact this
    unfold World.cell?
    simp only [hX, Nat.zero_add]
    have : (hl (A ++ B ++ C))[j]? = some v := by rw [hl_app, hl_app, List.append_assoc, List.getElem?_append_left (by rw [hl_len, hA]; exact hj)]; exact hv
    simpa using this
  · intro j v hv
    unfold World.cell?
    simp only [hX]
    have : (hl (A ++ B ++ C))[32 + j]? = some v := by rw [hl_app, List.getElem?_append_right (by simp [hA, hB]), show 32 + j - (hl (A ++ B)).length = j by simp [hA, hB]]; exact hv
    simpa using this
theorem rg33m {X : World} {g : Nat} {A B C : List UInt8} (hX : X.heap[g]? = some (.cells (hl (A ++ B ++ C)).toArray 33 (0, 0))) (hA : A.length = 16) (hB : B.length = 16) (hC : C.length = 16) : X.rangeAt g 16 (hl B) := by
  intro j v hv
  have hj : j < 16 := by have := (List.getElem?_eq_some_iff.1 hv).1; rw [hl_len, hB] at this; exact this
  unfold World.cell?
  simp only [hX]
  have : (hl (A ++ B ++ C))[16 + j]? = some v := by rw [hl_app, hl_app, List.append_assoc, List.getElem?_append_right (by simp [hA]), show 16 + j - (hl A).length = j by simp [hA], List.getElem?_append_left (by rw [hl_len, hB]; exact hj)]; exact hv
  simpa using this
theorem th33 {X : World} {g : Nat} {A B C D : List UInt8} (hX : X.heap[g]? = some (.cells (hl (A ++ B ++ C)).toArray 33 (0, 0))) (hA : A.length = 16) (hB : B.length = 16) (hC : C.length = 16) (hD : D.length = 16) : X.there g 32 16 ∧ X.setCells g 32 (hl D) = X.setRow g (hl (A ++ B ++ D)).toArray := by
  constructor
  · intro j hj
    have e : (hl (A ++ B ++ C))[32 + j]? ≠ none := by
      rw [List.getElem?_eq_getElem (by simp [hA, hB, hC]; omega)]; simp
    constructor
    · unfold World.cell?
      simp only [hX]
      simpa [hA, hB, hC] using e
    · simp [World.frozen?, hX]
  · rw [setCells_row (hl D) 32 X (hl (A ++ B ++ C)) hX (by simp [hA, hB, hC, hD])]
    congr 2
    rw [hl_app, hl_app (A ++ B) D, List.take_append_of_le_length (by simp [hA, hB]), List.take_of_length_le (by simp [hA, hB]), List.drop_of_length_le (by simp [hA, hB, hC, hD]), List.append_nil]
section
variable {W0 w w' : World} {V : Nat} {L L1 L2 L3 : List Tm}
theorem Kc.set {a b : World} {B : Nat} (h : Kc a b) (hB : a.heap.size ≤ B) (ds : Array Value) : Kc a (b.setRow B ds) := fun x cs t fr hb h1 h2 =>
  (setRow_other _ _ _ _ (by have := (Array.getElem?_eq_some_iff.1 hb).1; omega)).trans (h x cs t fr hb h1 h2)
set_option maxRecDepth 100000 in
set_option maxHeartbeats 1000000 in
theorem initial_false (h : Ag W0 w V L) (hle : L.length ≤ 900) (o : Option Addr) (NL cp : Nat) (hNL : NL ≤ 20) (i1 i2 : Nat) (K3 : List UInt8) (hK : K3.length = 48)
    (hd1 : ∀ X, Ag W0 X V L → Calls Try.prog 24 #[.pointer (some ⟨V, 0, none⟩), hv (nameL 0), .string bInit, .slice o NL cp] X fun e w' => e = .returned (.tuple #[hv (nameL i1), .int .i64 0]) ∧ Ag W0 w' V L1 ∧ Kc X w')
    (hd2 : ∀ X, Ag W0 X V L1 → Calls Try.prog 24 #[.pointer (some ⟨V, 0, none⟩), hv (nameL i1), .string bCli, .slice none 0 0] X fun e w' => e = .returned (.tuple #[hv (nameL i2), .int .i64 0]) ∧ Ag W0 w' V L2 ∧ Kc X w')
    (hm : ∀ X, Ag W0 X V L2 → Calls Try.prog 13 #[.pointer (some ⟨V, 0, none⟩), hv (nameL i2)] X fun e w' => e = .returned (.tuple #[hv K3, .int .i64 0]) ∧ Ag W0 w' V L3 ∧ Kc X w') :
    Calls Try.prog 8 #[.pointer (some ⟨V, 0, none⟩), .slice o NL cp, .bool false] w fun e w' => e = .returned (.tuple #[hv K3, .int .i64 0]) ∧ Ag W0 w' V L3 ∧ Kc w w' := by
  have HD1 : Aside _ := hd1
  have HD2 : Aside _ := hd2
  have HM : Aside _ := hm
  have HN : Aside (∀ X, Ag W0 X V L → Calls Try.prog 23 #[.pointer (some ⟨V, 0, none⟩)] X fun e w' => e = .returned (.bool false) ∧ Below X.heap.size X w') := fun X hX => pnone_c hX (by omega)
  have HRT : Aside (∀ X, Ag W0 X V L → Calls Try.prog 25 #[.pointer (some ⟨V, 0, none⟩)] X fun e w' => e = .returned (hv (nameL 0)) ∧ Below X.heap.size X w') := fun X hX => by
    obtain ⟨G, c, M, hv⟩ := hX.va
    exact root_c hv (by omega)
  have HGE : Aside (W0.heap.size ≤ w.heap.size) := h.bel.size
  have HA : Aside (Ag W0 (w.alloc (.cells (hl z48).toArray 33)) V L) := h.go (bel1 _ _)
  have HC : Aside (Kc w (w.alloc (.cells (hl z48).toArray 33))) := Kc.of_bel (bel1 _ _)
  have X6 : Aside _ := heap_alloc_new w (.cells (hl z48).toArray 33)
  have j1 : ¬ (20 : Int) < (NL : Int) := by omega
  have j2 : decide ((20 : Int) < (NL : Int)) = false := by simpa using j1
  clear h hd1 hd2 hm
  have n0 := nameL_len 0
  have n1 := nameL_len i1
  have n2 := nameL_len i2
  generalize nameL 0 = N0 at *
  generalize nameL i1 = N1 at *
  generalize nameL i2 = N2 at *
  go_enter Try.func8, Try.ntmps8
  go_wp2_with fail
  rw [hz33]
  generalize w.alloc (.cells (hl z48).toArray 33) = W1 at *
  refine Calls.mono (HN.out _ HA.out) ?_
  rintro e W2 ⟨rfl, hb⟩
  have HA2 : Aside (Ag W0 W2 V L) := HA.out.go hb
  have HC2 : Aside (Kc w W2) := HC.out.trans (Kc.of_bel hb)
  have X62 : Aside _ := heap_bel X6.out hb
  clear hb HA HC X6 HN
  go_wp2_with fail
  refine Calls.mono (HRT.out _ HA2.out) ?_
  rintro e W3 ⟨rfl, hb⟩
  have HA : Aside (Ag W0 W3 V L) := HA2.out.go hb
  have HC : Aside (Kc w W3) := HC2.out.trans (Kc.of_bel hb)
  have X6 : Aside _ := heap_bel X62.out hb
  clear hb HA2 HC2 X62 HRT
  go_wp2_with fail
  refine Calls.mono (HD1.out _ HA.out) ?_
  rintro e W4 ⟨rfl, ha, hkc⟩
  have HA' : Aside (Ag W0 W4 V L1) := ha
  have HC' : Aside (Kc w W4) := HC.out.trans hkc
  have X6' : Aside _ := hkc _ _ _ _ X6.out (by decide) (by decide)
  clear HA HC ha hkc X6
  have HA : Aside (Ag W0 W4 V L1) := HA'.out
  have HC : Aside (Kc w W4) := HC'.out
  have X6 : Aside _ := X6'.out
  clear HA' HC' X6'
  go_wp2_with (refine st28 rfl (.tmp 9) (.tmp 29) rfl W4.heap.size N1 rfl rfl z16 (heap_alloc_new W4 _) n1 rfl (Hid.out ?_))
  rw [hz28]
  have HBn := (nbox W4 z16 N1).2
  have X9' : Aside _ := (nbox W4 z16 N1).1
  have HA' : Aside (Ag W0 ((W4.alloc (.cells (hl z16).toArray 29)).setRow W4.heap.size (hl N1).toArray) V L1) := HA.out.go HBn
  have HC' : Aside (Kc w ((W4.alloc (.cells (hl z16).toArray 29)).setRow W4.heap.size (hl N1).toArray)) := HC.out.trans (Kc.of_bel HBn)
  have X6' : Aside _ := heap_bel X6.out HBn
  clear HA HC HBn X6
  generalize (W4.alloc (.cells (hl z16).toArray 29)).setRow W4.heap.size (hl N1).toArray = W5 at *
  generalize W4.heap.size = B9 at *
  have HA : Aside (Ag W0 W5 V L1) := HA'.out
  have HC : Aside (Kc w W5) := HC'.out
  have X6 : Aside _ := X6'.out
  have X9 : Aside _ := X9'.out
  clear HA' HC' X6' X9'
  refine mkHid ?_
  go_wp2_with (refine ld28 rfl (.tmp 9) rfl B9 rfl N1 X9.out n1 ?_)
  refine Calls.mono (HD2.out _ HA.out) ?_
  rintro e W6 ⟨rfl, ha, hkc⟩
  have HA' : Aside (Ag W0 W6 V L2) := ha
  have HC' : Aside (Kc w W6) := HC.out.trans hkc
  have X6' : Aside _ := hkc _ _ _ _ X6.out (by decide) (by decide)
  have X9' : Aside _ := hkc _ _ _ _ X9.out (by decide) (by decide)
  clear HA HC ha hkc X6 X9
  have HA : Aside (Ag W0 W6 V L2) := HA'.out
  have HC : Aside (Kc w W6) := HC'.out
  have X6 : Aside _ := X6'.out
  have X9 : Aside _ := X9'.out
  clear HA' HC' X6' X9'
  go_wp2_with (refine st28 rfl (.tmp 11) (.tmp 36) rfl W6.heap.size N2 rfl rfl z16 (heap_alloc_new W6 _) n2 rfl (Hid.out ?_))
  rw [hz28]
  have HBn := (nbox W6 z16 N2).2
  have X11' : Aside _ := (nbox W6 z16 N2).1
  have HA' : Aside (Ag W0 ((W6.alloc (.cells (hl z16).toArray 29)).setRow W6.heap.size (hl N2).toArray) V L2) := HA.out.go HBn
  have HC' : Aside (Kc w ((W6.alloc (.cells (hl z16).toArray 29)).setRow W6.heap.size (hl N2).toArray)) := HC.out.trans (Kc.of_bel HBn)
  have X6' : Aside _ := heap_bel X6.out HBn
  have X9' : Aside _ := heap_bel X9.out HBn
  clear HA HC HBn X6 X9
  generalize (W6.alloc (.cells (hl z16).toArray 29)).setRow W6.heap.size (hl N2).toArray = W7 at *
  generalize W6.heap.size = B11 at *
  have HA : Aside (Ag W0 W7 V L2) := HA'.out
  have HC : Aside (Kc w W7) := HC'.out
  have X6 : Aside _ := X6'.out
  have X9 : Aside _ := X9'.out
  have X11 : Aside _ := X11'.out
  clear HA' HC' X6' X9' X11'
  refine mkHid ?_
  go_wp2_with (refine ld28 rfl (.tmp 11) rfl B11 rfl N2 X11.out n2 ?_)
  refine Calls.mono (HM.out _ HA.out) ?_
  rintro e W8 ⟨rfl, ha, hkc⟩
  have HA' : Aside (Ag W0 W8 V L3) := ha
  have HC' : Aside (Kc w W8) := HC.out.trans hkc
  have X6' : Aside _ := hkc _ _ _ _ X6.out (by decide) (by decide)
  clear HA HC ha hkc X6
  have HA : Aside (Ag W0 W8 V L3) := HA'.out
  have HC : Aside (Kc w W8) := HC'.out
  have X6 : Aside _ := X6'.out
  clear HA' HC' X6'
  have HR : Aside _ := setRow_heap W8 w.heap.size _ (hl K3).toArray 33 (0, 0) X6.out
  have HAF : Aside (Ag W0 (W8.setRow w.heap.size (hl K3).toArray) V L3) := HA.out.setAny X6.out (by decide) (by decide) HGE.out _
  have HCF : Aside (Kc w (W8.setRow w.heap.size (hl K3).toArray)) := HC.out.set (Nat.le_refl _) _
  go_wp2_with (refine st33 rfl (.tmp 6) (.tmp 41) rfl w.heap.size K3 rfl rfl z48 X6.out hK rfl ?_)
  refine bodyPost_ret (v := .tuple #[hv K3, .int .i64 0]) (res_33 (fn := Try.f8) (p := 6) (u := 7) rfl _ _ w.heap.size K3 rfl HR.out hK) rfl ?_
  exact ⟨rfl, HAF.out, HCF.out⟩
set_option maxRecDepth 100000 in
set_option maxHeartbeats 1000000 in
theorem initial_true (h : Ag W0 w V L) (hle : L.length ≤ 900) (o : Option Addr) (NL cp : Nat) (hNL : NL ≤ 20) (i1 i2 : Nat) (K3 : List UInt8) (hK : K3.length = 48)
    (hd1 : ∀ X, Ag W0 X V L → Calls Try.prog 24 #[.pointer (some ⟨V, 0, none⟩), hv (nameL 0), .string bInit, .slice o NL cp] X fun e w' => e = .returned (.tuple #[hv (nameL i1), .int .i64 0]) ∧ Ag W0 w' V L1 ∧ Kc X w')
    (hd2 : ∀ X, Ag W0 X V L1 → Calls Try.prog 24 #[.pointer (some ⟨V, 0, none⟩), hv (nameL i1), .string bSer, .slice none 0 0] X fun e w' => e = .returned (.tuple #[hv (nameL i2), .int .i64 0]) ∧ Ag W0 w' V L2 ∧ Kc X w')
    (hm : ∀ X, Ag W0 X V L2 → Calls Try.prog 13 #[.pointer (some ⟨V, 0, none⟩), hv (nameL i2)] X fun e w' => e = .returned (.tuple #[hv K3, .int .i64 0]) ∧ Ag W0 w' V L3 ∧ Kc X w') :
    Calls Try.prog 8 #[.pointer (some ⟨V, 0, none⟩), .slice o NL cp, .bool true] w fun e w' => e = .returned (.tuple #[hv K3, .int .i64 0]) ∧ Ag W0 w' V L3 ∧ Kc w w' := by
  have HD1 : Aside _ := hd1
  have HD2 : Aside _ := hd2
  have HM : Aside _ := hm
  have HN : Aside (∀ X, Ag W0 X V L → Calls Try.prog 23 #[.pointer (some ⟨V, 0, none⟩)] X fun e w' => e = .returned (.bool false) ∧ Below X.heap.size X w') := fun X hX => pnone_c hX (by omega)
  have HRT : Aside (∀ X, Ag W0 X V L → Calls Try.prog 25 #[.pointer (some ⟨V, 0, none⟩)] X fun e w' => e = .returned (hv (nameL 0)) ∧ Below X.heap.size X w') := fun X hX => by
    obtain ⟨G, c, M, hv⟩ := hX.va
    exact root_c hv (by omega)
  have HGE : Aside (W0.heap.size ≤ w.heap.size) := h.bel.size
  have HA : Aside (Ag W0 (w.alloc (.cells (hl z48).toArray 33)) V L) := h.go (bel1 _ _)
  have HC : Aside (Kc w (w.alloc (.cells (hl z48).toArray 33))) := Kc.of_bel (bel1 _ _)
  have X6 : Aside _ := heap_alloc_new w (.cells (hl z48).toArray 33)
  have j1 : ¬ (20 : Int) < (NL : Int) := by omega
  have j2 : decide ((20 : Int) < (NL : Int)) = false := by simpa using j1
  clear h hd1 hd2 hm
  have n0 := nameL_len 0
  have n1 := nameL_len i1
  have n2 := nameL_len i2
  generalize nameL 0 = N0 at *
  generalize nameL i1 = N1 at *
  generalize nameL i2 = N2 at *
  go_enter Try.func8, Try.ntmps8
  go_wp2_with fail
  rw [hz33]
  generalize w.alloc (.cells (hl z48).toArray 33) = W1 at *
  refine Calls.mono (HN.out _ HA.out) ?_
  rintro e W2 ⟨rfl, hb⟩
  have HA2 : Aside (Ag W0 W2 V L) := HA.out.go hb
  have HC2 : Aside (Kc w W2) := HC.out.trans (Kc.of_bel hb)
  have X62 : Aside _ := heap_bel X6.out hb
  clear hb HA HC X6 HN
  go_wp2_with fail
  refine Calls.mono (HRT.out _ HA2.out) ?_
  rintro e W3 ⟨rfl, hb⟩
  have HA : Aside (Ag W0 W3 V L) := HA2.out.go hb
  have HC : Aside (Kc w W3) := HC2.out.trans (Kc.of_bel hb)
  have X6 : Aside _ := heap_bel X62.out hb
  clear hb HA2 HC2 X62 HRT
  go_wp2_with fail
  refine Calls.mono (HD1.out _ HA.out) ?_
  rintro e W4 ⟨rfl, ha, hkc⟩
  have HA' : Aside (Ag W0 W4 V L1) := ha
  have HC' : Aside (Kc w W4) := HC.out.trans hkc
  have X6' : Aside _ := hkc _ _ _ _ X6.out (by decide) (by decide)
  clear HA HC ha hkc X6
  have HA : Aside (Ag W0 W4 V L1) := HA'.out
  have HC : Aside (Kc w W4) := HC'.out
  have X6 : Aside _ := X6'.out
  clear HA' HC' X6'
  go_wp2_with (refine st28 rfl (.tmp 9) (.tmp 29) rfl W4.heap.size N1 rfl rfl z16 (heap_alloc_new W4 _) n1 rfl (Hid.out ?_))
  rw [hz28]
  have HBn := (nbox W4 z16 N1).2
  have X9' : Aside _ := (nbox W4 z16 N1).1
  have HA' : Aside (Ag W0 ((W4.alloc (.cells (hl z16).toArray 29)).setRow W4.heap.size (hl N1).toArray) V L1) := HA.out.go HBn
  have HC' : Aside (Kc w ((W4.alloc (.cells (hl z16).toArray 29)).setRow W4.heap.size (hl N1).toArray)) := HC.out.trans (Kc.of_bel HBn)
  have X6' : Aside _ := heap_bel X6.out HBn
  clear HA HC HBn X6
  generalize (W4.alloc (.cells (hl z16).toArray 29)).setRow W4.heap.size (hl N1).toArray = W5 at *
  generalize W4.heap.size = B9 at *
  have HA : Aside (Ag W0 W5 V L1) := HA'.out
  have HC : Aside (Kc w W5) := HC'.out
  have X6 : Aside _ := X6'.out
  have X9 : Aside _ := X9'.out
  clear HA' HC' X6' X9'
  refine mkHid ?_
  go_wp2_with (refine ld28 rfl (.tmp 9) rfl B9 rfl N1 X9.out n1 ?_)
  refine Calls.mono (HD2.out _ HA.out) ?_
  rintro e W6 ⟨rfl, ha, hkc⟩
  have HA' : Aside (Ag W0 W6 V L2) := ha
  have HC' : Aside (Kc w W6) := HC.out.trans hkc
  have X6' : Aside _ := hkc _ _ _ _ X6.out (by decide) (by decide)
  have X9' : Aside _ := hkc _ _ _ _ X9.out (by decide) (by decide)
  clear HA HC ha hkc X6 X9
  have HA : Aside (Ag W0 W6 V L2) := HA'.out
  have HC : Aside (Kc w W6) := HC'.out
  have X6 : Aside _ := X6'.out
  have X9 : Aside _ := X9'.out
  clear HA' HC' X6' X9'
  go_wp2_with (refine st28 rfl (.tmp 11) (.tmp 36) rfl W6.heap.size N2 rfl rfl z16 (heap_alloc_new W6 _) n2 rfl (Hid.out ?_))
  rw [hz28]
  have HBn := (nbox W6 z16 N2).2
  have X11' : Aside _ := (nbox W6 z16 N2).1
  have HA' : Aside (Ag W0 ((W6.alloc (.cells (hl z16).toArray 29)).setRow W6.heap.size (hl N2).toArray) V L2) := HA.out.go HBn
  have HC' : Aside (Kc w ((W6.alloc (.cells (hl z16).toArray 29)).setRow W6.heap.size (hl N2).toArray)) := HC.out.trans (Kc.of_bel HBn)
  have X6' : Aside _ := heap_bel X6.out HBn
  have X9' : Aside _ := heap_bel X9.out HBn
  clear HA HC HBn X6 X9
  generalize (W6.alloc (.cells (hl z16).toArray 29)).setRow W6.heap.size (hl N2).toArray = W7 at *
  generalize W6.heap.size = B11 at *
  have HA : Aside (Ag W0 W7 V L2) := HA'.out
  have HC : Aside (Kc w W7) := HC'.out
  have X6 : Aside _ := X6'.out
  have X9 : Aside _ := X9'.out
  have X11 : Aside _ := X11'.out
  clear HA' HC' X6' X9' X11'
  refine mkHid ?_
  go_wp2_with (refine ld28 rfl (.tmp 11) rfl B11 rfl N2 X11.out n2 ?_)
  refine Calls.mono (HM.out _ HA.out) ?_
  rintro e W8 ⟨rfl, ha, hkc⟩
  have HA' : Aside (Ag W0 W8 V L3) := ha
  have HC' : Aside (Kc w W8) := HC.out.trans hkc
  have X6' : Aside _ := hkc _ _ _ _ X6.out (by decide) (by decide)
  clear HA HC ha hkc X6
  have HA : Aside (Ag W0 W8 V L3) := HA'.out
  have HC : Aside (Kc w W8) := HC'.out
  have X6 : Aside _ := X6'.out
  clear HA' HC' X6'
  have HR : Aside _ := setRow_heap W8 w.heap.size _ (hl K3).toArray 33 (0, 0) X6.out
  have HAF : Aside (Ag W0 (W8.setRow w.heap.size (hl K3).toArray) V L3) := HA.out.setAny X6.out (by decide) (by decide) HGE.out _
  have HCF : Aside (Kc w (W8.setRow w.heap.size (hl K3).toArray)) := HC.out.set (Nat.le_refl _) _
  go_wp2_with (refine st33 rfl (.tmp 6) (.tmp 41) rfl w.heap.size K3 rfl rfl z48 X6.out hK rfl ?_)
  refine bodyPost_ret (v := .tuple #[hv K3, .int .i64 0]) (res_33 (fn := Try.f8) (p := 6) (u := 7) rfl _ _ w.heap.size K3 rfl HR.out hK) rfl ?_
  exact ⟨rfl, HAF.out, HCF.out⟩
set_option maxRecDepth 100000 in
set_option maxHeartbeats 1000000 in
theorem next_c (h : Ag W0 w V L) (k i1 : Nat) (Ky Mk A B C : List UInt8) (hKy : Ky.length = 16) (hMk : Mk.length = 16) (hA : A.length = 16) (hB : B.length = 16) (hC : C.length = 16)
    (hd1 : ∀ X, Ag W0 X V L → Calls Try.prog 24 #[.pointer (some ⟨V, 0, none⟩), hv (nameL k), .string bNext, .slice none 0 0] X fun e w' => e = .returned (.tuple #[hv (nameL i1), .int .i64 0]) ∧ Ag W0 w' V L1 ∧ Kc X w')
    (hm : ∀ X, Ag W0 X V L1 → Calls Try.prog 13 #[.pointer (some ⟨V, 0, none⟩), hv (nameL i1)] X fun e w' => e = .returned (.tuple #[hv (A ++ B ++ C), .int .i64 0]) ∧ Ag W0 w' V L2 ∧ Kc X w') :
    Calls Try.prog 11 #[.pointer (some ⟨V, 0, none⟩), hv (nameL k ++ Ky ++ Mk)] w fun e w' => e = .returned (.tuple #[hv (A ++ B ++ Mk), .int .i64 0]) ∧ Ag W0 w' V L2 ∧ Kc w w' := by
  have HD1 : Aside _ := hd1
  have HM : Aside _ := hm
  have HGE : Aside (W0.heap.size ≤ w.heap.size) := h.bel.size
  have n0 := nameL_len k
  have n1 := nameL_len i1
  clear hd1 hm
  generalize nameL k = N0 at *
  generalize nameL i1 = N1 at *
  have hbl : Below w.heap.size w ((w.alloc (.cells (hl (N0 ++ Ky ++ Mk)).toArray 33)).alloc (.cells (hl z48).toArray 33)) := (bel1 w _).alloc (by simp) _
  have HA : Aside (Ag W0 ((w.alloc (.cells (hl (N0 ++ Ky ++ Mk)).toArray 33)).alloc (.cells (hl z48).toArray 33)) V L) := h.go hbl
  have HC : Aside (Kc w ((w.alloc (.cells (hl (N0 ++ Ky ++ Mk)).toArray 33)).alloc (.cells (hl z48).toArray 33))) := Kc.of_bel hbl
  have X3 : Aside (((w.alloc (.cells (hl (N0 ++ Ky ++ Mk)).toArray 33)).alloc (.cells (hl z48).toArray 33)).heap[w.heap.size]? = some (.cells (hl (N0 ++ Ky ++ Mk)).toArray 33 (0, 0))) := nth' (new' rfl)
  have X4 : Aside (((w.alloc (.cells (hl (N0 ++ Ky ++ Mk)).toArray 33)).alloc (.cells (hl z48).toArray 33)).heap[w.heap.size + 1]? = some (.cells (hl z48).toArray 33 (0, 0))) := new' (by simp)
  have HR0 : Aside (∀ X : World, X.heap[w.heap.size]? = some (.cells (hl (N0 ++ Ky ++ Mk)).toArray 33 (0, 0)) → X.rangeAt w.heap.size 0 (hl N0) ∧ X.rangeAt w.heap.size 32 (hl Mk)) := fun X hX => rg33 hX n0 hKy hMk
  have HT8 : Aside (∀ (X : World) (g : Nat), X.heap[g]? = some (.cells (hl (A ++ B ++ C)).toArray 33 (0, 0)) → X.there g 32 16 ∧ X.setCells g 32 (hl Mk) = X.setRow g (hl (A ++ B ++ Mk)).toArray) := fun X g hX => th33 hX hA hB hC hMk
  have hm0 : (Try.prog.info? 29).map (·.size) = some (hl N0).length := hi28.trans (by simp [n0])
  have hmM : (Try.prog.info? 29).map (·.size) = some (hl Mk).length := hi28.trans (by simp [hMk])
  have hlF : (A ++ B ++ C).length = 48 := by simp [hA, hB, hC]
  have hlG : (A ++ B ++ Mk).length = 48 := by simp [hA, hB, hMk]
  have hu := hu28
  generalize N0 ++ Ky ++ Mk = K0 at *
  generalize A ++ B ++ C = K1 at *
  generalize A ++ B ++ Mk = K2 at *
  clear h hbl
  go_enter Try.func11, Try.ntmps11
  go_wp2_with (refine wpList_load_mid rfl 29 (.tmp 12) rfl w.heap.size 0 rfl (hl N0) _ (HR0.out _ X3.out).1 hu rfl hm0 (Hid.out ?_))
  rw [hz33]
  generalize (w.alloc (.cells (hl K0).toArray 33)).alloc (.cells (hl z48).toArray 33) = W1 at *
  refine mkHid ?_
  go_wp2_with fail
  refine Calls.mono (HD1.out _ HA.out) ?_
  rintro e W4 ⟨rfl, ha, hkc⟩
  have HA' : Aside (Ag W0 W4 V L1) := ha
  have HC' : Aside (Kc w W4) := HC.out.trans hkc
  have X3' : Aside _ := hkc _ _ _ _ X3.out (by decide) (by decide)
  have X4' : Aside _ := hkc _ _ _ _ X4.out (by decide) (by decide)
  clear HA HC ha hkc X3 X4
  have HA : Aside (Ag W0 W4 V L1) := HA'.out
  have HC : Aside (Kc w W4) := HC'.out
  have X3 : Aside _ := X3'.out
  have X4 : Aside _ := X4'.out
  clear HA' HC' X3' X4'
  go_wp2_with (refine st28 rfl (.tmp 6) (.tmp 15) rfl W4.heap.size N1 rfl rfl z16 (heap_alloc_new W4 _) n1 rfl (Hid.out ?_))
  rw [hz28]
  have HBn := (nbox W4 z16 N1).2
  have X6' : Aside _ := (nbox W4 z16 N1).1
  have HA' : Aside (Ag W0 ((W4.alloc (.cells (hl z16).toArray 29)).setRow W4.heap.size (hl N1).toArray) V L1) := HA.out.go HBn
  have HC' : Aside (Kc w ((W4.alloc (.cells (hl z16).toArray 29)).setRow W4.heap.size (hl N1).toArray)) := HC.out.trans (Kc.of_bel HBn)
  have X3' : Aside _ := heap_bel X3.out HBn
  have X4' : Aside _ := heap_bel X4.out HBn
  clear HA HC HBn X3 X4
  generalize (W4.alloc (.cells (hl z16).toArray 29)).setRow W4.heap.size (hl N1).toArray = W5 at *
  generalize W4.heap.size = B6 at *
  have HA : Aside (Ag W0 W5 V L1) := HA'.out
  have HC : Aside (Kc w W5) := HC'.out
  have X3 : Aside _ := X3'.out
  have X4 : Aside _ := X4'.out
  have X6 : Aside _ := X6'.out
  clear HA' HC' X3' X4' X6'
  refine mkHid ?_
  go_wp2_with (refine ld28 rfl (.tmp 6) rfl B6 rfl N1 X6.out n1 ?_)
  refine Calls.mono (HM.out _ HA.out) ?_
  rintro e W6 ⟨rfl, ha, hkc⟩
  have HA' : Aside (Ag W0 W6 V L2) := ha
  have HC' : Aside (Kc w W6) := HC.out.trans hkc
  have X3' : Aside _ := hkc _ _ _ _ X3.out (by decide) (by decide)
  have X4' : Aside _ := hkc _ _ _ _ X4.out (by decide) (by decide)
  clear HA HC ha hkc X3 X4
  have HA : Aside (Ag W0 W6 V L2) := HA'.out
  have HC : Aside (Kc w W6) := HC'.out
  have X3 : Aside _ := X3'.out
  have X4 : Aside _ := X4'.out
  clear HA' HC' X3' X4'
  go_wp2_with (refine st33 rfl (.tmp 8) (.tmp 25) rfl W6.heap.size K1 rfl rfl z48 (heap_alloc_new W6 _) hlF rfl (Hid.out ?_))
  rw [hz33]
  have HBn : Below W6.heap.size W6 ((W6.alloc (.cells (hl z48).toArray 33)).setRow W6.heap.size (hl K1).toArray) := bel_set (bel1 W6 _) (Nat.le_refl _) _
  have X8' : Aside _ := setRow_heap _ _ _ (hl K1).toArray 33 (0, 0) (heap_alloc_new W6 (.cells (hl z48).toArray 33))
  have HA' : Aside (Ag W0 ((W6.alloc (.cells (hl z48).toArray 33)).setRow W6.heap.size (hl K1).toArray) V L2) := HA.out.go HBn
  have HC' : Aside (Kc w ((W6.alloc (.cells (hl z48).toArray 33)).setRow W6.heap.size (hl K1).toArray)) := HC.out.trans (Kc.of_bel HBn)
  have X3' : Aside _ := heap_bel X3.out HBn
  have X4' : Aside _ := heap_bel X4.out HBn
  have g8 : w.heap.size + 1 < W6.heap.size := (Array.getElem?_eq_some_iff.1 X4.out).1
  clear HA HC HBn X3 X4
  generalize (W6.alloc (.cells (hl z48).toArray 33)).setRow W6.heap.size (hl K1).toArray = W7 at *
  generalize W6.heap.size = B8 at *
  have ht8 := HT8.out W7 B8 X8'.out
  have HTH : Aside _ := ht8.1
  have HSC : Aside _ := ht8.2
  clear ht8 HT8
  refine mkHid ?_
  have hlM : (hl Mk).toArray.size = 16 := by simp [hMk]
  go_wp2_with (first | (refine wpList_load_mid rfl 29 (.tmp 27) rfl w.heap.size 32 rfl (hl Mk) _ (HR0.out _ X3'.out).2 hu rfl hmM ?_) | (refine wpList_store_mid rfl 29 (.tmp 29) (.tmp 28) rfl B8 32 (hl Mk).toArray rfl rfl (by rw [hlM]; exact HTH.out) (by rw [hlM]; exact hi28) (hl_one Mk) (Hid.out ?_)))
  rw [HSC.out]
  have X8 : Aside _ := setRow_heap W7 B8 _ (hl K2).toArray 33 (0, 0) X8'.out
  have X4 : Aside _ := (setRow_other W7 B8 (w.heap.size + 1) (hl K2).toArray (by omega)).trans X4'.out
  have HA : Aside (Ag W0 (W7.setRow B8 (hl K2).toArray) V L2) := HA'.out.setAny X8'.out (by decide) (by decide) (by have := HGE.out; omega) _
  have HC : Aside (Kc w (W7.setRow B8 (hl K2).toArray)) := HC'.out.set (by omega) _
  clear X8' X4' HA' HC' X3' HTH HSC
  generalize W7.setRow B8 (hl K2).toArray = W8 at *
  refine mkHid ?_
  have HR : Aside _ := setRow_heap W8 (w.heap.size + 1) _ (hl K2).toArray 33 (0, 0) X4.out
  have HAF : Aside (Ag W0 (W8.setRow (w.heap.size + 1) (hl K2).toArray) V L2) := HA.out.setAny X4.out (by decide) (by decide) (by have := HGE.out; omega) _
  have HCF : Aside (Kc w (W8.setRow (w.heap.size + 1) (hl K2).toArray)) := HC.out.set (by omega) _
  go_wp2_with (first | (refine ld33 rfl (.tmp 8) rfl B8 rfl K2 X8.out hlG ?_) | (refine st33 rfl (.tmp 4) (.tmp 30) rfl (w.heap.size + 1) K2 rfl rfl z48 X4.out hlG rfl ?_))
  refine bodyPost_ret (v := .tuple #[hv K2, .int .i64 0]) (res_33 (fn := Try.f11) (p := 4) (u := 5) rfl _ _ (w.heap.size + 1) K2 rfl HR.out hlG) rfl ?_
  exact ⟨rfl, HAF.out, HCF.out⟩
end
end Go.Proofs.Ytdklkofnekacdaa
