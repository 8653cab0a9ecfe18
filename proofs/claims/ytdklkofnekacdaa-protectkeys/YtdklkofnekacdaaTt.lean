/- slices.Grow and slices.Concat of three byte strings. slices.Concat of three byte strings. The program's Tag. -/
import Derived.Test.YtdklkofnekacdaaTg
import Derived.Lib.AppendZeros
import Derived.LoopN
namespace Go.Proofs.Ytdklkofnekacdaa
open Go.RowKit Go.Shelf Go.Lib
set_option linter.unusedVariables false

theorem u3i : Try.prog.underlying 3 = some (.int .i64) := by kernel_rfl
/-- Bytes appended to a row of one's own. -/
theorem apg' {X : World} {n₀ g c cp : Nat} {o : Option Addr} {l l2 : List UInt8} (hn : n₀ ≤ X.heap.size) (hown : X.ownsRow n₀ 5 1 (.slice (some ⟨g, 0, none⟩) l.length c) l.length (hl l)) (hl0 : l ++ l2 ≠ []) (hS : Sl X o l2) (hll : l.length + l2.length ≤ 140737488351300) :
    ∃ g' c' X', (Builtin.append_ #[22, 22] 22 #[.slice (some ⟨g, 0, none⟩) l.length c, .slice o l2.length cp]).run Try.prog X = .ok (.slice (some ⟨g', 0, none⟩) (l ++ l2).length c') X' ∧ X'.ownsRow n₀ 5 1 (.slice (some ⟨g', 0, none⟩) (l ++ l2).length c') (l ++ l2).length (hl (l ++ l2)) ∧ Gw X X' n₀ := by
  obtain ⟨i, hi, hz, hs, hb⟩ := inf5
  have hcc : l.length ≤ c := by
    obtain ⟨_, h | ⟨g1, cap, cur, e, _, _, h3, _⟩⟩ := hown
    · cases h.1
    · injection e with _ _ e; omega
  cases o with
  | none =>
    have hl2 : l2 = [] := by
      cases l2 with
      | nil => rfl
      | cons x t => obtain ⟨b, off, e, _⟩ := hS 0 (by simp); cases e
    subst hl2
    rw [List.append_nil]
    refine ⟨g, c, X, ?_, hown, ⟨none, ⟨rfl, rfl, rfl, Nat.le_refl _, fun _ _ _ => rfl⟩, fun _ h => by cases h⟩⟩
    exact run_append_nothing X 22 22 22 5 i Try.underlying22 hi _ l.length c hcc _ ⟨.inl ⟨5, Try.underlying22⟩, fun _ => rfl, by simp [Builtin.firstCells], by simp [Builtin.firstCells], by simp, fun _ h => by cases h⟩
  | some a =>
    have hcell : ∀ j u, (hl l2)[j]? = some u → X.cell? (a.add j) = some u := by
      intro j u hu
      have hj : j < l2.length := by have := (List.getElem?_eq_some_iff.1 hu).1; simpa using this
      obtain ⟨b, off, e, hc⟩ := hS j hj
      rw [Option.some.inj e, Addr.add_mid, hc, ← hu, hl_get hj]
    obtain ⟨v', w', hrun, hown', hgr, _, _⟩ := run_append_own_at (P := Try.prog) X n₀ 22 22 5 i (.int .u8 0) 1 1 Try.underlying22 hi hz hs hb rfl (by decide) _ _ _ hown a l2.length cp (hl l2) (by simp) hcell (hl_oc l2) (by unfold maxLen; omega) (by omega) hn
    rw [← hl_app, ← List.length_append] at hown'
    have hg2 := own_gw hown hgr
    have hcopy := hown'
    obtain ⟨_, h | ⟨g', cap, cur, rfl, _⟩⟩ := hcopy
    · exact absurd (List.length_eq_zero_iff.1 h.2) hl0
    · exact ⟨g', cap, w', hrun, hown', hg2⟩

def GrwP (w : World) (e : Ending) (w' : World) : Prop := ∃ g c, e = .returned (.slice (some ⟨g, 0, none⟩) 0 c) ∧ w'.ownsRow w.heap.size 5 1 (.slice (some ⟨g, 0, none⟩) 0 c) 0 [] ∧ Below w.heap.size w w'
set_option maxRecDepth 100000 in
theorem grow_c (w : World) (n : Nat) (h0 : 0 < n) (hn : n ≤ 140737488351300) : Calls Try.prog 38 #[.slice none 0 0, .int .i64 (n : Int)] w (GrwP w) := by
  obtain ⟨i, hi, hz, hs, hb⟩ := inf5
  have hr := run_append_nil_zeros (P := Try.prog) w 22 3 22 5 i (.int .u8 0) .i64 .i64 Try.underlying22 u3i hi hz n h0 (by omega) (by omega) (by rw [hb]; omega)
  have hGn : n ≤ grownCap w n 0 5 := by have := grownCap_ge w n 0 5; omega
  have hGm : grownCap w n 0 5 ≤ maxLen := grownCap_le_maxLen w n 0 5 (by unfold maxLen; omega)
  have hP : GrwP w (.returned (.slice (some ⟨w.heap.size, 0, none⟩) 0 (grownCap w n 0 5))) (w.drew.alloc (.cells (Builtin.zeroCells (Value.int .u8 0).cells n ++ Builtin.zeroCells (Value.int .u8 0).cells (grownCap w n 0 5 - n)) 5)) := by
    refine ⟨w.heap.size, _, rfl, ?_, ?_⟩
    · refine World.ownsRow_made w.drew _ _ (by simp) hGm ?_
      simp [Builtin.zeroCells, Value.cells]; omega
    · exact (Below.drew (Below.refl _ w)).alloc (by simp) _
  generalize grownCap w n 0 5 = G at *
  generalize w.drew.alloc (.cells (Builtin.zeroCells (Value.int .u8 0).cells n ++ Builtin.zeroCells (Value.int .u8 0).cells (G - n)) 5) = X at *
  have HP : Aside _ := hP
  have HR : Aside _ := hr
  have h1 : ¬ ((n : Int) < 0) := by omega
  have h1' : decide ((n : Int) < 0) = false := decide_eq_false h1
  have h4 : (n : Int) > 0 := by omega
  have h4' : decide ((n : Int) > 0) = true := by simpa using h4
  have h4n : decide (0 < n) = true := by simpa using h0
  have hw : IntKind.i64.wrap (n : Int) = (n : Int) := by rw [IntKind.wrap_i64]; omega
  have hw0 : IntKind.i64.wrap (0 : Int) = (0 : Int) := by decide
  have hG0 : (0 : Int) ≤ (n : Int) := by omega
  clear hP hr
  go_enter Try.func38, Try.ntmps38
  go_wp2_with (refine appr rfl _ _ 22 3 rfl _ _ rfl rfl HR.out (Hid.out ?_))
  refine mkHid ?_
  go_wp2_with fail
  go_ret
  exact HP.out
end Go.Proofs.Ytdklkofnekacdaa
namespace Go.Proofs.Ytdklkofnekacdaa
open Go.RowKit Go.Shelf Go.Lib
set_option linter.unusedVariables false

def CcP (w : World) (l : List UInt8) (e : Ending) (w' : World) : Prop := ∃ g c, e = .returned (.slice (some ⟨g, 0, none⟩) l.length c) ∧ Sl w' (some ⟨g, 0, none⟩) l ∧ Below w.heap.size w w'
theorem cell_row {w : World} {B t : Nat} {cs : Array Value} (h : w.heap[B]? = some (.cells cs t (0, 0))) (j : Nat) : w.cell? ⟨B, j, none⟩ = cs[j]? := by simp [World.cell?, h]
set_option maxRecDepth 100000 in
set_option maxHeartbeats 600000 in
theorem concat_c (w : World) (B : Nat) (x : UInt8) (a0 : Nat) (o1 o2 : Option Addr) (c1 c2 : Nat) (l1 l2 : List UInt8)
    (hB : w.heap[B]? = some (.cells #[.slice (some ⟨a0, 0, none⟩) 1 1, .slice o1 l1.length c1, .slice o2 l2.length c2] 22 (0, 0)))
    (hS0 : Sl w (some ⟨a0, 0, none⟩) [x]) (hS1 : Sl w o1 l1) (hS2 : Sl w o2 l2) (h20 : l1.length ≤ 20) (hl2 : l2.length ≤ 140737488351232) :
    Calls Try.prog 27 #[.slice (some ⟨B, 0, none⟩) 3 3] w (CcP w ([x] ++ l1 ++ l2)) := by
  obtain ⟨k0, k1, k2⟩ : w.cell? ⟨B, 0, none⟩ = some (.slice (some ⟨a0, 0, none⟩) 1 1) ∧ w.cell? ⟨B, 1, none⟩ = some (.slice o1 l1.length c1) ∧ w.cell? ⟨B, 2, none⟩ = some (.slice o2 l2.length c2) := ⟨by rw [cell_row hB]; rfl, by rw [cell_row hB]; rfl, by rw [cell_row hB]; rfl⟩
  have HB : Aside _ := hB
  have HS0 : Aside (Sl w (some ⟨a0, 0, none⟩) [x]) := hS0
  have HS1 : Aside (Sl w o1 l1) := hS1
  have HS2 : Aside (Sl w o2 l2) := hS2
  have hw1 : IntKind.i64.wrap (1 + (l1.length : Int)) = ((1 + l1.length : Nat) : Int) := by rw [IntKind.wrap_i64]; omega
  have hw2 : IntKind.i64.wrap (((1 + l1.length : Nat) : Int) + (l2.length : Int)) = ((1 + l1.length + l2.length : Nat) : Int) := by rw [IntKind.wrap_i64]; omega
  have hn1 : ¬ ((1 + l1.length : Nat) : Int) < 0 := by omega
  have hn1' : decide (((1 + l1.length : Nat) : Int) < 0) = false := decide_eq_false hn1
  have hn2 : ¬ ((1 + l1.length + l2.length : Nat) : Int) < 0 := by omega
  have hn2' : decide (((1 + l1.length + l2.length : Nat) : Int) < 0) = false := decide_eq_false hn2
  have HG : Aside (Calls Try.prog 38 #[.slice none 0 0, .int .i64 ((1 + l1.length + l2.length : Nat) : Int)] w (GrwP w)) := grow_c w _ (by omega) (by omega)
  have HL2 : Aside _ := hl2
  have HL1 : Aside _ := h20
  clear hB hS0 hS1 hS2 hl2 h20
  obtain ⟨s1, hs1⟩ : ∃ s1 : Int, s1 = ((1 + l1.length : Nat) : Int) := ⟨_, rfl⟩
  obtain ⟨s2, hs2⟩ : ∃ s2 : Int, s2 = ((1 + l1.length + l2.length : Nat) : Int) := ⟨_, rfl⟩
  rw [← hs1] at hw1 hw2 hn1 hn1'
  rw [← hs2] at hw2 hn2 hn2' HG
  clear hs1 hs2
  have hlen : ([x] ++ l1 ++ l2).length = (l1.length + l2.length) + 1 := by simp <;> omega
  go_enter Try.func27, Try.ntmps27
  go_wp2
  refine wp_loop_rounds 4 ?_
  rw [rounds_succ]
  go_wp2
  rw [rounds_succ]
  go_wp2
  rw [rounds_succ]
  go_wp2
  rw [rounds_succ]
  go_wp2_with fail
  refine Calls.mono HG.out ?_
  rintro e W1 ⟨g, c, rfl, ho, hb⟩
  obtain ⟨g1, d1, X1, hr1, ho1, hg1⟩ := apg' (cp := 1) (l := []) (l2 := [x]) hb.size ho (by simp) (Sl.bel HS0.out hb) (by simp)
  have hb1 := hb.trans (hg1.bel hb.size)
  obtain ⟨g2, d2, X2, hr2, ho2, hg2⟩ := apg' (cp := c1) hb1.size ho1 (by simp) (Sl.bel HS1.out hb1) (by have := HL1.out; simp; omega)
  have hb2 := hb1.trans (hg2.bel hb1.size)
  obtain ⟨g3, d3, X3, hr3, ho3, hg3⟩ := apg' (cp := c2) hb2.size ho2 (by simp) (Sl.bel HS2.out hb2) (by have := HL1.out; have := HL2.out; simp; omega)
  have hb3 := hb2.trans (hg3.bel hb2.size)
  obtain ⟨q10, _⟩ : W1.cell? ⟨B, 0, none⟩ = some (.slice (some ⟨a0, 0, none⟩) 1 1) ∧ True := ⟨by rw [cell_row (heap_bel HB.out hb)]; rfl, trivial⟩
  have q11 : X1.cell? ⟨B, 1, none⟩ = some (.slice o1 l1.length c1) := by rw [cell_row (heap_bel HB.out hb1)]; rfl
  have q12 : X2.cell? ⟨B, 2, none⟩ = some (.slice o2 l2.length c2) := by rw [cell_row (heap_bel HB.out hb2)]; rfl
  have HP : Aside (CcP w ([x] ++ l1 ++ l2) (.returned (.slice (some ⟨g3, 0, none⟩) ([x] ++ l1 ++ l2).length d3)) X3) := ⟨g3, d3, rfl, own_sl ho3 rfl, hb3⟩
  have HR1 : Aside _ := hr1
  have HR2 : Aside _ := hr2
  have HR3 : Aside _ := hr3
  clear hr1 hr2 hr3 ho ho1 ho2 ho3 hg1 hg2 hg3 hb hb1 hb2 hb3 HG k0 k1 k2
  go_wp2
  refine wp_loop_rounds 4 ?_
  rw [rounds_succ]
  go_wp2_with (refine appr rfl _ _ 22 22 rfl _ _ rfl rfl HR1.out (Hid.out ?_))
  refine mkHid ?_
  go_wp2_with fail
  rw [rounds_succ]
  go_wp2_with (refine appr rfl _ _ 22 22 rfl _ _ rfl rfl HR2.out (Hid.out ?_))
  refine mkHid ?_
  go_wp2_with fail
  rw [rounds_succ]
  go_wp2_with (refine appr rfl _ _ 22 22 rfl _ _ rfl rfl HR3.out (Hid.out ?_))
  refine mkHid ?_
  go_wp2_with fail
  rw [rounds_succ]
  go_wp2_with fail
  go_ret
  have h := HP.out
  simpa [hlen] using h
end Go.Proofs.Ytdklkofnekacdaa
namespace Go.Proofs.Ytdklkofnekacdaa
open Go.RowKit Go.Shelf Go.Lib
set_option linter.unusedVariables false

section
variable {W0 w w' : World} {V R : Nat} {L0 L L1 : List Tm}
set_option maxRecDepth 100000 in
set_option maxHeartbeats 400000 in
/-- Tag of at most 20 bytes. -/
theorem tag_c (h : Ag W0 w V L) (hle : L.length ≤ 1000) (x : UInt8) (o : Option Addr) (l1 : List UInt8) (cp : Nat) (hx : x.toNat = l1.length) (h20 : l1.length ≤ 20) (hS1 : Sl w o l1) (o2 : Option Addr) (l2 : List UInt8) (c2 : Nat) (hS2 : Sl w o2 l2) (hl2 : l2.length ≤ 140737488351232) (i1 : Nat)
    (hd : ∀ (X : World) (g c : Nat), Ag W0 X V L → Sl X (some ⟨g, 0, none⟩) ([x] ++ l1 ++ l2) → Calls Try.prog 24 #[.pointer (some ⟨V, 0, none⟩), hv (nameL 0), .string bRetry, .slice (some ⟨g, 0, none⟩) ([x] ++ l1 ++ l2).length c] X fun e w' => e = .returned (.tuple #[hv (nameL i1), .int .i64 0]) ∧ Ag W0 w' V L1 ∧ Kc X w') :
    Calls Try.prog 15 #[.pointer (some ⟨V, 0, none⟩), .slice o l1.length cp, .slice o2 l2.length c2] w fun e w' => e = .returned (.tuple #[hv (nameL i1), .int .i64 0]) ∧ Ag W0 w' V L1 ∧ Kc w w' := by
  have HN : Aside _ := pnone_c (h.go (bel1 w (.cells (hl z16).toArray 29))) hle
  have HX6 : Aside _ := heap_alloc_new w (.cells (hl z16).toArray 29)
  have HBW : Aside _ := bel1 w (.cells (hl z16).toArray 29)
  have HRT : Aside (∀ X, Ag W0 X V L → Calls Try.prog 25 #[.pointer (some ⟨V, 0, none⟩)] X fun e w' => e = .returned (hv (nameL 0)) ∧ Below X.heap.size X w') := fun X hX => by
    obtain ⟨G, c, M, hv'⟩ := hX.va
    exact root_c hv' (by omega)
  have hlen : ([x] ++ l1 ++ l2).length = l1.length + l2.length + 1 := by simp <;> omega
  simp only [hlen] at hd
  have HD : Aside _ := hd
  have HA0 : Aside (Ag W0 w V L) := h
  have HS1 : Aside (Sl w o l1) := hS1
  have HS2 : Aside (Sl w o2 l2) := hS2
  have HL2 : Aside _ := hl2
  have HL1 : Aside _ := h20
  have HXX : Aside _ := hx
  have hn1 := nameL_len i1
  have cw : IntKind.u8.wrap (l1.length : Int) = (l1.length : Int) := by rw [wrap_u8]; omega
  have j1 : ¬ (20 : Int) < (l1.length : Int) := by omega
  have j2 : decide ((20 : Int) < (l1.length : Int)) = false := by simpa using j1
  clear h hd hS1 hS2 hl2 hx h20
  generalize nameL i1 = N1 at *
  generalize nameL 0 = N0 at *
  as_aux_lemma =>
  go_enter Try.func15, Try.ntmps15
  go_wp2_with fail
  rw [hz28]
  generalize w.alloc (.cells (hl z16).toArray 29) = W1 at *
  refine Calls.mono HN.out ?_
  rintro e W2 ⟨rfl, hb⟩
  have HX : Aside _ := heap_bel HX6.out hb
  have HB2 : Aside (Below w.heap.size w W2) := HBW.out.trans (hb.mono HBW.out.size)
  clear hb HN HX6 HBW
  go_wp2_with fail
  refine Calls.mono (HRT.out W2 (HA0.out.go HB2.out)) ?_
  rintro e W3 ⟨rfl, hb⟩
  have HX3 : Aside _ := heap_bel HX.out hb
  have hb3 : Below w.heap.size w W3 := HB2.out.trans (hb.mono HB2.out.size)
  have hb5 : Below w.heap.size w ((W3.alloc (.cells #[.int .u8 (l1.length : Int)] 5)).alloc (.cells #[.slice (some ⟨W3.heap.size, 0, none⟩) 1 1, .slice o l1.length cp, .slice o2 l2.length c2] 22)) := (hb3.alloc hb3.size _).alloc (by have := hb3.size; simp; omega) _
  have hc5 : ((W3.alloc (.cells #[.int .u8 (l1.length : Int)] 5)).alloc (.cells #[.slice (some ⟨W3.heap.size, 0, none⟩) 1 1, .slice o l1.length cp, .slice o2 l2.length c2] 22)).heap[W3.heap.size]? = some (.cells #[.int .u8 (l1.length : Int)] 5 (0, 0)) := nth' (new' rfl)
  have hc6 : ((W3.alloc (.cells #[.int .u8 (l1.length : Int)] 5)).alloc (.cells #[.slice (some ⟨W3.heap.size, 0, none⟩) 1 1, .slice o l1.length cp, .slice o2 l2.length c2] 22)).heap[W3.heap.size + 1]? = some (.cells #[.slice (some ⟨W3.heap.size, 0, none⟩) 1 1, .slice o l1.length cp, .slice o2 l2.length c2] 22 (0, 0)) := new' (by simp)
  have hx5 := (nth' (nth' HX3.out : (W3.alloc (.cells #[.int .u8 (l1.length : Int)] 5)).heap[w.heap.size]? = _) : ((W3.alloc (.cells #[.int .u8 (l1.length : Int)] 5)).alloc (.cells #[.slice (some ⟨W3.heap.size, 0, none⟩) 1 1, .slice o l1.length cp, .slice o2 l2.length c2] 22)).heap[w.heap.size]? = _)
  have hs5 : Sl ((W3.alloc (.cells #[.int .u8 (l1.length : Int)] 5)).alloc (.cells #[.slice (some ⟨W3.heap.size, 0, none⟩) 1 1, .slice o l1.length cp, .slice o2 l2.length c2] 22)) (some ⟨W3.heap.size, 0, none⟩) [x] := by
    intro j hj
    obtain rfl : j = 0 := by simp at hj; exact hj
    refine ⟨W3.heap.size, 0, rfl, ?_⟩
    rw [cell_row hc5]
    simp [HXX.out]
  have HCC : Aside _ := concat_c _ (W3.heap.size + 1) x W3.heap.size o o2 cp c2 l1 l2 hc6 hs5 (Sl.bel HS1.out hb5) (Sl.bel HS2.out hb5) HL1.out HL2.out
  have HX5 : Aside _ := hx5
  have HB5 : Aside _ := hb5
  clear hb hb3 hb5 hc5 hc6 hx5 hs5 HX HB2 HX3
  go_wp2_with fail
  generalize (W3.alloc (.cells #[.int .u8 (l1.length : Int)] 5)).alloc (.cells #[.slice (some ⟨W3.heap.size, 0, none⟩) 1 1, .slice o l1.length cp, .slice o2 l2.length c2] 22) = W5 at *
  refine Calls.mono HCC.out ?_
  rintro e W6 ⟨g, c, rfl, hs, hb⟩
  have HX6 : Aside _ := heap_bel HX5.out hb
  have HB6 : Aside (Below w.heap.size w W6) := HB5.out.trans (hb.mono HB5.out.size)
  have HS6 : Aside (Sl W6 (some ⟨g, 0, none⟩) ([x] ++ l1 ++ l2)) := hs
  clear hs hb HX5 HB5 HCC
  simp only [hlen]
  go_wp2_with fail
  refine Calls.mono (HD.out W6 g c (HA0.out.go HB6.out) HS6.out) ?_
  rintro e W7 ⟨rfl, ha, hk⟩
  have HX7 : Aside _ := hk _ _ _ _ HX6.out (by decide) (by decide)
  have HRS : Aside _ := setRow_heap W7 w.heap.size _ (hl N1).toArray 29 (0, 0) HX7.out
  have HAF : Aside (Ag W0 (W7.setRow w.heap.size (hl N1).toArray) V L1) := ha.setAny HX7.out (by decide) (by decide) HA0.out.bel.size _
  have HCF : Aside (Kc w (W7.setRow w.heap.size (hl N1).toArray)) := ((Kc.of_bel HB6.out).trans hk).set (Nat.le_refl _) _
  clear ha hk HS6 HX6 HD HB6
  go_wp2_with (refine st28 rfl (.tmp 6) (.tmp 29) rfl w.heap.size N1 rfl rfl z16 HX7.out hn1 rfl ?_)
  refine bodyPost_ret (v := .tuple #[hv N1, .int .i64 0]) (res_h (fn := Try.f15) (p := 6) (u := 7) rfl _ _ w.heap.size N1 rfl HRS.out hn1) rfl ?_
  exact ⟨rfl, HAF.out, HCF.out⟩
end
end Go.Proofs.Ytdklkofnekacdaa
