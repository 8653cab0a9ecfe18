/- Tag of too long an identifier, on both sides. The reference's Tag: bytes appended. The reference's Tag. -/
import Derived.Test.YtdklkofnekacdaaBo
namespace Go.Proofs.Ytdklkofnekacdaa
open Go.RowKit Go.Shelf Go.Lib
set_option linter.unusedVariables false

section
variable {W0 w w' : World} {V R : Nat} {L0 L : List Tm}
set_option maxRecDepth 100000 in
theorem tag_big (h : Ag W0 w V L) (hle : L.length ≤ 1000) (o : Option Addr) (NL cp : Nat) (hNL : 20 < NL) (o2 : Option Addr) (n2 c2 : Nat) : Calls Try.prog 15 #[.pointer (some ⟨V, 0, none⟩), .slice o NL cp, .slice o2 n2 c2] w fun e w' => e = .returned (.tuple #[hv z16, .int .i64 2]) ∧ Below w.heap.size w w' := by
  have HN : Aside _ := pnone_c (h.go (bel1 w (.cells (hl z16).toArray 29))) hle
  have HX6 : Aside _ := heap_alloc_new w (.cells (hl z16).toArray 29)
  have HBW : Aside _ := bel1 w (.cells (hl z16).toArray 29)
  have j1 : (20 : Int) < (NL : Int) := by omega
  have j2 : decide ((20 : Int) < (NL : Int)) = true := by simpa using j1
  clear h
  go_enter Try.func15, Try.ntmps15
  go_wp2_with fail
  rw [hz28]
  generalize w.alloc (.cells (hl z16).toArray 29) = W1 at *
  refine Calls.mono HN.out ?_
  rintro e W2 ⟨rfl, hb⟩
  have HX : Aside _ := heap_bel HX6.out hb
  have HB2 : Aside (Below w.heap.size w W2) := HBW.out.trans (hb.mono HBW.out.size)
  have HRS : Aside _ := setRow_heap W2 w.heap.size _ (hl z16).toArray 29 (0, 0) HX.out
  have HBF : Aside (Below w.heap.size w (W2.setRow w.heap.size (hl z16).toArray)) := bel_set HB2.out (Nat.le_refl _) _
  clear hb HN HX6 HBW HB2
  go_wp2_with (refine st28 rfl (.tmp 6) (.tmp 16) rfl w.heap.size z16 rfl rfl z16 HX.out rfl rfl ?_)
  refine bodyPost_ret (v := .tuple #[hv z16, .int .i64 2]) (res_h (fn := Try.f15) (p := 6) (u := 7) rfl _ _ w.heap.size z16 rfl HRS.out rfl) rfl ?_
  exact ⟨rfl, HBF.out⟩
set_option maxRecDepth 100000 in
theorem rtag_big (R : Nat) (w : World) (o : Option Addr) (NL cp : Nat) (hNL : 20 < NL) (o2 : Option Addr) (n2 c2 : Nat) : Calls Try.prog 16 #[.pointer (some ⟨R, 0, none⟩), .slice o NL cp, .slice o2 n2 c2] w fun e w' => e = .returned (.tuple #[hv z16, .int .i64 2]) ∧ Below w.heap.size w w' := by
  have HX : Aside _ := heap_alloc_new w (.cells (hl z16).toArray 28)
  have HRS : Aside _ := setRow_heap _ w.heap.size _ (hl z16).toArray 28 (0, 0) HX.out
  have HBF : Aside (Below w.heap.size w ((w.alloc (.cells (hl z16).toArray 28)).setRow w.heap.size (hl z16).toArray)) := bel_set (bel1 w _) (Nat.le_refl _) _
  have j1 : (20 : Int) < (NL : Int) := by omega
  have j2 : decide ((20 : Int) < (NL : Int)) = true := by simpa using j1
  go_enter Try.func16, Try.ntmps16
  go_wp2_with (refine str rfl (.tmp 6) (.tmp 12) rfl w.heap.size z16 rfl rfl z16 HX.out rfl rfl ?_)
  rw [hz28r]
  refine bodyPost_ret (v := .tuple #[hv z16, .int .i64 2]) (res_r2 (fn := Try.f16) (p := 6) (u := 7) rfl _ _ w.heap.size z16 rfl HRS.out rfl) rfl ?_
  exact ⟨rfl, HBF.out⟩
end
end Go.Proofs.Ytdklkofnekacdaa
namespace Go.Proofs.Ytdklkofnekacdaa
open Go.RowKit Go.Shelf Go.Lib
set_option linter.unusedVariables false

/-- Bytes appended to a row of one's own that has some. -/
theorem apg {X : World} {n₀ g c cp : Nat} {o : Option Addr} {l l2 : List UInt8} (hn : n₀ ≤ X.heap.size) (hown : X.ownsRow n₀ 5 1 (.slice (some ⟨g, 0, none⟩) l.length c) l.length (hl l)) (hl0 : l ≠ []) (hS : Sl X o l2) (hll : l.length + l2.length ≤ 140737488351300) :
    ∃ g' c' X', (Builtin.append_ #[22, 22] 22 #[.slice (some ⟨g, 0, none⟩) l.length c, .slice o l2.length cp]).run Try.prog X = .ok (.slice (some ⟨g', 0, none⟩) (l ++ l2).length c') X' ∧ X'.ownsRow n₀ 5 1 (.slice (some ⟨g', 0, none⟩) (l ++ l2).length c') (l ++ l2).length (hl (l ++ l2)) ∧ Gw X X' n₀ := by
  obtain ⟨i, hi, hz, hs, hb⟩ := inf5
  have hcc : l.length ≤ c := by
    obtain ⟨_, h | ⟨g1, cap, cur, e, _, _, h3, _⟩⟩ := hown
    · cases h.1
    · injection e with _ _ e; omega
  cases o with
  | none =>
    have hl2 : l2 = [] := by
      cases l2 with
      | nil => rfl
      | cons x t => obtain ⟨b, off, e, _⟩ := hS 0 (by simp); cases e
    subst hl2
    rw [List.append_nil]
    refine ⟨g, c, X, ?_, hown, ⟨none, ⟨rfl, rfl, rfl, Nat.le_refl _, fun _ _ _ => rfl⟩, fun _ h => by cases h⟩⟩
    exact run_append_nothing X 22 22 22 5 i Try.underlying22 hi _ l.length c hcc _ ⟨.inl ⟨5, Try.underlying22⟩, fun _ => rfl, by simp [Builtin.firstCells], by simp [Builtin.firstCells], by simp, fun _ h => by cases h⟩
  | some a =>
    have hcell : ∀ j u, (hl l2)[j]? = some u → X.cell? (a.add j) = some u := by
      intro j u hu
      have hj : j < l2.length := by have := (List.getElem?_eq_some_iff.1 hu).1; simpa using this
      obtain ⟨b, off, e, hc⟩ := hS j hj
      rw [Option.some.inj e, Addr.add_mid, hc, ← hu, hl_get hj]
    obtain ⟨v', w', hrun, hown', hgr, _, _⟩ := run_append_own_at (P := Try.prog) X n₀ 22 22 5 i (.int .u8 0) 1 1 Try.underlying22 hi hz hs hb rfl (by decide) _ _ _ hown a l2.length cp (hl l2) (by simp) hcell (hl_oc l2) (by unfold maxLen; omega) (by omega) hn
    rw [← hl_app, ← List.length_append] at hown'
    have hg2 := own_gw hown hgr
    have hcopy := hown'
    obtain ⟨_, h | ⟨g', cap, cur, rfl, _⟩⟩ := hcopy
    · have := h.2; rw [List.length_append] at this; have := List.length_pos_iff.2 hl0; omega
    · exact ⟨g', cap, w', hrun, hown', hg2⟩
end Go.Proofs.Ytdklkofnekacdaa
namespace Go.Proofs.Ytdklkofnekacdaa
open Go.RowKit Go.Shelf Go.Lib
set_option linter.unusedVariables false

theorem appr {P : Program} {ops : Array Oper} {rest : List Oper} {o : Oper} {a : Act} {w : World} {Q : Exit → Act → World → Prop}
    (hg : o.guard = none) (d x : Operand) (dT sT : TypeId) (hop : o.op = Op.call { callee := Callee.builtin Builtin.append, args := #[d, x], argTypes := #[dT, sT] })
    (v u : Value) (hd : a.eval d = v) (hx : a.eval x = u) {v' : Value} {w' : World} (hr : (Builtin.append_ #[dT, sT] o.type #[v, u]).run P w = .ok v' w') (hK : wpList P ops Q rest (a.put o.dst v') w') :
    wpList P ops Q (o :: rest) a w :=
  wpList_plain hg fun K hK' => (by
    unfold Oper.wp
    simp [execOp, hop, resolve, invoke, builtin, hd, hx, hr, Result.andThen]
    exact hK' _ _ hK)
theorem Gw.bel {w w' : World} {n₀ : Nat} (h : Gw w w' n₀) (hn : n₀ ≤ w.heap.size) : Below n₀ w w' := by
  obtain ⟨row, hg, hr⟩ := h
  exact ⟨hg.os, hg.tape, hg.output, hg.size, fun k hk => hg.block k (by omega) (by intro e; have := (hr k e.symm).1; omega)⟩
def bRetry : ByteArray := { data := #[114, 101, 116, 114, 121] }
section
variable {W0 w w' : World} {V R : Nat} {L0 L L1 : List Tm}
set_option maxRecDepth 100000 in
set_option maxHeartbeats 400000 in
/-- The reference's Tag of at most 20 bytes. -/
theorem rtag_c (h : Rs W0 w V L0 R L) (x : UInt8) (o : Option Addr) (l1 : List UInt8) (cp : Nat) (hx : x.toNat = l1.length) (h20 : l1.length ≤ 20) (hS1 : Sl w o l1) (o2 : Option Addr) (l2 : List UInt8) (c2 : Nat) (hS2 : Sl w o2 l2) (hl2 : l2.length ≤ 140737488351232) (i1 : Nat)
    (hd : ∀ (X : World) (g c : Nat), Rs W0 X V L0 R L → Sl X (some ⟨g, 0, none⟩) ([x] ++ l1 ++ l2) → Calls Try.prog 26 #[.pointer (some ⟨R, 0, none⟩), hv (nameL 0), .string bRetry, .slice (some ⟨g, 0, none⟩) ([x] ++ l1 ++ l2).length c] X fun e w' => e = .returned (.tuple #[hv (nameL i1), .int .i64 0]) ∧ Rs W0 w' V L0 R L1 ∧ Kz X w') :
    Calls Try.prog 16 #[.pointer (some ⟨R, 0, none⟩), .slice o l1.length cp, .slice o2 l2.length c2] w fun e w' => e = .returned (.tuple #[hv (nameL i1), .int .i64 0]) ∧ Rs W0 w' V L0 R L1 ∧ Kz w w' := by
  have hb0 : Below w.heap.size w ((w.alloc (.cells (hl z16).toArray 28)).alloc (.cells #[.int .u8 (l1.length : Int)] 5)) := (bel1 w _).alloc (by simp) _
  have hX0 : ((w.alloc (.cells (hl z16).toArray 28)).alloc (.cells #[.int .u8 (l1.length : Int)] 5)).heap[w.heap.size]? = some (.cells (hl z16).toArray 28 (0, 0)) := nth' (new' rfl)
  have hX1 : ((w.alloc (.cells (hl z16).toArray 28)).alloc (.cells #[.int .u8 (l1.length : Int)] 5)).heap[w.heap.size + 1]? = some (.cells #[.int .u8 (l1.length : Int)] 5 (0, 0)) := new' (by simp)
  have hown : ((w.alloc (.cells (hl z16).toArray 28)).alloc (.cells #[.int .u8 (l1.length : Int)] 5)).ownsRow w.heap.size 5 1 (.slice (some ⟨w.heap.size + 1, 0, none⟩) [x].length 1) [x].length (hl [x]) :=
    ⟨rfl, .inr ⟨w.heap.size + 1, 1, _, rfl, by omega, hX1, Nat.le_refl _, by unfold maxLen; omega, rfl, by simp [hl, hx]⟩⟩
  obtain ⟨g1, c1, X1, hr1, ho1, hg1⟩ := apg (cp := cp) hb0.size hown (by simp) (hS1.bel hb0) (by simp; omega)
  have hb1 := hb0.trans (hg1.bel hb0.size)
  obtain ⟨g2, c2', X2, hr2, ho2, hg2⟩ := apg (cp := c2) hb1.size ho1 (by simp) (hS2.bel hb1) (by simp; omega)
  have hb2 := hb1.trans (hg2.bel hb1.size)
  have HX : Aside _ := hg2.keep (hg1.keep hX0 (by decide)) (by decide)
  have HR1 : Aside _ := hr1
  have HR2 : Aside _ := hr2
  have HA : Aside (Rs W0 X2 V L0 R L) := h.go hb2
  have HC : Aside (Kz w X2) := Kz.of_bel hb2
  have HS : Aside (Sl X2 (some ⟨g2, 0, none⟩) ([x] ++ l1 ++ l2)) := own_sl ho2 rfl
  have hlen : ([x] ++ l1 ++ l2).length = l1.length + l2.length + 1 := by simp <;> omega
  simp only [hlen] at hd
  have HD : Aside _ := hd
  clear hlen
  have HGE : Aside (W0.heap.size ≤ w.heap.size) := h.bel.size
  have hn1 := nameL_len i1
  have cw : IntKind.u8.wrap (l1.length : Int) = (l1.length : Int) := by rw [wrap_u8]; omega
  have j1 : ¬ (20 : Int) < (l1.length : Int) := by omega
  have j2 : decide ((20 : Int) < (l1.length : Int)) = false := by simpa using j1
  clear hd hb0 hX0 hX1 hown hr1 ho1 hg1 hb1 hr2 ho2 hg2 hb2 h hS1 hS2
  have HN : Aside (∀ X : World, Calls Try.prog 7 #[.int .i64 0] X fun e w' => e = .returned (hv (nameL 0)) ∧ Below X.heap.size X w') := fun X => rname_c 0 (by omega) X
  generalize nameL i1 = N1 at *
  generalize nameL 0 = N0 at *
  as_aux_lemma =>
  go_enter Try.func16, Try.ntmps16
  go_wp2_with (refine appr rfl _ _ 22 22 rfl _ _ rfl rfl HR1.out (Hid.out ?_))
  refine mkHid ?_
  go_wp2_with (refine appr rfl _ _ 22 22 rfl _ _ rfl rfl HR2.out (Hid.out ?_))
  clear HR1 HR2
  as_aux_lemma =>
  refine mkHid ?_
  go_wp2_with fail
  refine Calls.mono (HN.out X2) ?_
  rintro e W3 ⟨rfl, hb⟩
  have HX3 : Aside _ := heap_bel HX.out hb
  have HA3 : Aside (Rs W0 W3 V L0 R L) := HA.out.go hb
  have HC3 : Aside (Kz w W3) := HC.out.trans (Kz.of_bel hb)
  have HS3 : Aside (Sl W3 (some ⟨g2, 0, none⟩) ([x] ++ l1 ++ l2)) := HS.out.bel hb
  clear hb HA HC HS HX
  go_wp2_with fail
  refine Calls.mono (HD.out W3 g2 c2' HA3.out HS3.out) ?_
  rintro e W4 ⟨rfl, ha, hk⟩
  have HX4 : Aside _ := hk _ _ _ _ HX3.out (by decide) (by decide)
  have HRS : Aside _ := setRow_heap W4 w.heap.size _ (hl N1).toArray 28 (0, 0) HX4.out
  have HAF : Aside (Rs W0 (W4.setRow w.heap.size (hl N1).toArray) V L0 R L1) := ha.setAny HX4.out (.inl rfl) HGE.out _
  have HCF : Aside (Kz w (W4.setRow w.heap.size (hl N1).toArray)) := (HC3.out.trans hk).set (Nat.le_refl _) _
  clear ha hk HA3 HC3 HS3 HX3 HD
  go_wp2_with (refine str rfl (.tmp 6) (.tmp 25) rfl w.heap.size N1 rfl rfl z16 HX4.out hn1 rfl ?_)
  refine bodyPost_ret (v := .tuple #[hv N1, .int .i64 0]) (res_r2 (fn := Try.f16) (p := 6) (u := 7) rfl _ _ w.heap.size N1 rfl HRS.out hn1) rfl ?_
  exact ⟨rfl, HAF.out, HCF.out⟩
end
end Go.Proofs.Ytdklkofnekacdaa
