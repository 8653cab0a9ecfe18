/- HelloReads: what a Read tells, well or not, in one form. HelloReads, the walk. -/
import Derived.Test.YtcchlicokglmnaaQs
import Derived.Test.YtcchlicokglmnaaBh
import Derived.Test.YtcchlicokglmnaaQh
import Derived.Deep.LoopGhost
import Derived.LoopTactic
import Derived.Deep.CutBlock
namespace Go.Proofs.Ytcchlicokglmnaa
open Go.ChangeShapes Go.WideShapes Go.ChangeAt Go.RowKit Go.Lib
set_option linter.unusedVariables false

theorem names12 (w : World) : Calls Try.prog 12 #[] w fun e w' => e = .returned (.bool true) ∧ w' = w := by
  go_enter Try.func12, Try.ntmps12
  go_wp2_with fail
  go_ret
  exact ⟨rfl, rfl⟩
section
variable {w w' X X' : World} {o : Option Addr} {L : List UInt8} {c : Nat} {a : Int} {m n : Msg} {B B' : Nat} {P : Msg}
/-- Where Read ends. -/
def rdN (L : List UInt8) (a : Int) : Int := if readE L a = 0 then a + 4 + cutN L a else 0
/-- What Read makes, plain. -/
def rdP (L : List UInt8) (a : Int) : Msg := if readE L a = 0 then (rdAt L a).2 else m0 0
theorem rdP_fit : Fit (rdP L a) := by
  unfold rdP
  split
  · rename_i h
    unfold rdAt
    exact rd_fit (readE_isK h) _ _
  · exact m0_fit 0
theorem rdU {e : Ending} (h : ReadR L a w e w') : Below w.heap.size w w' ∧ ∃ m, e = .returned (.tuple #[.agg m.cells.toArray, .int .i64 (rdN L a), .int .i64 (readE L a)]) ∧ ReadM m w.heap.size (rdP L a) w' := by
  obtain ⟨hb, h1, h2⟩ := h
  refine ⟨hb, ?_⟩
  by_cases h0 : readE L a = 0
  · obtain ⟨m, e1, hm⟩ := h2 h0
    refine ⟨m, ?_, ?_⟩
    · rw [e1]; unfold rdN; rw [if_pos h0, h0]
    · unfold rdP; rw [if_pos h0]; exact hm
  · refine ⟨m0 0, ?_, ?_⟩
    · rw [h1 h0]; unfold rdN; rw [if_neg h0]
    · unfold rdP; rw [if_neg h0]
      exact ⟨rfl, m0_len 0, ⟨rfl, .inl ⟨rfl, rfl⟩⟩, ⟨rfl, .inl ⟨rfl, rfl⟩⟩, ⟨rfl, .inl ⟨rfl, rfl⟩⟩⟩
/-- Blocks that may turn are not those of what was read. -/
theorem ReadM.keep (h : ReadM m B P w) (hk : ∀ g cs t, B ≤ g → t ≠ 27 → t ≠ 34 → w.heap[g]? = some (.cells cs t (0, 0)) → w'.heap[g]? = w.heap[g]?) : ReadM m B P w' := by
  refine ⟨h.pl, h.len, ?_, ?_, ?_⟩
  · obtain ⟨h1, h2 | ⟨g, cap, cur, he, k1, k2, k3⟩⟩ := h.nm
    · exact ⟨h1, .inl h2⟩
    · exact ⟨h1, .inr ⟨g, cap, cur, he, k1, (hk g _ 9 k1 (by decide) (by decide) k2).trans k2, k3⟩⟩
  · obtain ⟨h1, h2 | ⟨g, cap, cur, he, k1, k2, k3⟩⟩ := h.pa
    · exact ⟨h1, .inl h2⟩
    · exact ⟨h1, .inr ⟨g, cap, cur, he, k1, (hk g _ 5 k1 (by decide) (by decide) k2).trans k2, k3⟩⟩
  · obtain ⟨h1, h2 | ⟨g, cap, cur, he, k1, k2, k3⟩⟩ := h.ti
    · exact ⟨h1, .inl h2⟩
    · exact ⟨h1, .inr ⟨g, cap, cur, he, k1, (hk g _ 5 k1 (by decide) (by decide) k2).trans k2, k3⟩⟩
theorem ReadM.bel (h : ReadM m B P w) (hb : Below w.heap.size w w') : ReadM m B P w' := h.keep (fun g cs t _ _ _ hg => hb.block g (lt_block hg))
/-- Two that were read are the same. -/
theorem same_rd (hm : ReadM m B (rdP L a) w) (hn : ReadM n B' (rdP L a) w) : Calls Try.prog 15 #[.agg m.cells.toArray, .agg n.cells.toArray] w fun e w' => e = .returned (.bool true) ∧ Below w.heap.size w w' := by
  have e : m.pl = n.pl := hm.pl.trans hn.pl.symm
  have f : ∀ {T : Type} (g : Msg → T), g m.pl = g n.pl := fun g => by rw [e]
  exact same_c m n w (hm.ok rdP_fit) (hn.ok rdP_fit) (f Msg.kind) (f Msg.random) (f Msg.share) (f Msg.name) (f Msg.protos) (f Msg.params) (f Msg.ticket) (f Msg.binder) (f Msg.early) (f Msg.again) (f Msg.mark) (f Msg.life)
theorem row35 {M t : Nat} (hl : m.len) (h : w.heap[M]? = some (.cells m.cells.toArray t (0, 0))) : w.cell? ⟨M, 35, none⟩ = some (.slice m.ao m.params.length m.ac) := by
  have e := Msg.params' hl m.ao m.params m.ac
  have hn := cells_len hl
  have h1 : m.cells.toArray[35]? = some (.slice m.ao m.params.length m.ac) := by
    have h2 : (m.cells.toArray.setIfInBounds 35 (.slice m.ao m.params.length m.ac))[35]? = some (.slice m.ao m.params.length m.ac) := by simp [hn]
    rw [e] at h2
    exact h2
  unfold World.cell?
  simp only [h]
  simpa using h1
/-- Only one block has turned. -/
def Tg (g : Nat) (w w' : World) : Prop := w'.os = w.os ∧ w'.tape = w.tape ∧ w'.output = w.output ∧ w.heap.size ≤ w'.heap.size ∧ ∀ k, k < w.heap.size → k ≠ g → w'.heap[k]? = w.heap[k]?
theorem Tg.refl (g : Nat) (w : World) : Tg g w w := ⟨rfl, rfl, rfl, Nat.le_refl _, fun _ _ _ => rfl⟩
theorem Tg.bel {g : Nat} {u v z : World} (h : Tg g u v) (hb : Below v.heap.size v z) : Tg g u z :=
  ⟨hb.os.trans h.1, hb.tape.trans h.2.1, hb.output.trans h.2.2.1, Nat.le_trans h.2.2.2.1 hb.size, fun k hk hg => (hb.block k (Nat.lt_of_lt_of_le hk h.2.2.2.1)).trans (h.2.2.2.2 k hk hg)⟩
theorem Tg.set {g j : Nat} {u v : World} (h : Tg g u v) (x : Value) : Tg g u (v.setCell ⟨g, j, none⟩ x) :=
  ⟨h.1, h.2.1, h.2.2.1, Nat.le_trans h.2.2.2.1 (by simp), fun k hk hg => (Below.heap_setCell _ _ _ _ hg).trans (h.2.2.2.2 k hk hg)⟩
theorem own_in (h : ReadM m B P w) (h0 : m.params.length ≠ 0) : ∃ g, m.ao = some ⟨g, 0, none⟩ ∧ B ≤ g ∧ g < w.heap.size := by
  obtain ⟨h1, ⟨h2, h3⟩ | ⟨g, cap, cur, he, k1, k2, k3⟩⟩ := h.pa
  · exact absurd h3 h0
  · injection he with e1 _ _
    exact ⟨g, e1, k1, lt_block k2⟩
theorem own_row (h : ReadM m B P w) {g : Nat} (hg : m.ao = some ⟨g, 0, none⟩) : ∃ cur, w.heap[g]? = some (.cells cur 5 (0, 0)) ∧ ∀ j, j < m.params.length → w.cell? ⟨g, j, none⟩ = some (.int .u8 ((m.params.getD j 0).toNat : Int)) := by
  have hp := h.pa
  obtain ⟨h1, ⟨h2, h3⟩ | ⟨g', cap, cur, he, k1, k2, k3⟩⟩ := h.pa
  · rw [hg] at h2; injection h2 with h2; cases h2
  · injection he with e1 _ _
    rw [hg] at e1
    injection e1 with e1
    injection e1 with e1
    subst e1
    refine ⟨cur, k2, fun j hj => ?_⟩
    obtain ⟨g', e, q⟩ := By.at hp j hj
    rw [hg] at e
    injection e with e
    injection e with e
    subst e
    rw [q]
    simp [List.getD, List.getElem?_eq_getElem hj]
theorem cell_set_off {g i j : Nat} {cur : Array Value} {t : Nat} {v : Value} (h : w.heap[g]? = some (.cells cur t (0, 0))) (hij : j ≠ i) : (w.setCell ⟨g, i, none⟩ v).cell? ⟨g, j, none⟩ = w.cell? ⟨g, j, none⟩ := by
  have h1 := heap_setCell_same w g i _ t v h
  unfold World.cell?
  simp only [h, h1]
  rw [Array.getElem?_setIfInBounds_ne (fun e => hij e.symm)]
theorem Sl_pre {l : List UInt8} {x : UInt8} (h : Sl w o (l ++ [x])) : Sl w o l := by
  intro j hj
  obtain ⟨b, off, e, hc⟩ := h j (by simp; omega)
  exact ⟨b, off, e, by rw [hc]; simp [List.getElem_append_left hj]⟩
theorem sl_one {x : UInt8} : Sl (w.alloc (.cells #[.int .u8 (x.toNat : Int)] 5)) (some ⟨w.heap.size, 0, none⟩) [x] := by
  intro j hj
  obtain rfl : j = 0 := by simp at hj; omega
  refine ⟨w.heap.size, 0, rfl, ?_⟩
  unfold World.cell?
  have := heap_alloc_new w (.cells #[.int .u8 (x.toNat : Int)] 5)
  simp only [Nat.add_zero, this]
  rfl
theorem str_app (l : List UInt8) : (⟨l.toArray⟩ : ByteArray) ++ ⟨#[90]⟩ = ⟨(l ++ [90]).toArray⟩ := by
  apply ByteArray.ext
  rw [ByteArray.data_append]
  simp
end
end Go.Proofs.Ytcchlicokglmnaa
namespace Go.Proofs.Ytcchlicokglmnaa
open Go.ChangeShapes Go.WideShapes Go.ChangeAt Go.RowKit Go.Lib
set_option linter.unusedVariables false

set_option maxRecDepth 100000 in
set_option maxHeartbeats 1000000 in
theorem reads_law (b : Option Addr) (L : List UInt8) (c : Nat) (a : Int) (w : World) (hs : Sl w b L) (hn : b = none → L.length = 0 ∧ c = 0) (hL : L.length ≤ 140737488351232) (hc : L.length ≤ c) (hc63 : c ≤ 9223372036854775807) (hrr : ∀ X, Below w.heap.size w X → Calls Try.prog 14 #[.slice b L.length c, .int .i64 a] X (ReadR L a X)) :
    Calls Try.prog 4 #[.slice b L.length c, .int .i64 a] w fun e w' => e = .returned (.bool true) ∧ Below w.heap.size w w' := by
  have hb4 := bl1 w (.cells #[] 5)
  obtain ⟨o5, c5, X5, r5, b5, g5⟩ := app_g (n := w.heap.size) (X := w.alloc (.cells #[] 5)) (o := some ⟨w.heap.size, 0, none⟩) (c := 0) (l := []) (World.ownsRow_made w #[] 0 (Nat.le_refl _) (by decide) rfl) hb4.size b c L (Sl_bel hs hb4) hn (by simp; omega)
  rw [List.nil_append] at r5 b5
  have hB5 : Below w.heap.size w X5 := hb4.trans (g5.below hb4.size (Nat.le_refl _))
  have hb6 := bl1 X5 (.cells #[.int .u8 90] 5)
  obtain ⟨o6, c6, X6, r6, b6, g6⟩ := app_g (n := w.heap.size) (X := X5.alloc (.cells #[.int .u8 90] 5)) (By.below b5 hb6) (Nat.le_trans hB5.size hb6.size) (some ⟨X5.heap.size, 0, none⟩) 1 [90] (sl_one (x := 90)) (fun h => by cases h) (by simp; omega)
  have HB6 : Hid (Below w.heap.size w X6) := (hB5.trans (hb6.mono hB5.size)).trans (g6.below (Nat.le_trans hB5.size hb6.size) (Nat.le_refl _))
  obtain ⟨s6, n6⟩ := By.sl b6
  obtain ⟨q6, q63⟩ := By.cap b6
  have l6 : (L ++ [90]).length = L.length + 1 := by simp
  have HIN : Hid (By w.heap.size X6 (.slice o6 (L ++ [90]).length c6) (L ++ [90])) := b6
  have HRD : Hid (∀ X, Below X6.heap.size X6 X → Calls Try.prog 13 #[.slice o6 L.length c6, .int .i64 a] X (ReadR L a X)) := fun X hX => read_c (Sl_bel (Sl_pre s6) hX) (by omega) (by omega) q63
  have HRR : Hid (∀ X, Below w.heap.size w X → Calls Try.prog 14 #[.slice b L.length c, .int .i64 a] X (ReadR L a X)) := hrr
  have HSB : Hid (∀ X, Below w.heap.size w X → (convert 25 9 (.slice b L.length c)).run Try.prog X = .ok (.string ⟨L.toArray⟩) X) := fun X hX => str_any (Sl_bel hs hX) rfl hn
  have HSI : Hid (∀ X, By w.heap.size X (.slice o6 (L ++ [90]).length c6) (L ++ [90]) → (convert 25 9 (.slice o6 (L.length + 1) c6)).run Try.prog X = .ok (.string ⟨(L ++ [90]).toArray⟩) X) := fun X hX => by
    rw [← l6]
    exact str_any (By.sl hX).1 rfl (By.sl hX).2
  have HSA : Hid _ := str_app L
  rw [l6] at r6
  have R5 : Hid _ := r5
  have R6 : Hid ((Builtin.append_ #[25, 25] 25 #[.slice o5 L.length c5, .slice (some ⟨X5.heap.size, 0, none⟩) 1 1]).run Try.prog (X5.alloc (.cells #[.int .u8 90] 5)) = .ok (.slice o6 (L.length + 1) c6) X6) := r6
  have HX56 : Hid (X6.heap.size ≥ w.heap.size) := HB6.out.size
  obtain ⟨E, hE⟩ : ∃ E, readE L a = E := ⟨_, rfl⟩
  obtain ⟨N, hN⟩ : ∃ N, rdN L a = N := ⟨_, rfl⟩
  have HE : Hid _ := hE
  have HNN : Hid _ := hN
  obtain ⟨SB, eSB⟩ : ∃ S : ByteArray, ⟨L.toArray⟩ = S := ⟨_, rfl⟩
  obtain ⟨SI, eSI⟩ : ∃ S : ByteArray, ⟨(L ++ [90]).toArray⟩ = S := ⟨_, rfl⟩
  rw [eSB] at HSB
  rw [eSI] at HSI
  have hSA : SB ++ ⟨#[90]⟩ = SI := by rw [← eSB, ← eSI]; exact HSA.out
  have HSA2 : Hid _ := hSA
  have HSZ : Hid (¬ 9223372036854775807 < SB.size + 1) := by
    show ¬ _
    have e : SB.size = L.length := by rw [← eSB]; simp [ByteArray.size]
    omega
  obtain ⟨ll, hll⟩ : ∃ ll, L.length = ll := ⟨_, rfl⟩
  rw [hll] at R5 R6 HRD HRR HSB HSI ⊢
  have i1 : (ll : Int) ≤ (c6 : Int) := by omega
  have i2 : ll ≤ c6 := by omega
  have i3 : ll ≤ ll + 1 := by omega
  have HZS : Hid ((m0 0).cells.toArray.size = 72) := by show _ = _; simp [cells_len (m0_len 0)]
  have hz := z27
  have hz3 := rz34
  obtain ⟨Z, hZ⟩ : ∃ Z, (m0 0).cells.toArray = Z := ⟨_, rfl⟩
  rw [hZ] at hz hz3 HZS
  clear hZ hSA eSB eSI HSA hE hN hll l6 r5 r6 b5 b6 g5 g6 hb4 hb6 hB5 s6 n6 q6 q63 hs hn hL hc hc63 hrr
  go_enter Try.func4, Try.ntmps4
  go_wp2_with (first
    | refine appr rfl _ _ 25 25 rfl _ _ rfl rfl R5.out ?_
    | refine appr rfl _ _ 25 25 rfl _ _ rfl rfl R6.out (Hid.out ?_))
  refine mkHid ?_
  go_wp2_with fail
  refine Calls.mono (HRD.out X6 (Below.refl _ _)) ?_
  intro e X7 hr7
  obtain ⟨hb7, m1, rfl, hm1⟩ := rdU hr7
  rw [HE.out, HNN.out]
  have HM1 : Hid (ReadM m1 X6.heap.size (rdP L a) X7) := hm1
  have HB7 : Hid (Below X6.heap.size X6 X7) := hb7
  have HRN1 : Hid _ := heap_alloc_new X7 (.cells Z 27)
  have HG1 : Hid (m1.params.length ≠ 0 → ∃ g, m1.ao = some ⟨g, 0, none⟩ ∧ X6.heap.size ≤ g ∧ g < X7.heap.size) := fun h => own_in hm1 h
  have HC1 : Hid (m1.cells.toArray.size = 72) := by show _ = _; simp [cells_len hm1.len]
  have HC1o : Hid _ := cells_one' m1
  clear hr7 hb7 hm1 R5 R6
  as_aux_lemma =>
  go_wp2_with (refine wpList_store_row rfl 27 (.tmp 6) (.tmp 28) rfl X7.heap.size m1.cells.toArray rfl rfl 27 _ HRN1.out (i27s.trans (by rw [HC1.out])) (by rw [HC1.out, HZS.out]) HC1o.out (Hid.out ?_))
  have hbs : Below X7.heap.size X7 ((X7.alloc (.cells Z 27)).setRow X7.heap.size m1.cells.toArray) := below_setRow (bl1 X7 _) (Nat.le_refl _) _
  have HB8 : Hid (Below X6.heap.size X6 ((X7.alloc (.cells Z 27)).setRow X7.heap.size m1.cells.toArray)) := HB7.out.trans (hbs.mono HB7.out.size)
  have HM1b : Hid _ := HM1.out.bel hbs
  have HRW1 : Hid _ := setRow_heap (X7.alloc (.cells Z 27)) X7.heap.size _ m1.cells.toArray 27 (0, 0) HRN1.out
  clear hbs HM1 HRN1
  refine mkHid ?_
  generalize (X7.alloc (.cells Z 27)).setRow X7.heap.size m1.cells.toArray = X8 at *
  have HO0 : Hid (X6.heap.size ≤ X7.heap.size) := HB7.out.size
  obtain ⟨M1, hM1⟩ : ∃ M, X7.heap.size = M := ⟨_, rfl⟩
  rw [hM1] at HRW1 HO0 HG1 ⊢
  clear hM1
  go_wp2_with fail
  refine Calls.mono (HRD.out X8 HB8.out) ?_
  intro e X9 hr9
  obtain ⟨hb9, m2, rfl, hm2⟩ := rdU hr9
  rw [HE.out, HNN.out]
  have HM2 : Hid (ReadM m2 X8.heap.size (rdP L a) X9) := hm2
  have HB9 : Hid (Below X8.heap.size X8 X9) := hb9
  have HM1c : Hid _ := HM1b.out.bel hb9
  have HRW1c : Hid _ := rowB' HRW1.out hb9
  have HO1 : Hid (M1 < X8.heap.size) := lt_block HRW1.out
  have HRN2 : Hid _ := heap_alloc_new X9 (.cells Z 27)
  have HC2 : Hid (m2.cells.toArray.size = 72) := by show _ = _; simp [cells_len hm2.len]
  have HC2o : Hid _ := cells_one' m2
  clear hr9 hb9 hm2 HM1b HRW1
  as_aux_lemma =>
  go_wp2_with (refine wpList_store_row rfl 27 (.tmp 9) (.tmp 38) rfl X9.heap.size m2.cells.toArray rfl rfl 27 _ HRN2.out (i27s.trans (by rw [HC2.out])) (by rw [HC2.out, HZS.out]) HC2o.out (Hid.out ?_))
  have hbs : Below X9.heap.size X9 ((X9.alloc (.cells Z 27)).setRow X9.heap.size m2.cells.toArray) := below_setRow (bl1 X9 _) (Nat.le_refl _) _
  have HB10 : Hid (Below X8.heap.size X8 ((X9.alloc (.cells Z 27)).setRow X9.heap.size m2.cells.toArray)) := HB9.out.trans (hbs.mono HB9.out.size)
  have HM1d : Hid _ := HM1c.out.bel hbs
  have HRW1d : Hid _ := rowB' HRW1c.out hbs
  have HM2d : Hid _ := HM2.out.bel hbs
  have HRW2d : Hid _ := setRow_heap (X9.alloc (.cells Z 27)) X9.heap.size _ m2.cells.toArray 27 (0, 0) HRN2.out
  have HO2 : Hid (X8.heap.size ≤ X9.heap.size) := HB9.out.size
  clear hbs HM1c HRW1c HM2 HRN2 HB9
  refine mkHid ?_
  generalize (X9.alloc (.cells Z 27)).setRow X9.heap.size m2.cells.toArray = X10 at *
  obtain ⟨M2, hM2⟩ : ∃ M, X9.heap.size = M := ⟨_, rfl⟩
  rw [hM2] at HRW2d HO2 ⊢
  clear hM2
  have HW10 : Hid (Below w.heap.size w X10) := (HB6.out.trans (HB8.out.mono HB6.out.size)).trans (HB10.out.mono (Nat.le_trans HB6.out.size HB8.out.size))
  go_wp2_with fail
  refine Calls.mono (HRR.out X10 HW10.out) ?_
  intro e X11 hr11
  obtain ⟨hb11, m3, rfl, hm3⟩ := rdU hr11
  rw [HE.out, HNN.out]
  have HM3 : Hid (ReadM m3 X10.heap.size (rdP L a) X11) := hm3
  have HB11 : Hid (Below X10.heap.size X10 X11) := hb11
  have HM1e : Hid _ := HM1d.out.bel hb11
  have HRW1e : Hid _ := rowB' HRW1d.out hb11
  have HM2e : Hid _ := HM2d.out.bel hb11
  have HRW2e : Hid _ := rowB' HRW2d.out hb11
  have HRN3 : Hid _ := heap_alloc_new X11 (.cells Z 34)
  have HC3 : Hid (m3.cells.toArray.size = 72) := by show _ = _; simp [cells_len hm3.len]
  have HC3o : Hid _ := cells_one' m3
  clear hr11 hb11 hm3 HM1d HRW1d HM2d HRW2d
  as_aux_lemma =>
  go_wp2_with (refine wpList_store_row rfl 34 (.tmp 12) (.tmp 45) rfl X11.heap.size m3.cells.toArray rfl rfl 34 _ HRN3.out (ri34.trans (by rw [HC3.out])) (by rw [HC3.out, HZS.out]) HC3o.out (Hid.out ?_))
  have hbs : Below X11.heap.size X11 ((X11.alloc (.cells Z 34)).setRow X11.heap.size m3.cells.toArray) := below_setRow (bl1 X11 _) (Nat.le_refl _) _
  have HB12 : Hid (Below X10.heap.size X10 ((X11.alloc (.cells Z 34)).setRow X11.heap.size m3.cells.toArray)) := HB11.out.trans (hbs.mono HB11.out.size)
  have HM1f : Hid _ := HM1e.out.bel hbs
  have HRW1f : Hid _ := rowB' HRW1e.out hbs
  have HM2f : Hid _ := HM2e.out.bel hbs
  have HRW2f : Hid _ := rowB' HRW2e.out hbs
  have HM3f : Hid _ := HM3.out.bel hbs
  have HRW3f : Hid _ := setRow_heap (X11.alloc (.cells Z 34)) X11.heap.size _ m3.cells.toArray 34 (0, 0) HRN3.out
  have HO3 : Hid (X10.heap.size ≤ X11.heap.size) := HB11.out.size
  clear hbs HM1e HRW1e HM2e HRW2e HM3 HRN3 HB11
  refine mkHid ?_
  generalize (X11.alloc (.cells Z 34)).setRow X11.heap.size m3.cells.toArray = X12 at *
  obtain ⟨M3, hM3⟩ : ∃ M, X11.heap.size = M := ⟨_, rfl⟩
  rw [hM3] at HRW3f HO3 ⊢
  clear hM3
  have HW12 : Hid (Below w.heap.size w X12) := HW10.out.trans (HB12.out.mono HW10.out.size)
  have HIN12 : Hid (Below X6.heap.size X6 X12) := (HB8.out.trans (HB10.out.mono HB8.out.size)).trans (HB12.out.mono (Nat.le_trans HB8.out.size HB10.out.size))
  have HO4 : Hid (X8.heap.size ≤ X10.heap.size) := HB10.out.size
  have HO5 : Hid (X6.heap.size ≤ X8.heap.size) := HB8.out.size
  have HSM1 : Hid _ := same_rd HM1f.out HM3f.out
  have hu := u27s
  as_aux_lemma =>
  go_wp2_with (first
    | refine wpList_load_row rfl 27 (.tmp 6) rfl M1 rfl 27 m1.cells.toArray (0, 0) _ HRW1f.out hu rfl (i27s.trans (by simp [HC1.out])) ?_
    | refine wpList_load_row rfl 34 (.tmp 12) rfl M3 rfl 34 m3.cells.toArray (0, 0) _ HRW3f.out ru34 rfl (ri34.trans (by rw [HC3.out])) ?_)
  refine Calls.mono HSM1.out ?_
  rintro e X13 ⟨rfl, hb13⟩
  have s1 := HSI.out X13 (By.below (By.below HIN.out HIN12.out) hb13)
  have s2 := HSB.out X13 (HW12.out.trans (hb13.mono HW12.out.size))
  have hSA := HSA2.out
  have hSZ := HSZ.out
  have HW13 : Hid (Below w.heap.size w X13) := HW12.out.trans (hb13.mono HW12.out.size)
  have HM1g : Hid (ReadM m1 X6.heap.size (rdP L a) X13) := HM1f.out.bel hb13
  have HRW1g : Hid _ := rowB' HRW1f.out hb13
  have HM2g : Hid (ReadM m2 X8.heap.size (rdP L a) X13) := HM2f.out.bel hb13
  have HRW2g : Hid _ := rowB' HRW2f.out hb13
  have HM3g : Hid (ReadM m3 X10.heap.size (rdP L a) X13) := HM3f.out.bel hb13
  have HRW3g : Hid _ := rowB' HRW3f.out hb13
  clear hb13 HSM1 HM1f HRW1f HM2f HRW2f HM3f HRW3f HIN12 HSI HSB HSA2
  go_upto_block 0 with fail
  clear s1 s2 hSA hSZ
  have hl1 := HM1g.out.len
  have HP1 : Hid _ := HM1g.out.pa
  obtain ⟨n1, hn1⟩ : ∃ n, m1.params.length = n := ⟨_, rfl⟩
  have HN1 : Hid _ := hn1
  have HFZ : Hid (∀ (g : Nat) (W : World), g < X8.heap.size → X6.heap.size ≤ g → Tg g X13 W → W.heap[M2]? = some (.cells m2.cells.toArray 27 (0, 0)) ∧ W.heap[M3]? = some (.cells m3.cells.toArray 34 (0, 0)) ∧ ReadM m2 X8.heap.size (rdP L a) W ∧ ReadM m3 X10.heap.size (rdP L a) W ∧ Below w.heap.size w W) := by
    intro g W hg1 hg2 ht
    have o2 := HO2.out
    have o3 := HO3.out
    have o4 := HO4.out
    have o6 := HX56.out
    refine ⟨(ht.2.2.2.2 M2 (lt_block HRW2g.out) (by omega)).trans HRW2g.out, (ht.2.2.2.2 M3 (lt_block HRW3g.out) (by omega)).trans HRW3g.out, HM2g.out.keep (fun k cs t hk _ _ hh => ht.2.2.2.2 k (lt_block hh) (by omega)), HM3g.out.keep (fun k cs t hk _ _ hh => ht.2.2.2.2 k (lt_block hh) (by omega)), ?_⟩
    exact HW13.out.trans ⟨ht.1, ht.2.1, ht.2.2.1, ht.2.2.2.1, fun k hk => ht.2.2.2.2 k (by have := HW13.out.size; omega) (by omega)⟩
  go_cut [15] from 70 to 86 (fun s15 wx => Hid (wx.heap[M2]? = some (.cells m2.cells.toArray 27 (0, 0)) ∧ wx.heap[M3]? = some (.cells m3.cells.toArray 34 (0, 0)) ∧ ReadM m2 X8.heap.size (rdP L a) wx ∧ ReadM m3 X10.heap.size (rdP L a) wx ∧ Below w.heap.size w wx))
  case first =>
    have c35 := row35 hl1 HRW1g.out
    rw [hn1] at c35
    by_cases h0 : n1 = 0
    · subst h0
      have HX : Hid _ := HFZ.out X6.heap.size X13 (by have := HO1.out; have := HO0.out; omega) (Nat.le_refl _) (Tg.refl _ _)
      clear hn1
      as_aux_lemma =>
      go_wp2_with fail
      refine wp_loop_rounds 1 ?_
      rw [rounds_succ]
      go_wp2_with fail
      go_meet
      case rel => exact HX.out
    · obtain ⟨g1, hg1, hlo, hhi⟩ := HG1.out (by rw [hn1]; exact h0)
      obtain ⟨cur0, hrow0, hcel0⟩ := own_row HM1g.out hg1
      rw [hg1] at c35
      have HM1n : Hid (g1 ≠ M1) := by show g1 ≠ M1; omega
      have HGX : Hid (g1 < X8.heap.size ∧ X6.heap.size ≤ g1) := ⟨by have := HO1.out; omega, hlo⟩
      have HST : Hid (Tg g1 X13 X13 ∧ (∃ cur, X13.heap[g1]? = some (.cells cur 5 (0, 0))) ∧ ∀ j, 0 ≤ j → j < n1 → X13.cell? ⟨g1, j, none⟩ = some (.int .u8 ((m1.params.getD j 0).toNat : Int))) := ⟨Tg.refl _ _, ⟨cur0, hrow0⟩, fun j _ hj => hcel0 j (by rw [hn1]; exact hj)⟩
      have HC35 : Hid (∀ W, Tg g1 X13 W → W.cell? ⟨M1, 35, none⟩ = some (.slice (some ⟨g1, 0, none⟩) n1 m1.ac)) := fun W hW => (World.cell?_of_block (a := ⟨M1, 35, none⟩) (hW.2.2.2.2 M1 (lt_block HRW1g.out) (fun e => HM1n.out e.symm))).trans c35
      have hm63 : n1 ≤ 900000 := by
        have f := rdP_fit (L := L) (a := a)
        rw [← HM1g.out.pl] at f
        have := f.params
        rw [← hn1]
        exact this
      clear hn1 hrow0 hcel0 hg1 hlo hhi
      as_aux_lemma =>
      go_wp2_with fail
      go_loopg [15] n1 (fun kx s15 wr => ∃ i : Nat, s15 = .int .i64 (i : Int) ∧ i ≤ n1 ∧ n1 - i ≤ kx ∧ Hid (Tg g1 X13 wr ∧ (∃ cur, wr.heap[g1]? = some (.cells cur 5 (0, 0))) ∧ ∀ j, i ≤ j → j < n1 → wr.cell? ⟨g1, j, none⟩ = some (.int .u8 ((m1.params.getD j 0).toNat : Int))))
      case atStart => exact ⟨0, rfl, by omega, by omega, HST.out⟩
      case round =>
        obtain ⟨i, rfl, hi, hkx, HR⟩ := hrel
        clear HST c35
        have d35 := HC35.out wr HR.out.1
        by_cases hlt : i < n1
        · have i1 : (i : Int) < (n1 : Int) := by omega
          have i1' : decide ((i : Int) < (n1 : Int)) = true := by simpa using i1
          have i0 : (0 : Int) ≤ (i : Int) := by omega
          have dj := HR.out.2.2 i (Nat.le_refl _) hlt
          obtain ⟨V, hV⟩ : ∃ V : Int, ((m1.params.getD i 0).toNat : Int) = V := ⟨_, rfl⟩
          rw [hV] at dj
          have df : wr.frozen? ⟨g1, i, none⟩ = false := by obtain ⟨cur, hc⟩ := HR.out.2.1; simp [World.frozen?, hc]
          have iw : IntKind.i64.wrap ((i : Int) + 1) = (i : Int) + 1 := by rw [IntKind.wrap_i64]; omega
          have HNX : Hid (∀ v : Value, Tg g1 X13 (wr.drew.setCell ⟨g1, i, none⟩ v) ∧ (∃ cur, (wr.drew.setCell ⟨g1, i, none⟩ v).heap[g1]? = some (.cells cur 5 (0, 0))) ∧ ∀ j, i + 1 ≤ j → j < n1 → (wr.drew.setCell ⟨g1, i, none⟩ v).cell? ⟨g1, j, none⟩ = some (.int .u8 ((m1.params.getD j 0).toNat : Int))) := by
            intro v
            obtain ⟨t1, ⟨cur, hc⟩, t3⟩ := HR.out
            have hc' : wr.drew.heap[g1]? = some (.cells cur 5 (0, 0)) := hc
            refine ⟨(t1.bel (bld wr)).set v, ⟨_, heap_setCell_same wr.drew g1 i _ 5 v hc'⟩, fun j h1 h2 => ?_⟩
            rw [cell_set_off hc' (by omega)]
            exact t3 j (by omega) h2
          clear HR hV
          as_aux_lemma =>
          go_wp2_with fail
          go_region
          all_goals
            go_wp2_with fail
            go_roundg (n1 - (i + 1))
            case measure => omega
            case rel => exact ⟨i + 1, rfl, by omega, Nat.le_refl _, HNX.out _⟩
        · have i1 : ¬ (i : Int) < (n1 : Int) := by omega
          have i1' : decide ((i : Int) < (n1 : Int)) = false := by simpa using i1
          have HX : Hid _ := HFZ.out g1 wr HGX.out.1 HGX.out.2 HR.out.1
          clear HR
          as_aux_lemma =>
          go_wp2_with fail
          go_meet
          case rel => exact HX.out
  case rest =>
    obtain ⟨t2, t3, q2, q3, hbw⟩ := hcut.out
    have HT2 : Hid _ := t2
    have HT3 : Hid _ := t3
    have HSM2 : Hid _ := same_rd q2 q3
    have HBW : Hid _ := hbw
    clear t2 t3 q2 q3 hbw hcut hl1
    go_wp2_with (first
      | refine wpList_load_row rfl 27 (.tmp 9) rfl M2 rfl 27 m2.cells.toArray (0, 0) _ HT2.out hu rfl (i27s.trans (by simp [HC2.out])) ?_
      | refine wpList_load_row rfl 34 (.tmp 12) rfl M3 rfl 34 m3.cells.toArray (0, 0) _ HT3.out ru34 rfl (ri34.trans (by rw [HC3.out])) ?_)
    refine Calls.mono HSM2.out ?_
    rintro e X14 ⟨rfl, hb14⟩
    have HB14 : Hid (Below w.heap.size w X14) := HBW.out.trans (hb14.mono HBW.out.size)
    clear hb14
    go_wp2_with fail
    refine Calls.mono (names12 X14) ?_
    rintro e X15 ⟨rfl, rfl⟩
    go_wp2_with fail
    go_ret
    exact ⟨rfl, HB14.out⟩
end Go.Proofs.Ytcchlicokglmnaa
