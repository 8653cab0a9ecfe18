/- HelloBack, the walk. -/
import Derived.Test.YtcchlicokglmnaaBh
namespace Go.Proofs.Ytcchlicokglmnaa
open Go.ChangeShapes Go.WideShapes Go.ChangeAt Go.RowKit Go.Lib
set_option linter.unusedVariables false

theorem Out.str' {w : World} {v : Value} {l : List UInt8} (h : Out w v l) : (convert 25 9 v).run Try.prog w = .ok (.string ⟨l.toArray⟩) w := by
  obtain ⟨o, c, rfl, h1, h2⟩ := h
  exact str_any h1 rfl h2
theorem Sl_take {w : World} {o : Option Addr} {l : List UInt8} (h : Sl w o l) (n : Nat) : Sl w o (l.take n) := by
  intro j hj
  have hj' : j < l.length := by simp at hj; omega
  obtain ⟨b, off, e, hc⟩ := h j hj'
  exact ⟨b, off, e, by rw [hc]; simp⟩
set_option maxRecDepth 100000 in
set_option maxHeartbeats 1000000 in
theorem back_law (m : Msg) (b : Option Addr) (L : List UInt8) (c : Nat) (w : World) (hok : m.ok w) (hs : Sl w b L) (hn : b = none → L.length = 0 ∧ c = 0) (hL : L.length ≤ 140737488351232) (hc : L.length ≤ c) (hc63 : c ≤ 9223372036854775807) :
    Calls Try.prog 5 #[.agg m.cells.toArray, .slice b L.length c] w fun e w' => e = .returned (.bool true) ∧ Below w.heap.size w w' := by
  have HR1 : Hid _ := heap_alloc_new w (.cells m.cells.toArray 27)
  have HB1 : Hid (Below w.heap.size w (w.alloc (.cells m.cells.toArray 27))) := bl1 w _
  have HPUT : Hid (∀ X, Below w.heap.size w X → Calls Try.prog 7 #[.agg m.cells.toArray] X (PutR m X)) := fun X h => put_c m X (hok.bel h)
  have HP20 : Hid (∀ X, Calls Try.prog 7 #[.agg (m0 20).cells.toArray] X (PutR (m0 20) X)) := fun X => put_c (m0 20) X (m20_ok X)
  have HM0 : Hid (m.cells.toArray[0]? = some (.int .i64 m.kind)) := by show _ = _; simpa using (Msg.get hok.ln).1
  have HLEN : Hid m.len := hok.ln
  have hz20 := m0_set 20
  have m72 : (Try.prog.info? 27).map (·.size) = some m.cells.toArray.toList.length := i27s.trans (by simp [cells_len hok.ln])
  have hu := u27s
  have HREAD : Hid (∀ X, Below w.heap.size w X → _) := fun X h => back2 (X := X) (c := c) (Sl_bel hs h) (by omega) hc hc63
  have HOK : Hid _ := hok
  have HBS : Hid _ := hs
  have h20 := m20_put
  obtain ⟨E, hE⟩ : ∃ E, putE m = E := ⟨_, rfl⟩
  obtain ⟨X, hX⟩ : ∃ X, putL m = X := ⟨_, rfl⟩
  have HXL : Hid (X.length ≤ 100000) := by
    show _ ≤ _
    rw [← hX]
    by_cases h : putE m = 0
    · rw [putL_len h hok.ln]; have := bodyS_len m hok.ln; omega
    · unfold putL; rw [if_neg h]; simp
  unfold PutR at HPUT HP20
  simp only [hE, hX] at HPUT
  simp only [h20.1] at HP20
  obtain ⟨Y, hY⟩ : ∃ Y, putL (m0 20) = Y := ⟨_, rfl⟩
  simp only [hY] at HP20
  rw [hY] at h20
  have l20 := h20.2
  have HE : Hid _ := hE
  have HX : Hid _ := hX
  have HHN : Hid _ := hn
  have HLL : Hid _ := hL
  have HLC : Hid (L.length ≤ c) := hc
  clear h20 hY hE hX hok hs hn hL hc
  have hz := z27
  have HZS : Hid ((m0 0).cells.toArray.size = 72) := by show _ = _; simp [cells_len (m0_len 0)]
  have HZ1 : Hid _ := cells_one' (m0 0)
  have hZn : ¬ (m0 0).cells.toArray = #[] := fun h => by have := congrArg Array.size h; simp [Msg.cells_size (m0_len 0)] at this
  generalize (m0 0).cells.toArray = Z at *
  generalize (m0 20).cells.toArray = Q at *
  obtain ⟨A, hA⟩ : ∃ A, m.cells.toArray = A := ⟨_, rfl⟩
  rw [hA] at HR1 HB1 HPUT m72 HM0 ⊢
  have HA : Hid _ := hA
  clear hA
  go_enter Try.func5, Try.ntmps5
  go_wp2_with (refine wpList_load_row rfl 27 (.tmp 2) rfl w.heap.size rfl 27 _ (0, 0) _ HR1.out hu rfl m72 (Hid.out ?_))
  generalize w.alloc (.cells A 27) = W1 at *
  as_aux_lemma =>
  refine mkHid ?_
  go_wp2_with fail
  refine Calls.mono (HPUT.out W1 HB1.out) ?_
  rintro e W2 ⟨x, rfl, hx2, hb2⟩
  obtain ⟨xo, xc, rfl⟩ := own_val hx2
  have HR2 : Hid _ := rowB' HR1.out hb2
  have HB2 : Hid (Below w.heap.size w W2) := HB1.out.trans (hb2.mono HB1.out.size)
  have HX2 : Hid (By W1.heap.size W2 (.slice xo X.length xc) X) := hx2
  clear hx2 hb2 HR1 HPUT
  as_aux_lemma =>
  go_wp2_with fail
  refine Calls.mono (HP20.out W2) ?_
  rintro e W3 ⟨y, rfl, hy3, hb3⟩
  obtain ⟨yo, yc, rfl⟩ := own_val hy3
  have HR3 : Hid _ := rowB' HR2.out hb3
  have HB3 : Hid (Below w.heap.size w W3) := HB2.out.trans (hb3.mono HB2.out.size)
  have HX3 : Hid (By W1.heap.size W3 (.slice xo X.length xc) X) := By.below HX2.out hb3
  clear hy3 hb3 HR2 HX2 HP20
  have l20' : ((Y.length : Int) != 20) = false := by rw [l20]; rfl
  by_cases e0 : E = 0
  · subst e0
    have hb4 := bl1 W3 (.cells #[] 5)
    obtain ⟨xs1, xs2⟩ := By.sl (By.below HX3.out hb4)
    obtain ⟨o5, c5, X5, r5, b5, g5⟩ := app_g (n := W3.heap.size) (X := W3.alloc (.cells #[] 5)) (o := some ⟨W3.heap.size, 0, none⟩) (c := 0) (l := []) (World.ownsRow_made W3 #[] 0 (Nat.le_refl _) (by decide) rfl) hb4.size xo xc X xs1 xs2 (by have := HXL.out; simp; omega)
    rw [List.nil_append] at r5 b5
    have HB5 : Hid (Below w.heap.size w X5) := HB3.out.trans ((hb4.trans (g5.below hb4.size (Nat.le_refl _))).mono HB3.out.size)
    obtain ⟨o6, c6, X6, r6, b6, g6⟩ := app_g (n := W3.heap.size) b5 (Nat.le_trans hb4.size g5.size) b c L (Sl_bel HBS.out HB5.out) HHN.out (by have := HXL.out; have := HLL.out; omega)
    have HG6 : Hid (Below W3.heap.size W3 X6) := (hb4.trans (g5.below hb4.size (Nat.le_refl _))).trans (g6.below (Nat.le_trans hb4.size g5.size) (Nat.le_refl _))
    have HB6 : Hid (Below w.heap.size w X6) := HB3.out.trans (HG6.out.mono HB3.out.size)
    have HR6 : Hid _ := rowB' HR3.out HG6.out
    have HX6 : Hid (By W1.heap.size X6 (.slice xo X.length xc) X) := By.below HX3.out HG6.out
    have HRD : Hid (Calls Try.prog 13 #[.slice o6 (X ++ L).length c6, .int .i64 0] X6 fun e w' => Below X6.heap.size X6 w' ∧ ∃ nm : Msg, e = .returned (.tuple #[.agg nm.cells.toArray, .int .i64 (X.length : Int), .int .i64 0]) ∧ Rm nm w' ∧ nm.kind = m.kind ∧ putL nm = X) := by
      have := back1 (L := L) HE.out HLEN.out (X := X6) (n := W3.heap.size) (o := o6) (c := c6) (by rw [HX.out]; exact b6) (by rw [HX.out, List.length_append]; have := HXL.out; have := HLL.out; omega)
      rw [HX.out] at this
      exact this
    have R5 : Hid _ := r5
    have R6 : Hid _ := r6
    clear hb4 xs1 xs2 r5 b5 g5 r6 b6 g6 HB5 HG6 HX3 HR3 HB3
    generalize (X ++ L).length = XL at *
    as_aux_lemma =>
    go_wp2_with (first
      | refine appr rfl _ _ 25 25 rfl _ _ rfl rfl R5.out ?_
      | refine appr rfl _ _ 25 25 rfl _ _ rfl rfl R6.out (Hid.out ?_))
    refine mkHid ?_
    go_wp2_with fail
    refine Calls.mono HRD.out ?_
    rintro e X7 ⟨hb7, nm, rfl, hrm, hkd, hpl⟩
    have HB7 : Hid (Below w.heap.size w X7) := HB6.out.trans (hb7.mono HB6.out.size)
    have HR7 : Hid _ := rowB' HR6.out hb7
    have HX7 : Hid (By W1.heap.size X7 (.slice xo X.length xc) X) := By.below HX6.out hb7
    have HRN : Hid _ := heap_alloc_new X7 (.cells Z 27)
    have HRM : Hid _ := hrm
    have HKD : Hid _ := hkd
    have HPL : Hid _ := hpl
    have HC1 : Hid (nm.cells.toArray.size = 72) := by show _ = _; simp [cells_len hrm.len]
    have HC1o : Hid _ := cells_one' nm
    have HN0 : Hid (nm.cells.toArray[0]? = some (.int .i64 m.kind)) := by show _ = _; rw [← hkd]; simpa using (Msg.get hrm.len).1
    clear hb7 hrm hkd hpl R5 R6 HRD HR6 HX6 HB6
    as_aux_lemma =>
    go_wp2_with (refine wpList_store_row rfl 27 (.tmp 9) (.tmp 43) rfl X7.heap.size nm.cells.toArray rfl rfl 27 _ HRN.out (i27s.trans (by rw [HC1.out])) (by rw [HC1.out, HZS.out]) HC1o.out (Hid.out ?_))
    have hbs : Below X7.heap.size X7 ((X7.alloc (.cells Z 27)).setRow X7.heap.size nm.cells.toArray) := below_setRow (bl1 X7 _) (Nat.le_refl _) _
    have HB8 : Hid (Below w.heap.size w ((X7.alloc (.cells Z 27)).setRow X7.heap.size nm.cells.toArray)) := HB7.out.trans (hbs.mono HB7.out.size)
    have HR8 : Hid _ := rowB' HR7.out hbs
    have HX8 : Hid _ := By.below HX7.out hbs
    have HRN8 : Hid _ := setRow_heap (X7.alloc (.cells Z 27)) X7.heap.size _ nm.cells.toArray 27 (0, 0) HRN.out
    have HOK8 : Hid _ := HRM.out.ok.bel hbs
    clear hbs
    refine mkHid ?_
    generalize (X7.alloc (.cells Z 27)).setRow X7.heap.size nm.cells.toArray = X8 at *
    have HPC : Hid _ := put_c nm X8 HOK8.out
    obtain ⟨A1, hA1⟩ : ∃ A, nm.cells.toArray = A := ⟨_, rfl⟩
    rw [hA1] at HC1 HRN8 HPC HN0 ⊢
    clear HOK8 HRN HC1o HR7 HX7 HB7
    as_aux_lemma =>
    go_wp2_with (refine wpList_load_row rfl 27 (.tmp 9) rfl X7.heap.size rfl 27 _ (0, 0) _ HRN8.out hu rfl (i27s.trans (by simp [HC1.out])) ?_)
    refine Calls.mono HPC.out ?_
    rintro e X9 ⟨y1, he1, hy1, hb1⟩
    rw [HRM.out.pe] at he1
    subst he1
    obtain ⟨yo1, yc1, rfl⟩ := own_val hy1
    have HB9 : Hid (Below w.heap.size w X9) := HB8.out.trans (hb1.mono HB8.out.size)
    have HR9 := rowB' HR8.out hb1
    have HRN9 := rowB' HRN8.out hb1
    have sx := (By.out (By.below HX8.out hb1)).str'
    have sy := (By.out hy1).str'
    rw [HPL.out] at sy ⊢
    have k1 : X9.cell? ⟨X7.heap.size, 0, none⟩ = some (.int .i64 m.kind) := by simp only [World.cell?, HRN9]; exact HN0.out
    have k2 : X9.cell? ⟨w.heap.size, 0, none⟩ = some (.int .i64 m.kind) := by simp only [World.cell?, HR9]; exact HM0.out
    clear hy1 hb1 HR9 HRN9 HRN8 HPC HC1 HB8 HR8 HX8 HN0
    as_aux_lemma =>
    go_wp2_with fail
    refine Calls.mono (HREAD.out X9 HB9.out) ?_
    rintro e R1 ⟨hbr, hr⟩
    have HBR : Hid (Below w.heap.size w R1) := HB9.out.trans (hbr.mono HB9.out.size)
    clear hbr
    have hz := z27
    have HB2 : Hid (Below w.heap.size w (R1.alloc (.cells Z 27))) := HBR.out.trans ((bl1 R1 _).mono HBR.out.size)
    have HRN : Hid _ := heap_alloc_new R1 (.cells Z 27)
    rcases hr with ⟨E2, hE2, rfl⟩ | ⟨nm2, N2, rfl, hrm2, hN2, hp2⟩
    · have e2' : (E2 != 0) = true := by simpa using hE2
      have e2'' : (E2 == 0) = false := by simpa using hE2
      clear hE2
      as_aux_lemma =>
      go_wp2_with (refine wpList_store_row rfl 27 (.tmp 14) (.tmp 80) rfl R1.heap.size Z rfl rfl 27 _ HRN.out (i27s.trans (by rw [HZS.out])) rfl HZ1.out (Hid.out ?_))
      have HB3 : Hid _ := below_setRow HB2.out (show w.heap.size ≤ R1.heap.size from HBR.out.size) Z
      refine mkHid ?_
      go_wp2_with fail
      go_ret
      exact ⟨rfl, HB3.out⟩
    · have HRM2 : Hid _ := hrm2
      have HN2 : Hid _ := hN2
      have HP2 : Hid _ := hp2
      have HC2 : Hid (nm2.cells.toArray.size = 72) := by show _ = _; simp [cells_len hrm2.len]
      have HC2o : Hid _ := cells_one' nm2
      clear hrm2 hN2 hp2
      as_aux_lemma =>
      go_wp2_with (refine wpList_store_row rfl 27 (.tmp 14) (.tmp 80) rfl R1.heap.size nm2.cells.toArray rfl rfl 27 _ HRN.out (i27s.trans (by rw [HC2.out])) (by rw [HC2.out, HZS.out]) HC2o.out (Hid.out ?_))
      have HB3 : Hid _ := below_setRow HB2.out (show w.heap.size ≤ R1.heap.size from HBR.out.size) nm2.cells.toArray
      have HRN3 : Hid _ := setRow_heap (R1.alloc (.cells Z 27)) R1.heap.size _ nm2.cells.toArray 27 (0, 0) HRN.out
      have HOK3 : Hid (nm2.ok ((R1.alloc (.cells Z 27)).setRow R1.heap.size nm2.cells.toArray)) := HRM2.out.ok.bel (below_setRow (bl1 R1 _) (Nat.le_refl _) _)
      refine mkHid ?_
      generalize (R1.alloc (.cells Z 27)).setRow R1.heap.size nm2.cells.toArray = R2 at *
      have HPC : Hid _ := put_c nm2 R2 HOK3.out
      obtain ⟨A2, hA2⟩ : ∃ A, nm2.cells.toArray = A := ⟨_, rfl⟩
      rw [hA2] at HC2 HRN3 HPC ⊢
      clear HOK3 HRN HC2o
      as_aux_lemma =>
      go_wp2_with (refine wpList_load_row rfl 27 (.tmp 14) rfl R1.heap.size rfl 27 _ (0, 0) _ HRN3.out hu rfl (i27s.trans (by simp [HC2.out])) ?_)
      refine Calls.mono HPC.out ?_
      rintro e R3 ⟨y2, he2, hy2, hb2⟩
      rw [HRM2.out.pe] at he2
      subst he2
      obtain ⟨yo, yc, rfl⟩ := own_val hy2
      have HB4 : Hid (Below w.heap.size w R3.drew) := (HB3.out.trans (hb2.mono HB3.out.size)).trans ((bld R3).mono (Nat.le_trans HB3.out.size hb2.size))
      have sy := (By.out (By.below hy2 (bld R3))).str'
      have HN2' : Hid (N2 ≤ L.length) := HN2.out
      have ylen : (putL nm2).length = N2 := by rw [HP2.out, List.length_take, Nat.min_eq_left HN2'.out]
      rw [ylen] at sy ⊢
      rw [HP2.out] at sy
      have sb := str_any (cap := c) (Sl_take (Sl_bel HBS.out HB4.out) N2) (by rw [List.length_take, Nat.min_eq_left HN2'.out]) (m := N2) (fun h => by have := HHN.out h; have := HN2'.out; omega)
      clear hy2 hb2 HRN3 HPC HC2 HB3 HRM2
      as_aux_lemma =>
      go_wp2_with fail
      refine wp_region_held_drew (S := fun X => (convert 25 9 (.slice yo N2 yc)).run Try.prog X = .ok (.string ⟨(L.take N2).toArray⟩) X ∧ (convert 25 9 (.slice b N2 c)).run Try.prog X = .ok (.string ⟨(L.take N2).toArray⟩) X) (by kernel_rfl) ⟨sy, sb⟩ (fun hHeld => ?_)
      clear sy sb
      generalize R3.drew = R4 at *
      refine wpAnyH_take (i := 0) (v := .int .i64 0) rfl (by kernel_rfl) (by kernel_rfl) (by kernel_rfl) (fun _ _ _ h => h) (Or.inl ⟨by rfl, by intro w hs; go_simp⟩) hHeld ?_
      refine norm_any' (fun K hK => ?_)
      go_simp
      refine hK _ _ ?_
      clear hK K
      refine wpAnyH_take (i := 1) (v := .bool true) rfl (by kernel_rfl) (by kernel_rfl) (by kernel_rfl) (fun _ _ _ h => h) (Or.inl ⟨by rfl, by intro w hs; go_simp⟩) hHeld ?_
      refine norm_any' (fun K hK => ?_)
      go_simp
      refine hK _ _ ?_
      clear hK K
      refine wpAnyH_take (i := 2) (v := .bool true) rfl (by kernel_rfl) (by kernel_rfl) (by kernel_rfl) (fun _ _ _ h => h) (Or.inl ⟨by rfl, by intro w hs; go_simp⟩) hHeld ?_
      refine norm_any' (fun K hK => ?_)
      go_simp
      refine hK _ _ ?_
      clear hK K
      refine wpAnyH_take (i := 3) (v := .slice yo N2 yc) rfl (by kernel_rfl) (by kernel_rfl) (by kernel_rfl) (fun _ _ _ h => h) (Or.inl ⟨by rfl, by intro w hs; go_simp⟩) hHeld ?_
      refine norm_any' (fun K hK => ?_)
      go_simp
      refine hK _ _ ?_
      clear hK K
      refine wpAnyH_take (i := 4) (v := .string ⟨(L.take N2).toArray⟩) rfl (by kernel_rfl) (by kernel_rfl) (by kernel_rfl) (fun _ _ _ h => h) (Or.inl ⟨by rfl, by intro w hs; have q := hs.1; go_simp⟩) hHeld ?_
      refine norm_any' (fun K hK => ?_)
      go_simp
      refine hK _ _ ?_
      clear hK K
      refine wpAnyH_take (i := 5) (v := .slice b L.length c) rfl (by kernel_rfl) (by kernel_rfl) (by kernel_rfl) (fun _ _ _ h => h) (Or.inl ⟨by rfl, by intro w hs; go_simp⟩) hHeld ?_
      refine norm_any' (fun K hK => ?_)
      go_simp
      refine hK _ _ ?_
      clear hK K
      refine wpAnyH_take (i := 6) (v := .int .i64 (N2 : Int)) rfl (by kernel_rfl) (by kernel_rfl) (by kernel_rfl) (fun _ _ _ h => h) (Or.inl ⟨by rfl, by intro w hs; go_simp⟩) hHeld ?_
      refine norm_any' (fun K hK => ?_)
      go_simp
      refine hK _ _ ?_
      clear hK K
      refine wpAnyH_take (i := 7) (v := .slice b N2 c) rfl (by kernel_rfl) (by kernel_rfl) (by kernel_rfl) (fun _ _ _ h => h) (Or.inl ⟨by rfl, by intro w hs; go_simp; intro h; exact absurd h (by have := HN2'.out; have := HLC.out; omega)⟩) hHeld ?_
      refine norm_any' (fun K hK => ?_)
      go_simp
      refine hK _ _ ?_
      clear hK K
      refine wpAnyH_take (i := 8) (v := .string ⟨(L.take N2).toArray⟩) rfl (by kernel_rfl) (by kernel_rfl) (by kernel_rfl) (fun _ _ _ h => h) (Or.inl ⟨by rfl, by intro w hs; have q := hs.2; go_simp⟩) hHeld ?_
      refine norm_any' (fun K hK => ?_)
      go_simp
      refine hK _ _ ?_
      clear hK K
      refine wpAnyH_take (i := 9) (v := .bool true) rfl (by kernel_rfl) (by kernel_rfl) (by kernel_rfl) (fun _ _ _ h => h) (Or.inl ⟨by rfl, by intro w hs; go_simp⟩) hHeld ?_
      refine norm_any' (fun K hK => ?_)
      go_simp
      refine hK _ _ ?_
      clear hK K
      refine wpAnyH_take (i := 10) (v := .bool true) rfl (by kernel_rfl) (by kernel_rfl) (by kernel_rfl) (fun _ _ _ h => h) (Or.inl ⟨by rfl, by intro w hs; go_simp⟩) hHeld ?_
      refine norm_any' (fun K hK => ?_)
      go_simp
      refine hK _ _ ?_
      clear hK K
      refine wpAnyH_take (i := 11) (v := .bool true) rfl (by kernel_rfl) (by kernel_rfl) (by kernel_rfl) (fun _ _ _ h => h) (Or.inl ⟨by rfl, by intro w hs; go_simp⟩) hHeld ?_
      refine norm_any' (fun K hK => ?_)
      go_simp
      refine hK _ _ ?_
      clear hK K
      refine wpAnyH_done (by kernel_rfl) ?_ _
      clear hHeld
      go_wp2_with fail
      go_ret
      exact ⟨rfl, HB4.out⟩
  · have e0' : (E == 0) = false := by simpa using e0
    as_aux_lemma =>
    go_wp2_with fail
    refine Calls.mono (HREAD.out W3 HB3.out) ?_
    rintro e R1 ⟨hbr, hr⟩
    have HBR : Hid (Below w.heap.size w R1) := HB3.out.trans (hbr.mono HB3.out.size)
    clear hbr
    have hz := z27
    have HB2 : Hid (Below w.heap.size w (R1.alloc (.cells Z 27))) := HBR.out.trans ((bl1 R1 _).mono HBR.out.size)
    have HRN : Hid _ := heap_alloc_new R1 (.cells Z 27)
    rcases hr with ⟨E2, hE2, rfl⟩ | ⟨nm2, N2, rfl, hrm2, hN2, hp2⟩
    · have e2' : (E2 != 0) = true := by simpa using hE2
      have e2'' : (E2 == 0) = false := by simpa using hE2
      clear hE2
      as_aux_lemma =>
      go_wp2_with (refine wpList_store_row rfl 27 (.tmp 14) (.tmp 80) rfl R1.heap.size Z rfl rfl 27 _ HRN.out (i27s.trans (by rw [HZS.out])) rfl HZ1.out (Hid.out ?_))
      have HB3 : Hid _ := below_setRow HB2.out (show w.heap.size ≤ R1.heap.size from HBR.out.size) Z
      refine mkHid ?_
      go_wp2_with fail
      go_ret
      exact ⟨rfl, HB3.out⟩
    · have HRM2 : Hid _ := hrm2
      have HN2 : Hid _ := hN2
      have HP2 : Hid _ := hp2
      have HC2 : Hid (nm2.cells.toArray.size = 72) := by show _ = _; simp [cells_len hrm2.len]
      have HC2o : Hid _ := cells_one' nm2
      clear hrm2 hN2 hp2
      as_aux_lemma =>
      go_wp2_with (refine wpList_store_row rfl 27 (.tmp 14) (.tmp 80) rfl R1.heap.size nm2.cells.toArray rfl rfl 27 _ HRN.out (i27s.trans (by rw [HC2.out])) (by rw [HC2.out, HZS.out]) HC2o.out (Hid.out ?_))
      have HB3 : Hid _ := below_setRow HB2.out (show w.heap.size ≤ R1.heap.size from HBR.out.size) nm2.cells.toArray
      have HRN3 : Hid _ := setRow_heap (R1.alloc (.cells Z 27)) R1.heap.size _ nm2.cells.toArray 27 (0, 0) HRN.out
      have HOK3 : Hid (nm2.ok ((R1.alloc (.cells Z 27)).setRow R1.heap.size nm2.cells.toArray)) := HRM2.out.ok.bel (below_setRow (bl1 R1 _) (Nat.le_refl _) _)
      refine mkHid ?_
      generalize (R1.alloc (.cells Z 27)).setRow R1.heap.size nm2.cells.toArray = R2 at *
      have HPC : Hid _ := put_c nm2 R2 HOK3.out
      obtain ⟨A2, hA2⟩ : ∃ A, nm2.cells.toArray = A := ⟨_, rfl⟩
      rw [hA2] at HC2 HRN3 HPC ⊢
      clear HOK3 HRN HC2o
      as_aux_lemma =>
      go_wp2_with (refine wpList_load_row rfl 27 (.tmp 14) rfl R1.heap.size rfl 27 _ (0, 0) _ HRN3.out hu rfl (i27s.trans (by simp [HC2.out])) ?_)
      refine Calls.mono HPC.out ?_
      rintro e R3 ⟨y2, he2, hy2, hb2⟩
      rw [HRM2.out.pe] at he2
      subst he2
      obtain ⟨yo, yc, rfl⟩ := own_val hy2
      have HB4 : Hid (Below w.heap.size w R3.drew) := (HB3.out.trans (hb2.mono HB3.out.size)).trans ((bld R3).mono (Nat.le_trans HB3.out.size hb2.size))
      have sy := (By.out (By.below hy2 (bld R3))).str'
      have HN2' : Hid (N2 ≤ L.length) := HN2.out
      have ylen : (putL nm2).length = N2 := by rw [HP2.out, List.length_take, Nat.min_eq_left HN2'.out]
      rw [ylen] at sy ⊢
      rw [HP2.out] at sy
      have sb := str_any (cap := c) (Sl_take (Sl_bel HBS.out HB4.out) N2) (by rw [List.length_take, Nat.min_eq_left HN2'.out]) (m := N2) (fun h => by have := HHN.out h; have := HN2'.out; omega)
      clear hy2 hb2 HRN3 HPC HC2 HB3 HRM2
      as_aux_lemma =>
      go_wp2_with fail
      refine wp_region_held_drew (S := fun X => (convert 25 9 (.slice yo N2 yc)).run Try.prog X = .ok (.string ⟨(L.take N2).toArray⟩) X ∧ (convert 25 9 (.slice b N2 c)).run Try.prog X = .ok (.string ⟨(L.take N2).toArray⟩) X) (by kernel_rfl) ⟨sy, sb⟩ (fun hHeld => ?_)
      clear sy sb
      generalize R3.drew = R4 at *
      refine wpAnyH_take (i := 0) (v := .int .i64 0) rfl (by kernel_rfl) (by kernel_rfl) (by kernel_rfl) (fun _ _ _ h => h) (Or.inl ⟨by rfl, by intro w hs; go_simp⟩) hHeld ?_
      refine norm_any' (fun K hK => ?_)
      go_simp
      refine hK _ _ ?_
      clear hK K
      refine wpAnyH_take (i := 1) (v := .bool true) rfl (by kernel_rfl) (by kernel_rfl) (by kernel_rfl) (fun _ _ _ h => h) (Or.inl ⟨by rfl, by intro w hs; go_simp⟩) hHeld ?_
      refine norm_any' (fun K hK => ?_)
      go_simp
      refine hK _ _ ?_
      clear hK K
      refine wpAnyH_take (i := 2) (v := .bool true) rfl (by kernel_rfl) (by kernel_rfl) (by kernel_rfl) (fun _ _ _ h => h) (Or.inl ⟨by rfl, by intro w hs; go_simp⟩) hHeld ?_
      refine norm_any' (fun K hK => ?_)
      go_simp
      refine hK _ _ ?_
      clear hK K
      refine wpAnyH_take (i := 3) (v := .slice yo N2 yc) rfl (by kernel_rfl) (by kernel_rfl) (by kernel_rfl) (fun _ _ _ h => h) (Or.inl ⟨by rfl, by intro w hs; go_simp⟩) hHeld ?_
      refine norm_any' (fun K hK => ?_)
      go_simp
      refine hK _ _ ?_
      clear hK K
      refine wpAnyH_take (i := 4) (v := .string ⟨(L.take N2).toArray⟩) rfl (by kernel_rfl) (by kernel_rfl) (by kernel_rfl) (fun _ _ _ h => h) (Or.inl ⟨by rfl, by intro w hs; have q := hs.1; go_simp⟩) hHeld ?_
      refine norm_any' (fun K hK => ?_)
      go_simp
      refine hK _ _ ?_
      clear hK K
      refine wpAnyH_take (i := 5) (v := .slice b L.length c) rfl (by kernel_rfl) (by kernel_rfl) (by kernel_rfl) (fun _ _ _ h => h) (Or.inl ⟨by rfl, by intro w hs; go_simp⟩) hHeld ?_
      refine norm_any' (fun K hK => ?_)
      go_simp
      refine hK _ _ ?_
      clear hK K
      refine wpAnyH_take (i := 6) (v := .int .i64 (N2 : Int)) rfl (by kernel_rfl) (by kernel_rfl) (by kernel_rfl) (fun _ _ _ h => h) (Or.inl ⟨by rfl, by intro w hs; go_simp⟩) hHeld ?_
      refine norm_any' (fun K hK => ?_)
      go_simp
      refine hK _ _ ?_
      clear hK K
      refine wpAnyH_take (i := 7) (v := .slice b N2 c) rfl (by kernel_rfl) (by kernel_rfl) (by kernel_rfl) (fun _ _ _ h => h) (Or.inl ⟨by rfl, by intro w hs; go_simp; intro h; exact absurd h (by have := HN2'.out; have := HLC.out; omega)⟩) hHeld ?_
      refine norm_any' (fun K hK => ?_)
      go_simp
      refine hK _ _ ?_
      clear hK K
      refine wpAnyH_take (i := 8) (v := .string ⟨(L.take N2).toArray⟩) rfl (by kernel_rfl) (by kernel_rfl) (by kernel_rfl) (fun _ _ _ h => h) (Or.inl ⟨by rfl, by intro w hs; have q := hs.2; go_simp⟩) hHeld ?_
      refine norm_any' (fun K hK => ?_)
      go_simp
      refine hK _ _ ?_
      clear hK K
      refine wpAnyH_take (i := 9) (v := .bool true) rfl (by kernel_rfl) (by kernel_rfl) (by kernel_rfl) (fun _ _ _ h => h) (Or.inl ⟨by rfl, by intro w hs; go_simp⟩) hHeld ?_
      refine norm_any' (fun K hK => ?_)
      go_simp
      refine hK _ _ ?_
      clear hK K
      refine wpAnyH_take (i := 10) (v := .bool true) rfl (by kernel_rfl) (by kernel_rfl) (by kernel_rfl) (fun _ _ _ h => h) (Or.inl ⟨by rfl, by intro w hs; go_simp⟩) hHeld ?_
      refine norm_any' (fun K hK => ?_)
      go_simp
      refine hK _ _ ?_
      clear hK K
      refine wpAnyH_take (i := 11) (v := .bool true) rfl (by kernel_rfl) (by kernel_rfl) (by kernel_rfl) (fun _ _ _ h => h) (Or.inl ⟨by rfl, by intro w hs; go_simp⟩) hHeld ?_
      refine norm_any' (fun K hK => ?_)
      go_simp
      refine hK _ _ ?_
      clear hK K
      refine wpAnyH_done (by kernel_rfl) ?_ _
      clear hHeld
      go_wp2_with fail
      go_ret
      exact ⟨rfl, HB4.out⟩
end Go.Proofs.Ytcchlicokglmnaa
