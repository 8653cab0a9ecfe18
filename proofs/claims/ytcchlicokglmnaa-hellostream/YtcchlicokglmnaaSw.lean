/- HelloStream, the walk. -/
import Derived.Test.YtcchlicokglmnaaSr
import Derived.Deep.MidRow
namespace Go.Proofs.Ytcchlicokglmnaa
open Go.ChangeShapes Go.WideShapes Go.ChangeAt Go.RowKit Go.Lib
set_option linter.unusedVariables false

theorem wr_id {x : Int} (h : -9223372036854775808 ≤ x ∧ x ≤ 9223372036854775807) : wrap64 x = x := by
  unfold wrap64; omega
/-- Where the row is cut. -/
theorem cut_k (cut : Int) (N : Nat) (hN : N ≤ 9000400) : ∃ k : Nat, k ≤ N ∧ (wrap64 (wrap64 (cut.tmod ((N : Int) + 1) + (N : Int)) + 1)).tmod ((N : Int) + 1) = (k : Int) := by
  have h1 : cut.tmod ((N : Int) + 1) < (N : Int) + 1 := Int.tmod_lt_of_pos _ (by omega)
  have h2 : -((N : Int) + 1) < cut.tmod ((N : Int) + 1) := Int.lt_tmod_of_pos _ (by omega)
  rw [wr_id (x := cut.tmod ((N : Int) + 1) + (N : Int)) (by omega), wr_id (by omega)]
  have h3 : 0 ≤ cut.tmod ((N : Int) + 1) + (N : Int) + 1 := by omega
  have h4 := Int.tmod_nonneg ((N : Int) + 1) h3
  have h5 : (cut.tmod ((N : Int) + 1) + (N : Int) + 1).tmod ((N : Int) + 1) < (N : Int) + 1 := Int.tmod_lt_of_pos _ (by omega)
  refine ⟨((cut.tmod ((N : Int) + 1) + (N : Int) + 1).tmod ((N : Int) + 1)).toNat, by omega, by omega⟩
/-- Messages as they lie. -/
def Ml (w : World) (la : Option Addr) (n : Nat) : Prop := ∀ i, i < n → ∃ (m : Msg) (b off : Nat), la = some ⟨b, off, none⟩ ∧ w.rangeAt b (off + i * 72) m.cells ∧ m.ok w
theorem range_bel {w w' : World} {b o : Nat} {cs : List Value} (h : w.rangeAt b o cs) (hb : Below w.heap.size w w') : w'.rangeAt b o cs := fun j v hv => by
  have hc := h j v hv
  exact (World.cell?_of_block (a := ⟨b, o + j, none⟩) (hb.block b (World.block_lt_of_cell? w _ hc))).trans hc
set_option maxRecDepth 100000 in
set_option maxHeartbeats 1000000 in
theorem stream_law (la : Option Addr) (n cap : Nat) (w : World) (hM : Ml w la n) (hn : n ≤ 9223372036854775807) (cut : Int) (hc1 : -9223372036854775808 ≤ cut) (hc2 : cut ≤ 9223372036854775807) :
    Calls Try.prog 6 #[.slice la n cap, .int .i64 cut] w fun e w' => e = .returned (.bool true) ∧ Below w.heap.size w w' := by
  have hu := u27s
  have HM : Hid _ := hM
  have HN : Hid _ := hn
  have HC : Hid (-9223372036854775808 ≤ cut ∧ cut ≤ 9223372036854775807) := ⟨hc1, hc2⟩
  have HP20 : Hid (∀ X, Calls Try.prog 7 #[.agg (m0 20).cells.toArray] X (PutR (m0 20) X)) := fun X => put_c (m0 20) X (m20_ok X)
  have hz20 := m0_set 20
  have h20 := m20_put
  unfold PutR at HP20
  simp only [h20.1] at HP20
  obtain ⟨Y, hY⟩ : ∃ Y, putL (m0 20) = Y := ⟨_, rfl⟩
  simp only [hY] at HP20
  rw [hY] at h20
  have l20 := h20.2
  clear h20 hY hM hn hc1 hc2
  have hz := z27
  have HZS : Hid ((m0 0).cells.toArray.size = 72) := by show _ = _; simp [cells_len (m0_len 0)]
  have HZ1 : Hid _ := cells_one' (m0 0)
  have hZn : ¬ (m0 0).cells.toArray = #[] := fun h => by have := congrArg Array.size h; simp [Msg.cells_size (m0_len 0)] at this
  obtain ⟨Z, hZ⟩ : ∃ Z, (m0 0).cells.toArray = Z := ⟨_, rfl⟩
  rw [hZ] at hz HZS HZ1 hZn hz20
  have HZ : Hid _ := hZ
  clear hZ
  generalize (m0 20).cells.toArray = Q at *
  go_enter Try.func6, Try.ntmps6
  go_wp2_with fail
  go_loopg [5, 6, 7] 51 (fun kx s5 s6 s7 wr => ∃ (i : Nat) (gs : List Msg) (o5 : Option Addr) (c5 : Nat) (o6 : Option Addr) (c6 : Nat), s5 = .slice o5 (All gs).length c5 ∧ s6 = .slice o6 gs.length c6 ∧ s7 = .int .i64 (i : Int) ∧ i ≤ 50 ∧ 50 - i ≤ kx ∧ gs.length ≤ i ∧ Hid (Lo w wr gs o5 c5 o6 c6))
  case atStart => exact ⟨0, [], none, 0, none, 0, rfl, rfl, rfl, by omega, by omega, by simp, Lo.start w⟩
  case round =>
    obtain ⟨i, gs, o5, c5, o6, c6, rfl, rfl, rfl, hi, hkx, hgl, HL⟩ := hrel
    by_cases hlt : i < n ∧ i < 50
    · have i1 : (i : Int) < (n : Int) := by omega
      have i2 : (i : Int) < 50 := by omega
      have i1' : decide ((i : Int) < (n : Int)) = true := by simpa using i1
      have i2' : decide ((i : Int) < 50) = true := by simpa using i2
      have i0' : (0 : Int) ≤ (i : Int) := by omega
      have iw : IntKind.i64.wrap ((i : Int) + 1) = ((i + 1 : Nat) : Int) := by rw [IntKind.wrap_i64]; omega
      obtain ⟨m, b, off, hla, hrg, hok⟩ := HM.out i hlt.1
      have HR : Hid _ := range_bel hrg HL.out.bel
      have HPC : Hid _ := put_c m wr (hok.bel HL.out.bel)
      have HML : Hid m.len := hok.ln
      have m72 : (Try.prog.info? 27).map (·.size) = some m.cells.length := i27s.trans (by rw [cells_len hok.ln])
      clear hrg hok
      subst hla
      have HGL : Hid _ := hgl
      as_aux_lemma =>
      go_wp2_with (refine wpList_load_mid rfl 27 (.tmp 35) rfl b (off + i * 72) rfl m.cells _ HR.out hu rfl m72 ?_)
      refine Calls.mono HPC.out ?_
      rintro e X1 ⟨bv, rfl, hb1, hb2⟩
      obtain ⟨bo, bc1, rfl⟩ := own_val hb1
      have HL1 : Hid (Lo w X1 gs o5 c5 o6 c6) := HL.out.go hb2
      by_cases hE : putE m = 0
      · obtain ⟨s1, s2⟩ := By.sl hb1
        obtain ⟨o5', c5', X2, o6', c6', X3, r1, r2, hl3⟩ := HL1.out.push m hE HML.out (by have := HGL.out; omega) bo bc1 s1 s2
        rw [hE]
        have HGL2 : Hid ((gs ++ [m]).length ≤ i + 1) := by show _ ≤ _; have := HGL.out; simp; omega
        obtain ⟨gs', hgs⟩ : ∃ g, gs ++ [m] = g := ⟨_, rfl⟩
        rw [hgs] at r1 r2 hl3 HGL2
        have HL3 : Hid _ := hl3
        have R1 : Hid _ := r1
        have R2 : Hid _ := r2
        clear hgs hl3 r1 r2 s1 s2 hb1 hb2 hE HL HL1 HPC HR HGL hgl
        generalize (putL m).length = PL at *
        as_aux_lemma =>
        go_wp2_with (first
          | refine appr rfl _ _ 25 25 rfl _ _ rfl rfl R1.out ?_
          | refine appr rfl _ _ 46 46 rfl _ _ rfl rfl R2.out (Hid.out ?_))
        refine mkHid ?_
        go_wp2_with fail
        go_roundg (50 - (i + 1))
        case measure => omega
        case rel => exact ⟨i + 1, gs', o5', c5', o6', c6', rfl, rfl, rfl, by omega, Nat.le_refl _, HGL2.out, HL3.out⟩
      · have hE' : (putE m == 0) = false := by simpa using hE
        clear hb1 hb2 hE HL HPC HR hgl
        generalize (putL m).length = PL at *
        generalize putE m = PE at *
        as_aux_lemma =>
        go_wp2_with fail
        go_roundg (50 - (i + 1))
        case measure => omega
        case rel => exact ⟨i + 1, gs, o5, c5, o6, c6, rfl, rfl, rfl, by omega, Nat.le_refl _, by have := HGL.out; omega, HL1.out⟩
    · have HLG : Hid (gs.length ≤ 100) := by show _ ≤ _; omega
      have HEX : Hid (¬ (i < n ∧ i < 50)) := hlt
      -- TAIL
      have HAL := All_len HL.out.ok
      obtain ⟨N, hN⟩ : ∃ N, (All gs).length = N := ⟨_, rfl⟩
      rw [hN] at HAL
      have HAL' : Hid (N ≤ 9000400) := by show _ ≤ _; have := HLG.out; omega
      have HN' : Hid _ := hN
      rw [hN]
      have l20' : ((Y.length : Int) != 20) = false := by rw [l20]; rfl
      have hgl' : gs.length ≤ 100 := HLG.out
      clear hlt hgl hkx HAL hN
      by_cases h1 : i < n
      · have p1 : (i : Int) < (n : Int) := by omega
        have p2 : ¬ (i : Int) < 50 := by have := HEX.out; omega
        have d1 : decide ((i : Int) < (n : Int)) = true := by simpa using p1
        have d2 : decide ((i : Int) < 50) = false := by simpa using p2
        clear h1
        as_aux_lemma =>
        go_wp2_with fail
        refine Calls.mono (HP20.out wr) ?_
        rintro e W3 ⟨y, rfl, hy3, hb3⟩
        obtain ⟨yo, yc, rfl⟩ := own_val hy3
        have HL3 : Hid (Lo w W3 gs o5 c5 o6 c6) := HL.out.go hb3
        clear hy3 hb3 HL HEX
        have a0 : wrap64 ((N : Int) + 1) = (N : Int) + 1 := wr_id (by have := HAL'.out; omega)
        have a1 : ¬ ((N : Int) + 1 = 0) := by omega
        have a1' : (((N : Int) + 1) == 0) = false := by simpa using a1
        obtain ⟨k, hk, ek⟩ := cut_k cut N HAL'.out
        have HK : Hid _ := hk
        clear hk
        as_aux_lemma =>
        go_wp2_with fail
        have HKG : Hid (k ≤ (All gs).length) := by show _ ≤ _; rw [HN'.out]; exact HK.out
        have k0 : (0 : Int) ≤ (k : Int) := by omega
        have kc : (k : Int) ≤ (c5 : Int) := by have := HL3.out.cap; have := HKG.out; omega
        have kc' : ¬ c5 < k := by omega
        simp only [a0]
        clear a0 ek a1 a1'
        go_loopg [14, 15] (gs.length + 1) (fun kx s14 s15 wr => ∃ j : Nat, s14 = .int .i64 (enA gs j : Int) ∧ s15 = .int .i64 (j : Int) ∧ j ≤ gs.length ∧ gs.length - j ≤ kx ∧ enA gs j ≤ k ∧ Hid (Lo w wr gs o5 c5 o6 c6))
        case atStart => exact ⟨0, rfl, rfl, by omega, by omega, Nat.zero_le _, HL3.out⟩
        case round =>
          obtain ⟨j, rfl, rfl, hj, hkx, hjk, HLW⟩ := hrel
          have HRD : Hid _ := HLW.out.read k HKG.out HLG.out (enA gs j : Int)
          by_cases hjl : j < gs.length
          · have j1 : (j : Int) < (gs.length : Int) := by omega
            have j1' : decide ((j : Int) < (gs.length : Int)) = true := by simpa using j1
            have j0 : (0 : Int) ≤ (j : Int) := by omega
            have jw : IntKind.i64.wrap ((j : Int) + 1) = ((j + 1 : Nat) : Int) := by rw [IntKind.wrap_i64]; omega
            by_cases hw : enA gs (j + 1) ≤ k
            · obtain ⟨w1, w2⟩ := st_whole HLW.out.ok j hjl hw
              have HJL : Hid (j < gs.length) := hjl
              have g1 : ¬ (k : Int) < (enA gs (j + 1) : Int) := by omega
              have g1' : decide ((k : Int) < (enA gs (j + 1) : Int)) = false := by simpa using g1
              have W1 : Hid _ := w1
              have W2 : Hid _ := w2
              have HHW : Hid _ := hw
              clear w1 w2 hw
              as_aux_lemma =>
              go_wp2_with fail
              refine Calls.mono HRD.out ?_
              rintro e R1 ⟨hbr, _, hr⟩
              obtain ⟨nm, rfl, hrm⟩ := hr W1.out
              rw [W2.out]
              have HLR : Hid (Lo w R1 gs o5 c5 o6 c6) := HLW.out.go hbr
              have HRN : Hid _ := heap_alloc_new R1 (.cells Z 27)
              have HC2 : Hid (nm.cells.toArray.size = 72) := by show _ = _; simp [cells_len hrm.len]
              have HC2o : Hid _ := cells_one' nm
              clear hbr hrm HRD HLW
              generalize nm.cells.toArray = A2 at *
              have hb3 : Below R1.heap.size R1 ((R1.alloc (.cells Z 27)).setRow R1.heap.size A2) := below_setRow (bl1 R1 _) (Nat.le_refl _) _
              have HLS : Hid (Lo w ((R1.alloc (.cells Z 27)).setRow R1.heap.size A2) gs o5 c5 o6 c6) := HLR.out.go hb3
              obtain ⟨gb, hgb, hce⟩ := HLS.out.end j HJL.out
              subst hgb
              have HCE : Hid _ := hce
              clear hb3 hce
              as_aux_lemma =>
              go_wp2_with (refine wpList_store_row rfl 27 (.tmp 16) (.tmp 86) rfl R1.heap.size A2 rfl rfl 27 _ HRN.out (i27s.trans (by rw [HC2.out])) (by rw [HC2.out, HZS.out]) HC2o.out (Hid.out ?_))
              have hce := HCE.out
              refine mkHid ?_
              generalize (R1.alloc (.cells Z 27)).setRow R1.heap.size A2 = R2 at *
              go_wp2_with fail
              go_roundg (gs.length - (j + 1))
              case measure => have := HJL.out; omega
              case rel => exact ⟨j + 1, rfl, rfl, by have := HJL.out; omega, Nat.le_refl _, HHW.out, HLS.out⟩
            · have w1 := st_cut HLW.out.ok j hjl hjk (by omega)
              have HJL : Hid (j < gs.length) := hjl
              have g1 : (k : Int) < (enA gs (j + 1) : Int) := by omega
              have g1' : decide ((k : Int) < (enA gs (j + 1) : Int)) = true := by simpa using g1
              have W1 : Hid _ := w1
              clear w1 hw
              as_aux_lemma =>
              go_wp2_with fail
              refine Calls.mono HRD.out ?_
              rintro e R1 ⟨hbr, hr, _⟩
              have he := hr (by rw [W1.out]; decide)
              rw [W1.out, HZ.out] at he
              subst he
              have HLR : Hid (Lo w R1 gs o5 c5 o6 c6) := HLW.out.go hbr
              have HRN : Hid _ := heap_alloc_new R1 (.cells Z 27)
              clear hbr hr HRD HLW
              have hb3 : Below R1.heap.size R1 ((R1.alloc (.cells Z 27)).setRow R1.heap.size Z) := below_setRow (bl1 R1 _) (Nat.le_refl _) _
              have HLS : Hid (Lo w ((R1.alloc (.cells Z 27)).setRow R1.heap.size Z) gs o5 c5 o6 c6) := HLR.out.go hb3
              obtain ⟨gb, hgb, hce⟩ := HLS.out.end j HJL.out
              subst hgb
              have HCE : Hid _ := hce
              clear hb3 hce
              as_aux_lemma =>
              go_wp2_with (refine wpList_store_row rfl 27 (.tmp 16) (.tmp 86) rfl R1.heap.size Z rfl rfl 27 _ HRN.out (i27s.trans (by rw [HZS.out])) rfl HZ1.out (Hid.out ?_))
              have hce := HCE.out
              refine mkHid ?_
              generalize (R1.alloc (.cells Z 27)).setRow R1.heap.size Z = R2 at *
              go_wp2_with fail
              go_ret
              exact ⟨rfl, HLS.out.bel⟩
          · have j1 : ¬ (j : Int) < (gs.length : Int) := by omega
            have j1' : decide ((j : Int) < (gs.length : Int)) = false := by simpa using j1
            have hje : j = gs.length := by omega
            have w1 : readE ((All gs).take k) (enA gs j) = 10 := by rw [hje] at hjk ⊢; exact st_end hjk
            have W1 : Hid _ := w1
            clear w1 hje hjl
            as_aux_lemma =>
            go_wp2_with fail
            refine Calls.mono HRD.out ?_
            rintro e R1 ⟨hbr, hr, _⟩
            have he := hr (by rw [W1.out]; decide)
            rw [W1.out, HZ.out] at he
            subst he
            have HLR : Hid (Lo w R1 gs o5 c5 o6 c6) := HLW.out.go hbr
            have HRN : Hid _ := heap_alloc_new R1 (.cells Z 27)
            clear hbr hr HRD HLW
            have hb3 : Below R1.heap.size R1 ((R1.alloc (.cells Z 27)).setRow R1.heap.size Z) := below_setRow (bl1 R1 _) (Nat.le_refl _) _
            have HLS : Hid (Lo w ((R1.alloc (.cells Z 27)).setRow R1.heap.size Z) gs o5 c5 o6 c6) := HLR.out.go hb3
            clear hb3
            as_aux_lemma =>
            go_wp2_with (refine wpList_store_row rfl 27 (.tmp 19) (.tmp 114) rfl R1.heap.size Z rfl rfl 27 _ HRN.out (i27s.trans (by rw [HZS.out])) rfl HZ1.out (Hid.out ?_))
            refine mkHid ?_
            generalize (R1.alloc (.cells Z 27)).setRow R1.heap.size Z = R2 at *
            go_wp2_with fail
            go_ret
            exact ⟨rfl, HLS.out.bel⟩
      · have p1 : ¬ (i : Int) < (n : Int) := by omega
        have d1 : decide ((i : Int) < (n : Int)) = false := by simpa using p1
        clear h1
        as_aux_lemma =>
        go_wp2_with fail
        refine Calls.mono (HP20.out wr) ?_
        rintro e W3 ⟨y, rfl, hy3, hb3⟩
        obtain ⟨yo, yc, rfl⟩ := own_val hy3
        have HL3 : Hid (Lo w W3 gs o5 c5 o6 c6) := HL.out.go hb3
        clear hy3 hb3 HL HEX
        have a0 : wrap64 ((N : Int) + 1) = (N : Int) + 1 := wr_id (by have := HAL'.out; omega)
        have a1 : ¬ ((N : Int) + 1 = 0) := by omega
        have a1' : (((N : Int) + 1) == 0) = false := by simpa using a1
        obtain ⟨k, hk, ek⟩ := cut_k cut N HAL'.out
        have HK : Hid _ := hk
        clear hk
        as_aux_lemma =>
        go_wp2_with fail
        have HKG : Hid (k ≤ (All gs).length) := by show _ ≤ _; rw [HN'.out]; exact HK.out
        have k0 : (0 : Int) ≤ (k : Int) := by omega
        have kc : (k : Int) ≤ (c5 : Int) := by have := HL3.out.cap; have := HKG.out; omega
        have kc' : ¬ c5 < k := by omega
        simp only [a0]
        clear a0 ek a1 a1'
        go_loopg [14, 15] (gs.length + 1) (fun kx s14 s15 wr => ∃ j : Nat, s14 = .int .i64 (enA gs j : Int) ∧ s15 = .int .i64 (j : Int) ∧ j ≤ gs.length ∧ gs.length - j ≤ kx ∧ enA gs j ≤ k ∧ Hid (Lo w wr gs o5 c5 o6 c6))
        case atStart => exact ⟨0, rfl, rfl, by omega, by omega, Nat.zero_le _, HL3.out⟩
        case round =>
          obtain ⟨j, rfl, rfl, hj, hkx, hjk, HLW⟩ := hrel
          have HRD : Hid _ := HLW.out.read k HKG.out HLG.out (enA gs j : Int)
          by_cases hjl : j < gs.length
          · have j1 : (j : Int) < (gs.length : Int) := by omega
            have j1' : decide ((j : Int) < (gs.length : Int)) = true := by simpa using j1
            have j0 : (0 : Int) ≤ (j : Int) := by omega
            have jw : IntKind.i64.wrap ((j : Int) + 1) = ((j + 1 : Nat) : Int) := by rw [IntKind.wrap_i64]; omega
            by_cases hw : enA gs (j + 1) ≤ k
            · obtain ⟨w1, w2⟩ := st_whole HLW.out.ok j hjl hw
              have HJL : Hid (j < gs.length) := hjl
              have g1 : ¬ (k : Int) < (enA gs (j + 1) : Int) := by omega
              have g1' : decide ((k : Int) < (enA gs (j + 1) : Int)) = false := by simpa using g1
              have W1 : Hid _ := w1
              have W2 : Hid _ := w2
              have HHW : Hid _ := hw
              clear w1 w2 hw
              as_aux_lemma =>
              go_wp2_with fail
              refine Calls.mono HRD.out ?_
              rintro e R1 ⟨hbr, _, hr⟩
              obtain ⟨nm, rfl, hrm⟩ := hr W1.out
              rw [W2.out]
              have HLR : Hid (Lo w R1 gs o5 c5 o6 c6) := HLW.out.go hbr
              have HRN : Hid _ := heap_alloc_new R1 (.cells Z 27)
              have HC2 : Hid (nm.cells.toArray.size = 72) := by show _ = _; simp [cells_len hrm.len]
              have HC2o : Hid _ := cells_one' nm
              clear hbr hrm HRD HLW
              generalize nm.cells.toArray = A2 at *
              have hb3 : Below R1.heap.size R1 ((R1.alloc (.cells Z 27)).setRow R1.heap.size A2) := below_setRow (bl1 R1 _) (Nat.le_refl _) _
              have HLS : Hid (Lo w ((R1.alloc (.cells Z 27)).setRow R1.heap.size A2) gs o5 c5 o6 c6) := HLR.out.go hb3
              obtain ⟨gb, hgb, hce⟩ := HLS.out.end j HJL.out
              subst hgb
              have HCE : Hid _ := hce
              clear hb3 hce
              as_aux_lemma =>
              go_wp2_with (refine wpList_store_row rfl 27 (.tmp 16) (.tmp 86) rfl R1.heap.size A2 rfl rfl 27 _ HRN.out (i27s.trans (by rw [HC2.out])) (by rw [HC2.out, HZS.out]) HC2o.out (Hid.out ?_))
              have hce := HCE.out
              refine mkHid ?_
              generalize (R1.alloc (.cells Z 27)).setRow R1.heap.size A2 = R2 at *
              go_wp2_with fail
              go_roundg (gs.length - (j + 1))
              case measure => have := HJL.out; omega
              case rel => exact ⟨j + 1, rfl, rfl, by have := HJL.out; omega, Nat.le_refl _, HHW.out, HLS.out⟩
            · have w1 := st_cut HLW.out.ok j hjl hjk (by omega)
              have HJL : Hid (j < gs.length) := hjl
              have g1 : (k : Int) < (enA gs (j + 1) : Int) := by omega
              have g1' : decide ((k : Int) < (enA gs (j + 1) : Int)) = true := by simpa using g1
              have W1 : Hid _ := w1
              clear w1 hw
              as_aux_lemma =>
              go_wp2_with fail
              refine Calls.mono HRD.out ?_
              rintro e R1 ⟨hbr, hr, _⟩
              have he := hr (by rw [W1.out]; decide)
              rw [W1.out, HZ.out] at he
              subst he
              have HLR : Hid (Lo w R1 gs o5 c5 o6 c6) := HLW.out.go hbr
              have HRN : Hid _ := heap_alloc_new R1 (.cells Z 27)
              clear hbr hr HRD HLW
              have hb3 : Below R1.heap.size R1 ((R1.alloc (.cells Z 27)).setRow R1.heap.size Z) := below_setRow (bl1 R1 _) (Nat.le_refl _) _
              have HLS : Hid (Lo w ((R1.alloc (.cells Z 27)).setRow R1.heap.size Z) gs o5 c5 o6 c6) := HLR.out.go hb3
              obtain ⟨gb, hgb, hce⟩ := HLS.out.end j HJL.out
              subst hgb
              have HCE : Hid _ := hce
              clear hb3 hce
              as_aux_lemma =>
              go_wp2_with (refine wpList_store_row rfl 27 (.tmp 16) (.tmp 86) rfl R1.heap.size Z rfl rfl 27 _ HRN.out (i27s.trans (by rw [HZS.out])) rfl HZ1.out (Hid.out ?_))
              have hce := HCE.out
              refine mkHid ?_
              generalize (R1.alloc (.cells Z 27)).setRow R1.heap.size Z = R2 at *
              go_wp2_with fail
              go_ret
              exact ⟨rfl, HLS.out.bel⟩
          · have j1 : ¬ (j : Int) < (gs.length : Int) := by omega
            have j1' : decide ((j : Int) < (gs.length : Int)) = false := by simpa using j1
            have hje : j = gs.length := by omega
            have w1 : readE ((All gs).take k) (enA gs j) = 10 := by rw [hje] at hjk ⊢; exact st_end hjk
            have W1 : Hid _ := w1
            clear w1 hje hjl
            as_aux_lemma =>
            go_wp2_with fail
            refine Calls.mono HRD.out ?_
            rintro e R1 ⟨hbr, hr, _⟩
            have he := hr (by rw [W1.out]; decide)
            rw [W1.out, HZ.out] at he
            subst he
            have HLR : Hid (Lo w R1 gs o5 c5 o6 c6) := HLW.out.go hbr
            have HRN : Hid _ := heap_alloc_new R1 (.cells Z 27)
            clear hbr hr HRD HLW
            have hb3 : Below R1.heap.size R1 ((R1.alloc (.cells Z 27)).setRow R1.heap.size Z) := below_setRow (bl1 R1 _) (Nat.le_refl _) _
            have HLS : Hid (Lo w ((R1.alloc (.cells Z 27)).setRow R1.heap.size Z) gs o5 c5 o6 c6) := HLR.out.go hb3
            clear hb3
            as_aux_lemma =>
            go_wp2_with (refine wpList_store_row rfl 27 (.tmp 19) (.tmp 114) rfl R1.heap.size Z rfl rfl 27 _ HRN.out (i27s.trans (by rw [HZS.out])) rfl HZ1.out (Hid.out ?_))
            refine mkHid ?_
            generalize (R1.alloc (.cells Z 27)).setRow R1.heap.size Z = R2 at *
            go_wp2_with fail
            go_ret
            exact ⟨rfl, HLS.out.bel⟩
end Go.Proofs.Ytcchlicokglmnaa
