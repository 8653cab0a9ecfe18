/- SecretsMake, the walk. -/
import Derived.Test.YtpjoaimbaboleaaMk
import Derived.Deep.CutRange
import Derived.Deep.DeepCutAuto
namespace Go.Proofs.Ytpjoaimbaboleaa
open Go.RowKit Go.Shelf Go.Lib
set_option linter.unusedVariables false

set_option maxRecDepth 100000 in
set_option maxHeartbeats 8000000 in
theorem make_walk (la : Option Addr) (AL : List ActR) (cap : Nat) (w : World) (hAc : Ac w la AL) (hn : AL.length ≤ 9000000000000000000) : Calls Try.prog 3 #[.slice la AL.length cap] w fun e w' => e = .returned (.bool true) ∧ Below w.heap.size w w' := by
  have HAC : Aside (Ac w la AL) := hAc
  clear hAc
  obtain ⟨n, hN⟩ : ∃ n, AL.length = n := ⟨_, rfl⟩
  have HNN : Aside (AL.length = n) := hN
  rw [hN] at hn ⊢
  clear hN
  have mixed : Try.prog.follows Departure.mixedOrders = true := by kernel_rfl
  go_enter Try.func3, Try.ntmps3
  go_wp2_with fail
  refine Calls.mono (new_c w) ?_
  rintro e W1 ⟨V, Gb, cv, Mb, rfl, hva, hb1⟩
  have HA : Aside (Ag w W1 V [rt]) := ⟨hb1, Gb, cv, Mb, hva⟩
  clear hva hb1
  go_wp2_with fail
  refine Calls.mono (rnew_c W1) ?_
  rintro e W2 ⟨R, gr, d, rfl, hrv, hb2⟩
  have HR : Aside (Rs w W2 V [rt] R [rt]) := ⟨HA.out.go hb2, gr, d, hrv.hR, hrv.row.mono HA.out.bel.size, Nat.le_trans HA.out.bel.size hrv.bR⟩
  clear hrv hb2 HA
  go_wp2_with fail
  refine Calls.mono (names_c2 W2) ?_
  rintro e W2' ⟨rfl, rfl⟩
  by_cases hbig : 3000 < n
  · as_aux_lemma =>
    have j1 : (3000 : Int) < (n : Int) := by omega
    have j1' : decide ((3000 : Int) < (n : Int)) = true := by simpa using j1
    have HF : Aside _ := HR.out.ag.bel
    clear HR
    go_wp2_with fail
    go_ret
    exact ⟨rfl, HF.out⟩
  have j1 : ¬ (3000 : Int) < (n : Int) := by omega
  have j1' : decide ((3000 : Int) < (n : Int)) = false := by simpa using j1
  as_aux_lemma =>
  go_wp2_with fail
  refine Calls.mono (fresh_kc' HR.out.ag (by simp)) ?_
  rintro e W3 ⟨rfl, hq1, hq2⟩
  have HR3 : Aside (Rs w W3 V [rt, fr] R [rt]) := HR.out.prog hq1 hq2
  clear hq1 hq2 HR
  have h1l := nameL_len 1
  have h0l := nameL_len 0
  go_wp2_with fail
  refine Calls.mono (rtA w V (by simp) W3 HR3.out.ag) ?_
  rintro e W4 ⟨rfl, hb4⟩
  have HR4 : Aside (Rs w W4 V [rt, fr] R [rt]) := HR3.out.go hb4
  clear hb4 HR3
  go_wp2_with (refine wbs3 rfl (.tmp 23) (.tmp 24) (.tmp 26) rfl (nameL 1) z16 (nameL 0) rfl rfl rfl h1l rfl h0l (Hid.out ?_))
  have HR5 : Aside (Rs w (W4.alloc (.cells (hrow [nameL 1, z16, nameL 0]).toArray 29)) V [rt, fr] R [rt]) := HR4.out.go (bel1 _ _)
  have XR : Aside ((W4.alloc (.cells (hrow [nameL 1, z16, nameL 0]).toArray 29)).heap[W4.heap.size]? = some (.cells (hrow [nameL 1, z16, nameL 0]).toArray 29 (0, 0))) := new' rfl
  have HG4 : Aside (w.heap.size ≤ W4.heap.size) := HR4.out.ag.bel.size
  clear HR4
  generalize W4.alloc (.cells (hrow [nameL 1, z16, nameL 0]).toArray 29) = W5 at *
  generalize W4.heap.size = g0 at *
  refine mkHid ?_
  go_wp2_with fail
  refine Calls.mono (rnew_kz HR5.out (by simp)) ?_
  rintro e W6 ⟨rfl, hq1, hq2⟩
  have HM : Aside (Mw w V R 0 [rt, fr] [nameL 1, z16, nameL 0] g0 3 W6) := by
    have hx := hq2 _ _ _ _ XR.out (by decide) (by decide)
    refine ⟨hq1, ?_, ?_, ⟨rfl, .inr ⟨g0, 3, _, rfl, HG4.out, hx, Nat.le_refl _, by decide, ?_, ?_⟩⟩, ?_, rfl, rfl, by simp⟩
    · intro i j t hi hj h2
      have hm := List.mem_of_getElem? hi
      simp only [List.mem_cons, List.not_mem_nil, or_false] at hm
      rcases hm with rfl | rfl <;> simp at h2
    · intro u hu
      simp only [List.mem_cons, List.not_mem_nil, or_false] at hu
      rcases hu with rfl | rfl <;> exact ⟨rfl, by simp, .inr rfl⟩
    · rw [List.size_toArray, hrow_len]
      · rfl
      · intro H hH
        simp only [List.mem_cons, List.not_mem_nil, or_false] at hH
        rcases hH with rfl | rfl | rfl
        · exact nameL_len 1
        · rfl
        · exact nameL_len 0
    · rw [List.toList_toArray, List.take_of_length_le]
      rw [hrow_len]
      · exact Nat.le_refl _
      · intro H hH
        simp only [List.mem_cons, List.not_mem_nil, or_false] at hH
        rcases hH with rfl | rfl | rfl
        · exact nameL_len 1
        · rfl
        · exact nameL_len 0
    · intro H hH
      simp only [List.mem_cons, List.not_mem_nil, or_false] at hH
      rcases hH with rfl | rfl | rfl
      · exact nameL_len 1
      · rfl
      · exact nameL_len 0
  clear hq1 hq2 HR5 XR HG4
  go_wp2_with fail
  go_loopg [5, 6] (n + 1) (fun kx s5 s6 wr => ∃ (i g c : Nat) (L : List Tm) (Hs : List (List UInt8)), s6 = .int .i64 (i : Int) ∧ s5 = .slice (some ⟨g, 0, none⟩) (3 + i) c ∧ i ≤ n ∧ n - i ≤ kx ∧ Aside (Mw w V R i L Hs g c wr))
  case atStart => exact ⟨0, g0, 3, _, _, rfl, rfl, by omega, by omega, HM.out⟩
  case round =>
    obtain ⟨i, g, c, L, Hs, rfl, rfl, hi, hgi, HM⟩ := hrel
    by_cases hli : i < n
    · as_aux_lemma =>
      have i1 : (i : Int) < (n : Int) := by omega
      have i1' : decide ((i : Int) < (n : Int)) = true := by simpa using i1
      have i2 : (0 : Int) ≤ i := by omega
      have i3 : (n : Int) ≤ 3000 := by omega
      have hwi : IntKind.i64.wrap ((i : Int) + 1) = ((i + 1 : Nat) : Int) := by rw [IntKind.wrap_i64]; omega
      obtain ⟨pb, off, hla, q0, q1, q2, q3, q4, hS, hl0, hlb, ha1, hb1⟩ := HAC.out i (by rw [HNN.out]; exact hli)
      subst hla
      generalize AL[i]'(by rw [HNN.out]; exact hli) = r at *
      have HQ : Aside (∀ X, Below w.heap.size w X → X.cell? ⟨pb, off + i * 5 + 1, none⟩ = some (.int .i64 r.a) ∧ X.cell? ⟨pb, off + i * 5 + 2, none⟩ = some (.int .i64 r.b) ∧ X.rangeAt pb (off + i * 5) (ac5 r)) := fun X hX => ⟨cell_bel q1 hX, cell_bel q2 hX, ac_range (cell_bel q0 hX) (cell_bel q1 hX) (cell_bel q2 hX) (cell_bel q3 hX) (cell_bel q4 hX)⟩
      have HS : Aside (Sl w r.o r.l) := hS
      have HL0 : Aside (r.l.length ≤ 140737488351232) := hl0
      have HLB : Aside (r.lb.size ≤ 140737488351232) := hlb
      clear q0 q1 q2 q3 q4 hS hl0 hlb HAC HNN
      have HW0 : Aside (w.heap.size ≤ wr.heap.size) := HM.out.rs.ag.bel.size
      have X7 : Aside (((wr.alloc (.cells (hl z16).toArray 29)).alloc (.cells (hl z16).toArray 29)).heap[wr.heap.size]? = some (.cells (hl z16).toArray 29 (0, 0))) := nth' (new' rfl)
      have X8 : Aside (((wr.alloc (.cells (hl z16).toArray 29)).alloc (.cells (hl z16).toArray 29)).heap[wr.heap.size + 1]? = some (.cells (hl z16).toArray 29 (0, 0))) := new' (by simp)
      have Y8 : Aside ((((wr.alloc (.cells (hl z16).toArray 29)).alloc (.cells (hl z16).toArray 29)).setRow wr.heap.size (hl n16).toArray).heap[wr.heap.size + 1]? = some (.cells (hl z16).toArray 29 (0, 0))) := (setRow_other _ _ _ _ (by omega)).trans X8.out
      have HBL : Aside (Below wr.heap.size wr ((((wr.alloc (.cells (hl z16).toArray 29)).alloc (.cells (hl z16).toArray 29)).setRow wr.heap.size (hl n16).toArray).setRow (wr.heap.size + 1) (hl n16).toArray)) := bel_set (bel_set ((bel1 wr _).alloc (by simp) _) (Nat.le_refl _) _) (by omega) _
      go_wp2_with (first | (refine st28 rfl (.tmp 7) (.tmp 36) rfl wr.heap.size n16 rfl hv_n z16 X7.out rfl rfl ?_) | (refine st28 rfl (.tmp 8) (.tmp 37) rfl (wr.heap.size + 1) n16 rfl hv_n z16 Y8.out rfl rfl (Hid.out ?_)))
      rw [hz28, hz28]
      have HM2 : Aside (Mw w V R i L Hs g c ((((wr.alloc (.cells (hl z16).toArray 29)).alloc (.cells (hl z16).toArray 29)).setRow wr.heap.size (hl n16).toArray).setRow (wr.heap.size + 1) (hl n16).toArray)) := HM.out.go HBL.out
      have Z8 : Aside _ := setRow_heap _ (wr.heap.size + 1) _ (hl n16).toArray 29 (0, 0) Y8.out
      have Z7 : Aside _ := (setRow_other _ (wr.heap.size + 1) wr.heap.size (hl n16).toArray (by omega)).trans (setRow_heap _ wr.heap.size _ (hl n16).toArray 29 (0, 0) X7.out)
      have HG : Aside (g < wr.heap.size) := HM.out.lt
      clear X7 X8 Y8 HBL HM
      generalize (((wr.alloc (.cells (hl z16).toArray 29)).alloc (.cells (hl z16).toArray 29)).setRow wr.heap.size (hl n16).toArray).setRow (wr.heap.size + 1) (hl n16).toArray = Wa at *
      generalize wr.heap.size = D7 at *
      have ca := (HQ.out Wa HM2.out.rs.ag.bel).1
      refine mkHid ?_
      go_upto_if 43 with fail
      go_cut [] (fun wx => ∃ X : List UInt8, X.length = 16 ∧ Aside (Mw w V R i L Hs g c wx ∧ wx.heap[D7]? = some (.cells (hl X).toArray 29 (0, 0)) ∧ wx.heap[D7 + 1]? = some (.cells (hl n16).toArray 29 (0, 0))))
      case first =>
        by_cases h0 : 0 ≤ r.a
        · obtain ⟨m, hm, hlt⟩ := tmod_fact r.a (3 + i) h0 (by omega)
          obtain ⟨X, hX, HRX⟩ := HM2.out.at' hlt
          have HRX : Aside _ := HRX
          obtain ⟨cc1, cc2⟩ := HM2.out.cap
          have c1 : (3 : Int) + (i : Int) ≤ (c : Int) := by omega
          have c2 : (c : Int) ≤ 9223372036854775807 := by omega
          have m1 : (m : Int) < 3 + (i : Int) := by omega
          have m2 : (0 : Int) ≤ (m : Int) := by omega
          have z1 : ¬ (3 : Int) + (i : Int) = 0 := by omega
          have z2 : ((3 : Int) + (i : Int) == 0) = false := by simp; omega
          have hm' : r.a.tmod (3 + (i : Int)) = (m : Int) := by simpa using hm
          have mX : (Try.prog.info? 29).map (·.size) = some (hl X).length := hi28.trans (by simp [hX])
          have k0 : decide (0 ≤ r.a) = true := by simpa using h0
          have HMF : Aside (Mw w V R i L Hs g c (Wa.setRow D7 (hl X).toArray)) := HM2.out.set Z7.out HW0.out (by have := HG.out; omega) _
          have F7 : Aside _ := setRow_heap Wa D7 _ (hl X).toArray 29 (0, 0) Z7.out
          have F8 : Aside _ := (setRow_other Wa D7 (D7 + 1) (hl X).toArray (by omega)).trans Z8.out
          go_wp2_with (first | (refine wpList_load_mid rfl 29 (.tmp 53) rfl g (m * 16) rfl (hl X) _ HRX.out hu28 rfl mX ?_) | (refine st28 rfl (.tmp 7) (.tmp 54) rfl D7 X rfl rfl n16 Z7.out hX rfl ?_))
          go_meet
          exact ⟨X, hX, HMF.out, F7.out, F8.out⟩
        · have k0 : decide (0 ≤ r.a) = false := by simpa using h0
          go_wp2_with fail
          go_meet
          exact ⟨n16, rfl, HM2.out, Z7.out, Z8.out⟩
      case rest =>
        obtain ⟨X, hX, HC1⟩ := hcut
        clear HM2 Z7 Z8 ca
        have cb := (HQ.out wc HC1.out.1.rs.ag.bel).2.1
        have M1 : Aside (Mw w V R i L Hs g c wc) := HC1.out.1
        have Z7 : Aside _ := HC1.out.2.1
        have Z8 : Aside _ := HC1.out.2.2
        clear HC1
        generalize wc = Wb at *
        go_upto_if 60 with fail
        go_cut [] (fun wx => ∃ Y : List UInt8, Y.length = 16 ∧ Aside (Mw w V R i L Hs g c wx ∧ wx.heap[D7]? = some (.cells (hl X).toArray 29 (0, 0)) ∧ wx.heap[D7 + 1]? = some (.cells (hl Y).toArray 29 (0, 0))))
        case first =>
          by_cases h0 : 0 ≤ r.b
          · obtain ⟨m, hm, hlt⟩ := tmod_fact r.b (3 + i) h0 (by omega)
            obtain ⟨Y, hY, HRX⟩ := M1.out.at' hlt
            have HRX : Aside _ := HRX
            obtain ⟨cc1, cc2⟩ := M1.out.cap
            have c1 : (3 : Int) + (i : Int) ≤ (c : Int) := by omega
            have c2 : (c : Int) ≤ 9223372036854775807 := by omega
            have m1 : (m : Int) < 3 + (i : Int) := by omega
            have m2 : (0 : Int) ≤ (m : Int) := by omega
            have z1 : ¬ (3 : Int) + (i : Int) = 0 := by omega
            have z2 : ((3 : Int) + (i : Int) == 0) = false := by simp; omega
            have hm' : r.b.tmod (3 + (i : Int)) = (m : Int) := by simpa using hm
            have mY : (Try.prog.info? 29).map (·.size) = some (hl Y).length := hi28.trans (by simp [hY])
            have k0 : decide (0 ≤ r.b) = true := by simpa using h0
            have HMF : Aside (Mw w V R i L Hs g c (Wb.setRow (D7 + 1) (hl Y).toArray)) := M1.out.set Z8.out (by have := HW0.out; omega) (by have := HG.out; omega) _
            have F8 : Aside _ := setRow_heap Wb (D7 + 1) _ (hl Y).toArray 29 (0, 0) Z8.out
            have F7 : Aside _ := (setRow_other Wb (D7 + 1) D7 (hl Y).toArray (by omega)).trans Z7.out
            go_wp2_with (first | (refine wpList_load_mid rfl 29 (.tmp 70) rfl g (m * 16) rfl (hl Y) _ HRX.out hu28 rfl mY ?_) | (refine st28 rfl (.tmp 8) (.tmp 71) rfl (D7 + 1) Y rfl rfl n16 Z8.out hY rfl ?_))
            go_meet
            exact ⟨Y, hY, HMF.out, F7.out, F8.out⟩
          · have k0 : decide (0 ≤ r.b) = false := by simpa using h0
            go_wp2_with fail
            go_meet
            exact ⟨n16, rfl, M1.out, Z7.out, Z8.out⟩
        case rest =>
          obtain ⟨Y, hY, HC2⟩ := hcut
          clear M1 Z7 Z8 cb
          have M2 : Aside (Mw w V R i L Hs g c wc) := HC2.out.1
          have Z7 : Aside _ := HC2.out.2.1
          have Z8 : Aside _ := HC2.out.2.2
          clear HC2
          generalize wc = Wc at *
          go_wp2_with fail
          have MD : Aside (Mw w V R i L Hs g c Wc.drew) := M2.out.go (bel_drew Wc)
          have m5 : (Try.prog.info? 35).map (·.size) = some (ac5 r).length := siz35
          have mX : (Try.prog.info? 29).map (·.size) = some (hl X).length := hi28.trans (by simp [hX])
          have mY : (Try.prog.info? 29).map (·.size) = some (hl Y).length := hi28.trans (by simp [hY])
          have HSP : Aside (∀ Z, Rs w Z V L R L → Calls Try.prog 13 #[.pointer (some ⟨V, 0, none⟩), .pointer (some ⟨R, 0, none⟩), .agg (ac5 r).toArray, hv X, hv Y] Z (StP w V R L Z)) := fun Z hZ => step_c hZ MD.out.onc MD.out.cns (by have := MD.out.ll; omega) X Y hX hY r HS.out HL0.out HLB.out
          have HRR : Aside (∀ Z, Below w.heap.size w Z → Z.rangeAt pb (off + i * 5) (ac5 r)) := fun Z hZ => (HQ.out Z hZ).2.2
          generalize ac5 r = A5 at *
          refine wp_region_held_drew (S := fun Z => Z.rangeAt pb (off + i * 5) A5 ∧ Z.rangeAt D7 0 (hl X) ∧ Z.rangeAt (D7 + 1) 0 (hl Y)) (by kernel_rfl) ⟨HRR.out _ MD.out.rs.ag.bel, range_of' (w := Wc.drew) Z7.out, range_of' (w := Wc.drew) Z8.out⟩ (fun hHeld => ?_)
          refine wpAnyH_take (i := 0) (v := .pointer (some ⟨V, 0, none⟩)) rfl (by kernel_rfl) (by kernel_rfl) (by kernel_rfl) (fun _ _ _ h => h) (Or.inl ⟨by rfl, by intro w hs; go_simp⟩) hHeld ?_
          refine norm_any' (fun K hK => ?_)
          go_simp
          refine hK _ _ ?_
          clear hK K
          refine wpAnyH_take (i := 1) (v := .pointer (some ⟨R, 0, none⟩)) rfl (by kernel_rfl) (by kernel_rfl) (by kernel_rfl) (fun _ _ _ h => h) (Or.inl ⟨by rfl, by intro w hs; go_simp⟩) hHeld ?_
          refine norm_any' (fun K hK => ?_)
          go_simp
          refine hK _ _ ?_
          clear hK K
          refine wpAnyH_take (i := 2) (v := .slice (some ⟨pb, off, none⟩) n cap) rfl (by kernel_rfl) (by kernel_rfl) (by kernel_rfl) (fun _ _ _ h => h) (Or.inl ⟨by rfl, by intro w hs; go_simp⟩) hHeld ?_
          refine norm_any' (fun K hK => ?_)
          go_simp
          refine hK _ _ ?_
          clear hK K
          refine wpAnyH_take (i := 3) (v := .int .i64 (i : Int)) rfl (by kernel_rfl) (by kernel_rfl) (by kernel_rfl) (fun _ _ _ h => h) (Or.inl ⟨by rfl, by intro w hs; go_simp⟩) hHeld ?_
          refine norm_any' (fun K hK => ?_)
          go_simp
          refine hK _ _ ?_
          clear hK K
          refine wpAnyH_take (i := 4) (v := .pointer (some ⟨pb, off + i * 5, none⟩)) rfl (by kernel_rfl) (by kernel_rfl) (by kernel_rfl) (fun _ _ _ h => h) (Or.inl ⟨by rfl, by intro w hs; go_simp⟩) hHeld ?_
          refine norm_any' (fun K hK => ?_)
          go_simp
          refine hK _ _ ?_
          clear hK K
          refine wpAnyH_take (i := 5) (v := .agg A5.toArray) rfl (by kernel_rfl) (by kernel_rfl) (by kernel_rfl) (fun _ _ _ h => h) (yieldsIf_load_mid (by rfl) 35 _ rfl pb (off + i * 5) rfl A5 _ (fun X h => h.1) und35 rfl m5) hHeld ?_
          refine norm_any' (fun K hK => ?_)
          go_simp
          refine hK _ _ ?_
          clear hK K
          refine wpAnyH_take (i := 6) (v := hv X) rfl (by kernel_rfl) (by kernel_rfl) (by kernel_rfl) (fun _ _ _ h => h) (yieldsIf_load_mid (by rfl) 29 _ rfl D7 0 rfl (hl X) _ (fun X h => h.2.1) hu28 rfl mX) hHeld ?_
          refine norm_any' (fun K hK => ?_)
          go_simp
          refine hK _ _ ?_
          clear hK K
          refine wpAnyH_take (i := 7) (v := hv Y) rfl (by kernel_rfl) (by kernel_rfl) (by kernel_rfl) (fun _ _ _ h => h) (yieldsIf_load_mid (by rfl) 29 _ rfl (D7 + 1) 0 rfl (hl Y) _ (fun X h => h.2.2) hu28 rfl mY) hHeld ?_
          refine norm_any' (fun K hK => ?_)
          go_simp
          refine hK _ _ ?_
          clear hK K
          refine wpAnyH_ready (rs := [8, 12]) (by kernel_rfl) (by simp) (AllReadyH.cons rfl (fun K hK => ?_) (AllReadyH.cons rfl (fun K hK => ?_) AllReadyH.nil))
          · skip
            go_simp
            refine Calls.mono (HSP.out Wc.drew MD.out.rs) ?_
            rintro e Ya ⟨⟨R1, E1, RL⟩, rfl, hr, hr1, hl1, hl2, ho, hc, hk⟩
            have HRS : Aside (Rs w Ya V RL R RL) := hr
            have HR1 : R1.length = 16 := hr1
            have HLL : Aside (RL.length ≤ L.length + 2 ∧ Onc RL ∧ Cns RL) := ⟨hl2, ho, hc⟩
            have HKQ : Aside (Kq Wc.drew Ya) := hk
            have V7 : Aside _ := hk _ _ _ _ Z7.out (by decide) (by decide) (by decide) (by decide)
            have V8 : Aside _ := hk _ _ _ _ Z8.out (by decide) (by decide) (by decide) (by decide)
            clear hr hr1 hl1 hl2 ho hc hk
            refine hK.out _ _ ⟨HRR.out _ HRS.out.ag.bel, range_of' V7.out, range_of' V8.out⟩ (fun hHeld => ?_)
            clear hK K
            refine norm_any' (fun K hK => ?_)
            go_simp
            refine hK _ _ ?_
            clear hK K
            refine wpAnyH_take (i := 9) (v := .tuple #[hv R1, .bool true]) rfl (by kernel_rfl) (by kernel_rfl) (by kernel_rfl) (fun _ _ _ h => h) (Or.inl ⟨by rfl, by intro w hs; go_simp⟩) hHeld ?_
            refine norm_any' (fun K hK => ?_)
            go_simp
            refine hK _ _ ?_
            clear hK K
            refine wpAnyH_take (i := 10) (v := hv R1) rfl (by kernel_rfl) (by kernel_rfl) (by kernel_rfl) (fun _ _ _ h => h) (Or.inl ⟨by rfl, by intro w hs; go_simp⟩) hHeld ?_
            refine norm_any' (fun K hK => ?_)
            go_simp
            refine hK _ _ ?_
            clear hK K
            refine wpAnyH_take (i := 11) (v := .bool true) rfl (by kernel_rfl) (by kernel_rfl) (by kernel_rfl) (fun _ _ _ h => h) (Or.inl ⟨by rfl, by intro w hs; go_simp⟩) hHeld ?_
            refine norm_any' (fun K hK => ?_)
            go_simp
            refine hK _ _ ?_
            clear hK K
            refine wpAnyH_ready (rs := [12]) (by kernel_rfl) (by simp) (AllReadyH.cons rfl (fun K hK => ?_) AllReadyH.nil)
            go_simp
            rw [hz28]
            have X9 : Aside ((Ya.alloc (.cells (hl z16).toArray 29)).heap[Ya.heap.size]? = some (.cells (hl z16).toArray 29 (0, 0))) := new' rfl
            have U7 : Aside ((Ya.alloc (.cells (hl z16).toArray 29)).heap[D7]? = some (.cells (hl X).toArray 29 (0, 0))) := nth' V7.out
            have U8 : Aside ((Ya.alloc (.cells (hl z16).toArray 29)).heap[D7 + 1]? = some (.cells (hl Y).toArray 29 (0, 0))) := nth' V8.out
            have HRS2 : Aside (Rs w (Ya.alloc (.cells (hl z16).toArray 29)) V RL R RL) := HRS.out.go (bel1 _ _)
            have HD9w : Aside (w.heap.size ≤ Ya.heap.size) := HRS.out.ag.bel.size
            have HNE : Aside (D7 ≠ Ya.heap.size ∧ D7 + 1 ≠ Ya.heap.size) := by have h7 := (Array.getElem?_eq_some_iff.1 V7.out).1; have h8 := (Array.getElem?_eq_some_iff.1 V8.out).1; exact ⟨by omega, by omega⟩
            refine hK.out _ _ ⟨HRR.out _ HRS2.out.ag.bel, range_of' U7.out, range_of' U8.out⟩ (fun hHeld => ?_)
            clear hK K
            refine norm_any' (fun K hK => ?_)
            go_simp
            refine hK _ _ ?_
            clear hK K
            refine wpAnyH_ready (rs := [13]) (by kernel_rfl) (by simp) (AllReadyH.cons rfl (fun K hK => ?_) AllReadyH.nil)
            rw [if_pos (by rfl)]
            have s7 : Aside (((Ya.alloc (.cells (hl z16).toArray 29)).setRow Ya.heap.size (hl R1).toArray).heap[D7]? = some (.cells (hl X).toArray 29 (0, 0))) := (setRow_other _ _ _ _ HNE.out.1).trans U7.out
            have s8 : Aside (((Ya.alloc (.cells (hl z16).toArray 29)).setRow Ya.heap.size (hl R1).toArray).heap[D7 + 1]? = some (.cells (hl Y).toArray 29 (0, 0))) := (setRow_other _ _ _ _ HNE.out.2).trans U8.out
            have HRF : Aside (Rs w ((Ya.alloc (.cells (hl z16).toArray 29)).setRow Ya.heap.size (hl R1).toArray) V RL R RL) := HRS2.out.setb X9.out ⟨by decide, by decide, by decide, by decide⟩ HD9w.out _
            have HKF : Aside (Kq Wc ((Ya.alloc (.cells (hl z16).toArray 29)).setRow Ya.heap.size (hl R1).toArray)) := ((Kq.of_kc (Kc.of_bel (bel_drew Wc))).trans HKQ.out).trans (Kq.of_kc (Kc.of_bel (nbox Ya z16 R1).2))
            have F9 : Aside _ := setRow_heap ((Ya.alloc (.cells (hl z16).toArray 29))) (Ya.heap.size) _ (hl R1).toArray 29 (0, 0) X9.out
            refine wp_store_row 29 _ _ rfl (Ya.heap.size) (hl R1).toArray (by rfl) (by rfl) 29 _ X9.out (hi28.trans (by simp [HR1])) (by simp [HR1, z16_len]) (hl_one R1) ?_
            refine hK.out _ _ ⟨HRR.out _ HRF.out.ag.bel, range_of' s7.out, range_of' s8.out⟩ (fun hHeld => ?_)
            clear hK K
            refine norm_any' (fun K hK => ?_)
            go_simp
            refine hK _ _ ?_
            clear hK K
            refine wpAnyH_take (i := 14) (v := .bool true) rfl (by kernel_rfl) (by kernel_rfl) (by kernel_rfl) (fun _ _ _ h => h) (Or.inl ⟨by rfl, by intro w hs; go_simp⟩) hHeld ?_
            refine norm_any' (fun K hK => ?_)
            go_simp
            refine hK _ _ ?_
            clear hK K
            refine wpAnyH_done (by kernel_rfl) ?_ _
            clear hHeld
            generalize (Ya.alloc (.cells (hl z16).toArray 29)).setRow Ya.heap.size (hl R1).toArray = Yc at *
            obtain ⟨g', c', w', r1, r2⟩ := M2.out.push (w1 := Yc) (w2 := Yc.alloc (.cells (hl R1).toArray 29)) HKF.out (bel1 _ _) HRF.out HLL.out.2.1 HLL.out.2.2 HLL.out.1 HR1 (b := Yc.heap.size) (new' rfl) (by omega)
            have R1' : Aside _ := r1
            have FM : Aside (Mw w V R (i + 1) RL (Hs ++ [R1]) g' c' w') := r2
            clear r1 r2
            go_wp2_with (first | (refine ld28 rfl (.tmp 9) rfl (Ya.heap.size) rfl R1 F9.out HR1 ?_) | (refine wbs1 rfl (.tmp 87) rfl R1 rfl HR1 ?_) | (refine appr rfl _ _ 31 31 rfl _ _ rfl rfl R1'.out ?_))
            go_roundg (n - (i + 1))
            case measure => omega
            case rel => exact ⟨i + 1, g', c', RL, Hs ++ [R1], rfl, rfl, by omega, Nat.le_refl _, FM.out⟩
          · skip
            go_simp
            rw [hz28]
            have hbq : Below Wc.drew.heap.size Wc.drew ((Wc.alloc (.cells (hl z16).toArray 29)).drew) := bel1 Wc.drew _
            have U7 : Aside (((Wc.alloc (.cells (hl z16).toArray 29)).drew).heap[D7]? = some (.cells (hl X).toArray 29 (0, 0))) := nth' Z7.out
            have U8 : Aside (((Wc.alloc (.cells (hl z16).toArray 29)).drew).heap[D7 + 1]? = some (.cells (hl Y).toArray 29 (0, 0))) := nth' Z8.out
            have U9 : Aside (((Wc.alloc (.cells (hl z16).toArray 29)).drew).heap[Wc.heap.size]? = some (.cells (hl z16).toArray 29 (0, 0))) := new' rfl
            have MA : Aside (Rs w ((Wc.alloc (.cells (hl z16).toArray 29)).drew) V L R L) := MD.out.rs.go hbq
            have HD9w : Aside (w.heap.size ≤ Wc.heap.size) := MD.out.rs.ag.bel.size
            have HNE : Aside (D7 ≠ Wc.heap.size ∧ D7 + 1 ≠ Wc.heap.size) := by have h7 : D7 < Wc.heap.size := (Array.getElem?_eq_some_iff.1 Z7.out).1; have h8 : D7 + 1 < Wc.heap.size := (Array.getElem?_eq_some_iff.1 Z8.out).1; exact ⟨by omega, by omega⟩
            have HKD : Aside (Kq Wc ((Wc.alloc (.cells (hl z16).toArray 29)).drew)) := (Kq.of_kc (Kc.of_bel (bel_drew Wc))).trans (Kq.of_kc (Kc.of_bel hbq))
            clear hbq
            refine hK.out _ _ ⟨HRR.out _ MA.out.ag.bel, range_of' U7.out, range_of' U8.out⟩ (fun hHeld => ?_)
            clear hK K
            refine norm_any' (fun K hK => ?_)
            go_simp
            refine hK _ _ ?_
            clear hK K
            generalize hWe : (Wc.alloc (.cells (hl z16).toArray 29)).drew = We at *
            generalize hD9 : Wc.heap.size = D9 at *
            clear hWe
            refine wpAnyH_ready (rs := [8]) (by kernel_rfl) (by simp) (AllReadyH.cons rfl (fun K hK => ?_) AllReadyH.nil)
            go_simp
            refine Calls.mono (HSP.out We MA.out) ?_
            rintro e Ya ⟨⟨R1, E1, RL⟩, rfl, hr, hr1, hl1, hl2, ho, hc, hk⟩
            have HRS : Aside (Rs w Ya V RL R RL) := hr
            have HR1 : R1.length = 16 := hr1
            have HLL : Aside (RL.length ≤ L.length + 2 ∧ Onc RL ∧ Cns RL) := ⟨hl2, ho, hc⟩
            have HKQ : Aside (Kq We Ya) := hk
            have V7 : Aside _ := hk _ _ _ _ U7.out (by decide) (by decide) (by decide) (by decide)
            have V8 : Aside _ := hk _ _ _ _ U8.out (by decide) (by decide) (by decide) (by decide)
            have V9 : Aside _ := hk _ _ _ _ U9.out (by decide) (by decide) (by decide) (by decide)
            clear hr hr1 hl1 hl2 ho hc hk
            refine hK.out _ _ ⟨HRR.out _ HRS.out.ag.bel, range_of' V7.out, range_of' V8.out⟩ (fun hHeld => ?_)
            clear hK K
            refine norm_any' (fun K hK => ?_)
            go_simp
            refine hK _ _ ?_
            clear hK K
            refine wpAnyH_take (i := 9) (v := .tuple #[hv R1, .bool true]) rfl (by kernel_rfl) (by kernel_rfl) (by kernel_rfl) (fun _ _ _ h => h) (Or.inl ⟨by rfl, by intro w hs; go_simp⟩) hHeld ?_
            refine norm_any' (fun K hK => ?_)
            go_simp
            refine hK _ _ ?_
            clear hK K
            refine wpAnyH_take (i := 10) (v := hv R1) rfl (by kernel_rfl) (by kernel_rfl) (by kernel_rfl) (fun _ _ _ h => h) (Or.inl ⟨by rfl, by intro w hs; go_simp⟩) hHeld ?_
            refine norm_any' (fun K hK => ?_)
            go_simp
            refine hK _ _ ?_
            clear hK K
            refine wpAnyH_take (i := 11) (v := .bool true) rfl (by kernel_rfl) (by kernel_rfl) (by kernel_rfl) (fun _ _ _ h => h) (Or.inl ⟨by rfl, by intro w hs; go_simp⟩) hHeld ?_
            refine norm_any' (fun K hK => ?_)
            go_simp
            refine hK _ _ ?_
            clear hK K
            refine wpAnyH_ready (rs := [13]) (by kernel_rfl) (by simp) (AllReadyH.cons rfl (fun K hK => ?_) AllReadyH.nil)
            rw [if_pos (by rfl)]
            have s7 : Aside ((Ya.setRow D9 (hl R1).toArray).heap[D7]? = some (.cells (hl X).toArray 29 (0, 0))) := (setRow_other _ _ _ _ HNE.out.1).trans V7.out
            have s8 : Aside ((Ya.setRow D9 (hl R1).toArray).heap[D7 + 1]? = some (.cells (hl Y).toArray 29 (0, 0))) := (setRow_other _ _ _ _ HNE.out.2).trans V8.out
            have HRF : Aside (Rs w (Ya.setRow D9 (hl R1).toArray) V RL R RL) := HRS.out.setb V9.out ⟨by decide, by decide, by decide, by decide⟩ HD9w.out _
            have HKF : Aside (Kq Wc (Ya.setRow D9 (hl R1).toArray)) := (HKD.out.trans HKQ.out).set (Nat.le_of_eq hD9) _
            have F9 : Aside _ := setRow_heap (Ya) (D9) _ (hl R1).toArray 29 (0, 0) V9.out
            refine wp_store_row 29 _ _ rfl (D9) (hl R1).toArray (by rfl) (by rfl) 29 _ V9.out (hi28.trans (by simp [HR1])) (by simp [HR1, z16_len]) (hl_one R1) ?_
            refine hK.out _ _ ⟨HRR.out _ HRF.out.ag.bel, range_of' s7.out, range_of' s8.out⟩ (fun hHeld => ?_)
            clear hK K
            refine norm_any' (fun K hK => ?_)
            go_simp
            refine hK _ _ ?_
            clear hK K
            refine wpAnyH_take (i := 14) (v := .bool true) rfl (by kernel_rfl) (by kernel_rfl) (by kernel_rfl) (fun _ _ _ h => h) (Or.inl ⟨by rfl, by intro w hs; go_simp⟩) hHeld ?_
            refine norm_any' (fun K hK => ?_)
            go_simp
            refine hK _ _ ?_
            clear hK K
            refine wpAnyH_done (by kernel_rfl) ?_ _
            clear hHeld
            generalize Ya.setRow D9 (hl R1).toArray = Yc at *
            obtain ⟨g', c', w', r1, r2⟩ := M2.out.push (w1 := Yc) (w2 := Yc.alloc (.cells (hl R1).toArray 29)) HKF.out (bel1 _ _) HRF.out HLL.out.2.1 HLL.out.2.2 HLL.out.1 HR1 (b := Yc.heap.size) (new' rfl) (by omega)
            have R1' : Aside _ := r1
            have FM : Aside (Mw w V R (i + 1) RL (Hs ++ [R1]) g' c' w') := r2
            clear r1 r2
            go_wp2_with (first | (refine ld28 rfl (.tmp 9) rfl (D9) rfl R1 F9.out HR1 ?_) | (refine wbs1 rfl (.tmp 87) rfl R1 rfl HR1 ?_) | (refine appr rfl _ _ 31 31 rfl _ _ rfl rfl R1'.out ?_))
            go_roundg (n - (i + 1))
            case measure => omega
            case rel => exact ⟨i + 1, g', c', RL, Hs ++ [R1], rfl, rfl, by omega, Nat.le_refl _, FM.out⟩
    · as_aux_lemma =>
      obtain rfl : i = n := by omega
      have i1 : ¬ (i : Int) < (i : Int) := by omega
      have i1' : decide ((i : Int) < (i : Int)) = false := by simp
      have MD : Aside (Mw w V R i L Hs g c wr.drew) := HM.out.go (bel_drew wr)
      have HRG : Aside (wr.drew.rangeAt g 0 (hl (nameL 1))) := by have := hr_at MD.out.h16 MD.out.row MD.out.h0; show World.rangeAt _ _ _ _; simpa using this
      obtain ⟨cc1, cc2⟩ := MD.out.cap
      have c1 : (3 : Int) + (i : Int) ≤ (c : Int) := by omega
      have c2 : (c : Int) ≤ 9223372036854775807 := by omega
      have c3 : (0 : Int) < 3 + (i : Int) := by omega
      have h1l := nameL_len 1
      have HNM : Aside (∀ X, Calls Try.prog 14 #[.int .i64 1] X fun e w' => e = .returned (hv (nameL 1)) ∧ Below X.heap.size X w') := fun X => rname_c 1 (by decide) X
      have HGB : Aside (∀ X, Below wr.drew.heap.size wr.drew X → X.rangeAt g 0 (hl (nameL 1)) ∧ Below w.heap.size w X) := fun X hX => ⟨by have hm := MD.out.go hX; have := hr_at hm.h16 hm.row hm.h0; simpa using this, MD.out.rs.ag.bel.trans (hX.mono MD.out.rs.ag.bel.size)⟩
      clear HM HAC HNN
      generalize nameL 1 = N1 at *
      have m1 : (Try.prog.info? 29).map (·.size) = some (hl N1).length := hi28.trans (by simp [h1l])
      have EQ : Aside (∀ X, (binOp .eql 29 (hv N1) (hv N1)).run Try.prog X = .ok (.bool true) X) := eq_self N1 h1l
      go_wp2_with fail
      refine wp_region_held_drew (S := fun X => X.rangeAt g 0 (hl N1)) (by kernel_rfl) HRG.out (fun hHeld => ?_)
      refine wpAnyH_take (i := 0) (v := .slice (some ⟨g, 0, none⟩) (3 + i) c) rfl (by kernel_rfl) (by kernel_rfl) (by kernel_rfl) (fun _ _ _ h => h) (Or.inl ⟨by rfl, by intro w hs; go_simp⟩) hHeld ?_
      refine norm_any' (fun K hK => ?_)
      go_simp
      refine hK _ _ ?_
      clear hK K
      refine wpAnyH_take (i := 1) (v := .pointer (some ⟨g, 0, none⟩)) rfl (by kernel_rfl) (by kernel_rfl) (by kernel_rfl) (fun _ _ _ h => h) (Or.inl ⟨by rfl, by intro w hs; go_simp⟩) hHeld ?_
      refine norm_any' (fun K hK => ?_)
      go_simp
      refine hK _ _ ?_
      clear hK K
      refine wpAnyH_take (i := 2) (v := hv N1) rfl (by kernel_rfl) (by kernel_rfl) (by kernel_rfl) (fun _ _ _ h => h) (yieldsIf_load_mid (by rfl) 29 _ rfl g 0 rfl (hl N1) _ (fun X h => h) hu28 rfl m1) hHeld ?_
      refine norm_any' (fun K hK => ?_)
      go_simp
      refine hK _ _ ?_
      clear hK K
      refine wpAnyH_ready (rs := [3]) (by kernel_rfl) (by simp) (AllReadyH.cons rfl (fun K hK => ?_) AllReadyH.nil)
      go_simp
      refine Calls.mono (HNM.out _) ?_
      rintro e Yn ⟨rfl, hbn⟩
      obtain ⟨hg1, hg2⟩ := HGB.out Yn hbn
      have HF : Aside (Below w.heap.size w Yn) := hg2
      have HG1 : Aside (Yn.rangeAt g 0 (hl N1)) := hg1
      clear hbn hg1 hg2
      refine hK.out _ _ HG1.out (fun hHeld => ?_)
      clear hK K
      refine norm_any' (fun K hK => ?_)
      go_simp
      refine hK _ _ ?_
      clear hK K
      refine wpAnyH_take (i := 4) (v := .bool true) rfl (by kernel_rfl) (by kernel_rfl) (by kernel_rfl) (fun _ _ _ h => h) (yl_bin (by rfl) .eql 29 29 _ _ rfl (hl N1).toArray (hl N1).toArray rfl rfl hm29s _ EQ.out) hHeld ?_
      refine norm_any' (fun K hK => ?_)
      go_simp
      refine hK _ _ ?_
      clear hK K
      refine wpAnyH_take (i := 5) (v := .bool true) rfl (by kernel_rfl) (by kernel_rfl) (by kernel_rfl) (fun _ _ _ h => h) (Or.inl ⟨by rfl, by intro w hs; go_simp⟩) hHeld ?_
      refine norm_any' (fun K hK => ?_)
      go_simp
      refine hK _ _ ?_
      clear hK K
      refine wpAnyH_done (by kernel_rfl) ?_ _
      clear hHeld
      go_wp2_with fail
      go_ret
      exact ⟨rfl, HF.out⟩
end Go.Proofs.Ytpjoaimbaboleaa
