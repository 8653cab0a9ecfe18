/- frame.Read, of every place within, over what closing answers: whole. -/
import Derived.Test.YtaeapgkfmofjlaaDoorMg
namespace Go.Proofs.YtaeapgkfmofjlaaDoor
open Go.ChangeShapes Go.WideShapes Go.ChangeAt Go.RowKit
set_option linter.unusedVariables false
set_option maxRecDepth 100000

theorem Cls.chg {X : Nat → Prop} {B : Nat} {w w' : World} {k e : Int} {v : Value} (h : Cls B w k e v) (hc : Chg X w w') (hx : ∀ j, B ≤ j → ¬ X j) : Cls B w' k e v := by
  unfold Cls at *
  split at h
  · rename_i he; rw [if_pos he]; exact h
  · rename_i he
    rw [if_neg he]
    obtain ⟨P, h1, h2, h3⟩ := h
    exact ⟨P, h1, h2, hc.blk h3 (hx P h2)⟩
theorem Cls.mono {B B' : Nat} {w : World} {k e : Int} {v : Value} (h : Cls B w k e v) (hB : B' ≤ B) : Cls B' w k e v := by
  unfold Cls at *
  split at h
  · rename_i he; rw [if_pos he]; exact h
  · rename_i he
    rw [if_neg he]
    obtain ⟨P, h1, h2, h3⟩ := h
    exact ⟨P, h1, Nat.le_trans hB h2, h3⟩
set_option maxHeartbeats 4000000 in
theorem read_c (w : World) (g off c : Nat) (wa : Option Addr) (l : List UInt8) (at' : Nat) (hs : Sl w (some ⟨g, off, none⟩) l) (ht : Tb w) (hll : l.length ≤ 200000000000000) (hlc : l.length ≤ c) (hla : at' ≤ l.length) (hg : g < w.heap.size)
    (hW : w.cell? ⟨0, 0, none⟩ = some (eV wa (-1))) (hE : w.cell? ⟨1, 0, none⟩ = some (.iface 135 (.agg #[.pointer (some ⟨3, 38, none⟩)]))) (hcl : rdE l at' ≠ 0 → ClsC wa (rdE l at')) :
    Calls Tryd.prog 12 #[.slice (some ⟨g, off, none⟩) l.length c, .int .i64 at'] w fun e w' => (if rdE l at' = 0 then RdOk w w' l at' e else RdNo w w' l at' e) ∧ Below w.heap.size w w' := by
  obtain ⟨F, hF⟩ : ∃ F, w.heap.size = F := ⟨_, rfl⟩
  obtain ⟨W0, hW0⟩ : ∃ W0, w.alloc (.cells (fz 0).cells.toArray 28) = W0 := ⟨_, rfl⟩
  have hf0 : W0.heap[F]? = some (.cells (fz 0).cells.toArray 28 (0, 0)) := by rw [← hW0, ← hF]; exact heap_alloc_new w _
  have hs0 : W0.heap.size = F + 1 := by rw [← hW0, ← hF]; simp
  have hb0 : Below w.heap.size w W0 := by rw [← hW0]; exact bel1 w _
  obtain ⟨W1, hW1⟩ : ∃ W1, W0.alloc (.cells #[.slice none 0 0, .int .i64 0, .nilIface] 69) = W1 := ⟨_, rfl⟩
  have hp1 : W1.heap[F + 1]? = some (.cells #[.slice none 0 0, .int .i64 0, .nilIface] 69 (0, 0)) := by rw [← hW1, ← hs0]; exact heap_alloc_new W0 _
  have hb1 : Below w.heap.size w W1 := by rw [← hW1]; exact hb0.trans ((bel1 W0 _).mono hb0.size)
  have hf1 : W1.heap[F]? = some (.cells (fz 0).cells.toArray 28 (0, 0)) := by rw [← hW1]; exact ((bel1 W0 _).block F (by omega)).trans hf0
  have hc2 : Chg (fun k => k = F + 1) W1 (W1.setRow (F + 1) #[.slice (some ⟨g, off, none⟩) l.length c, .int .i64 at', .nilIface]) := ⟨rfl, rfl, rfl, by simp, fun k _ hk => setRow_other W1 _ k _ hk⟩
  have htp : 2 < w.heap.size := Tb_pos ht
  obtain ⟨W2, hW2⟩ : ∃ W2, W1.setRow (F + 1) #[.slice (some ⟨g, off, none⟩) l.length c, .int .i64 at', .nilIface] = W2 := ⟨_, rfl⟩
  have hrow : W2.heap[F + 1]? = some (.cells #[.slice (some ⟨g, off, none⟩) l.length c, .int .i64 at', .nilIface] 69 (0, 0)) := by rw [← hW2]; exact setRow_heap W1 _ _ _ 69 (0, 0) hp1
  rw [hW2] at hc2
  have hq2 : Rz W2 (F + 1) F g off c wa l (at', 0) (fz 0) := by
    refine ⟨hrow, hc2.blk hf1 (by omega), (Sl_below hs hb1).chg hc2 (fun a ha e => by cases ha; exact absurd e (by show g ≠ F + 1; omega)), (Tb_below ht hb1 htp).chg hc2 (by omega), by omega, by omega, by omega, by omega, by omega, hll, hlc, hla, ?_⟩
    have := hc2.2.2.2.1
    have := hb1.size
    omega
  have hB2 : Below w.heap.size w W2 := hb1.trans (hc2.toBelow hb1.size (fun k hk => by omega))
  have HWW : Aside (∀ X, Below w.heap.size w X → X.cell? ⟨0, 0, none⟩ = some (eV wa (-1)) ∧ X.cell? ⟨1, 0, none⟩ = some (.iface 135 (.agg #[.pointer (some ⟨3, 38, none⟩)]))) := fun X hb => ⟨(World.cell?_of_block (w := w) (a := ⟨0, 0, none⟩) (hb.block 0 (by omega))).trans hW, (World.cell?_of_block (w := w) (a := ⟨1, 0, none⟩) (hb.block 1 (by omega))).trans hE⟩
  have hkd := rkind_c hq2 (HWW.out W2 hB2).1 (by omega) (by omega)
  have HKD : Aside ((xK l at').2.2 = 0 → isKd (xK l at').1 = true) := xK_kd l at'
  have HB2 : Aside _ := hB2
  have HP1 : Aside _ := hp1
  have HW2 : Aside _ := hW2
  have HBK : Aside (∀ X Y, Below w.heap.size w X → Chg (Kq (F + 1) F) X Y → Below w.heap.size w Y) := fun X Y h1 h2 => h1.trans (h2.toBelow h1.size (fun k hk h => by rcases h with h | h <;> omega))
  have HCL : Aside _ := hcl
  have HS : Aside (rdS l at' = if (xK l at').2.2 ≠ 0 then (ab (fz 0) dz, (xK l at').2) else yW (xK l at').1 l (ab (bgF (xK l at').1) dz, (xK l at').2)) := rfl
  have HEE : Aside (rdE l at' = if (rdS l at').2.2 ≠ 0 then (rdS l at').2.2 else if mayB (rdS l at').1 = false then 11 else 0) := rfl
  have HRO : Aside (∀ w' e, RdOk w w' l at' e = ∃ f d p F, e = .returned (.tuple #[.agg f.cells.toArray, .int .i64 (rdS l at').2.1, .nilIface]) ∧ ab f d = (rdS l at').1 ∧ Fg w' w.heap.size p F f d) := fun _ _ => rfl
  have HRN : Aside (∀ w' e, RdNo w w' l at' e = ∃ v, e = .returned (.tuple #[.agg (fz 0).cells.toArray, .int .i64 0, v]) ∧ Cls w.heap.size w' (xK l at').1 (rdE l at') v) := fun _ _ => rfl
  simp only [HRO.out, HRN.out]
  clear HRO HRN
  generalize rdS l at' = R at *
  generalize rdE l at' = E at *
  obtain ⟨KK, hKK⟩ : ∃ KK, xK l at' = KK := ⟨_, rfl⟩
  rw [hKK] at hkd HKD HS ⊢
  obtain ⟨k, s1⟩ := KK
  dsimp only at hkd HKD HS ⊢
  have HZ : Aside (Below w.heap.size w w) := Below.refl _ _
  -- what an error ends in
  have HEND : Aside (∀ X s f, Rz X (F + 1) F g off c wa l s f → Below w.heap.size w X → s.2 = E → E ≠ 0 → X.cell? ⟨F + 1, 2, none⟩ = some (eV wa E) ∧ Calls Tryd.prog 31 #[.int .i64 k, eV wa E] X fun e' w' => ∃ v, e' = .returned v ∧ Aside (Cls X.heap.size w' k E v) ∧ Aside (Below X.heap.size X w')) := by
    intro X s f hz hb he hne
    obtain ⟨q1, q2⟩ := HWW.out X hb
    refine ⟨by rw [← he]; exact hz.cs.2.2.1, (HCL.out hne k X q1 q2).mono ?_⟩
    rintro e' w' ⟨v, h1, h2, h3⟩
    exact ⟨v, h1, h2, h3⟩
  have HBL : Aside (∀ X, Below w.heap.size w X → ∀ k', (isKd k' = true) → Calls Tryd.prog 29 #[.int .i64 k'] X fun e w' => e = .returned (.agg (bgF k').cells.toArray) ∧ Below X.heap.size X w') := fun X _ k' hk => beginning_c k' X hk
  have HN9 : Aside (∀ X f d, Fg X F (F + 1) F f d → Fg X w.heap.size (F + 1) F f d) := fun X f d h => by rw [hF]; exact h
  clear hs ht hll hlc hla hg hW hE hcl hb0 hf0 hb1 hf1 hc2 htp hq2 hB2 hp1 hrow hKK hW2
  have hX0 : Aside ((Tryd.prog.info? 28).map (·.size) = some (fz 0).cells.toArray.size) := i28s
  have hone0 : Aside ((fz 0).cells.toArray.all (·.oneCell') = true) := (fz_on 0 false false).one
  simp only [fz, Fr.cells, List.replicate, List.cons_append, List.nil_append] at hW0
  go_enter Tryd.func12, Tryd.ntmps12
  go_wp2_with (refine wpList_store_row rfl 69 _ _ rfl (F + 1) #[.slice (some ⟨g, off, none⟩) l.length c, .int .i64 at', .nilIface] rfl rfl 69 _ HP1.out i69s rfl (by simp [Value.oneCell']) ?_; rw [HW2.out])
  refine hkd.mono ?_
  rintro e W3 ⟨rfl, H3⟩
  have HB3 : Aside (Below w.heap.size w W3) := HBK.out _ _ HB2.out H3.out.2
  obtain ⟨_, _, d2, _⟩ := H3.out.1.cs
  clear hkd hW0 hW1 hs0 HB2 HP1 HW2
  by_cases hk0 : s1.2 = 0
  · have hkd := HKD.out hk0
    have hR : yW k l (ab (bgF k) dz, s1) = R := by rw [HS.out, if_neg (fun h => h hk0)]
    have hbg := HBL.out W3 HB3.out k hkd
    have HWB : Aside (∀ X, Rz X (F + 1) F g off c wa l s1 (bgF k) → Calls Tryd.prog 22 #[.iface 72 (.pointer (some ⟨F + 1, 0, none⟩)), .int .i64 k, .pointer (some ⟨F, 0, none⟩)] X fun e w' => e = .returned (.tuple #[]) ∧ Aside (Wk X F (F + 1) F g off c wa l R w')) := by
      intro X hx
      have := rwalk_any k hkd (w0 := X) (lo := F) (a := (ab (bgF k) dz, s1)) ⟨bgF k, dz, rfl, hx, bgF_by k X F (F + 1) F (Nat.le_refl _), Chg.refl _ _⟩
      rw [hR] at this
      exact this
    rw [hk0, eV_0] at d2
    have hq0 : Sem.run Tryd.prog (binOp BinOp.eql 38 .nilIface .nilIface) W3 = .ok (.bool true) W3 := by kernel_rfl
    have HSB : Aside ((Tryd.prog.info? 28).map (·.size) = some (bgF k).cells.toArray.size) := by show _ = some (bgF k).cells.length; rw [(bgF_on k).size]; exact i28s
    have HSO : Aside ((fz 0).cells.toArray.size = (bgF k).cells.toArray.size) := by show (fz 0).cells.length = (bgF k).cells.length; rw [(bgF_on k).size]; rfl
    clear hk0 hkd hR HBL HKD HS
    go_wp2_with fail
    refine hbg.mono ?_
    rintro e W4 ⟨rfl, hb4⟩
    have z4 := H3.out.1.bel hb4
    have hB4 : Below w.heap.size w W4 := HB3.out.trans (hb4.mono HB3.out.size)
    obtain ⟨z5, c5⟩ := z4.rowF (bgF k)
    have HF4 := mkHid z4.fm
    have hwk := HWB.out _ z5
    have HB5 : Aside (Below w.heap.size w (W4.setRow F (bgF k).cells.toArray)) := HBK.out _ _ hB4 c5
    clear hbg hb4 z4 hB4 z5 c5 H3 HB3 d2 hq0 HWB
    go_wp2_with (refine wpList_store_row rfl 28 _ _ rfl F (bgF k).cells.toArray rfl rfl 28 _ HF4.out HSB.out HSO.out (bgF_on k).one ?_)
    refine hwk.mono ?_
    rintro e W6 ⟨rfl, H6⟩
    obtain ⟨f, d, e1, z6, g6, c6⟩ := H6.out
    have HB6 : Aside (Below w.heap.size w W6) := HBK.out _ _ HB5.out c6
    have hsz : f.cells.length = 42 := g6.on'.size
    have HSZ : Aside (f.cells.toArray.size = (fz 0).cells.toArray.size) := by show f.cells.length = (fz 0).cells.length; rw [hsz]; rfl
    have HX6 : Aside ((Tryd.prog.info? 28).map (·.size) = some f.cells.toArray.size) := by show _ = some f.cells.length; rw [hsz]; exact i28s
    have HZ6 := mkHid z6
    have HG6 := mkHid g6
    have HE1 : Aside (ab f d = R.1) := e1
    clear hwk H6 e1 z6 g6 c6 HF4 HB5 hsz HSB HSO
    by_cases hr0 : R.2.2 = 0
    · have d2 := HZ6.out.cs.2.2.1
      rw [hr0, eV_0] at d2
      have hq0 : Sem.run Tryd.prog (binOp BinOp.eql 38 .nilIface .nilIface) W6 = .ok (.bool true) W6 := by kernel_rfl
      have hmb := mayBe_c f d W6 HG6.out.on'
      rw [HE1.out] at hmb
      have hE1 : E = if mayB R.1 = false then 11 else 0 := by rw [HEE.out, if_neg (fun h => h hr0)]
      obtain ⟨MB, hMB⟩ : ∃ MB, mayB R.1 = MB := ⟨_, rfl⟩
      rw [hMB] at hmb hE1
      have HR0 : Aside (R.2.2 = 0) := hr0
      clear hr0 hMB HEE
      go_wp2_with (refine wpList_load_row_g (by rfl) 28 (.tmp 4) rfl F rfl 28 _ (0, 0) _ HZ6.out.fm hu28 rfl HX6.out ?_)
      refine hmb.mono ?_
      rintro e W7 ⟨rfl, hb7⟩
      have HZ7 := mkHid (HZ6.out.bel hb7)
      have HG7 := mkHid (HG6.out.on (Chg.of_below hb7))
      have HB7 : Aside (Below w.heap.size w W7) := HB6.out.trans (hb7.mono HB6.out.size)
      clear hmb hb7 hq0 d2 HZ6 HG6 HB6
      cases MB
      · have hE9 : E = 11 := hE1
        have hf := rfail_c HZ7.out 11 (by decide)
        rw [eV_num wa (by decide) (by decide)] at hf
        have e9 : flt R.2 11 = (R.2.1, 11) := by unfold flt; rw [if_pos HR0.out]
        rw [e9] at hf
        clear hE1 e9
        go_wp2_with fail
        refine hf.mono ?_
        rintro e W8 ⟨rfl, z8, c8⟩
        have HZ8 := mkHid z8
        have HB8 : Aside (Below w.heap.size w W8) := HBK.out _ _ HB7.out c8
        have hE1 : ((R.2.1, 11) : Sq).2 = E := hE9.symm
        have hne : E ≠ 0 := by rw [hE9]; decide
        clear hf z8 c8 hE9
        obtain ⟨e2, hcls⟩ := HEND.out W8 (R.2.1, 11) _ HZ8.out HB8.out hE1 hne
        obtain ⟨T0, v0, hv0⟩ := eV_some wa hne
        rw [hv0] at e2 hcls
        have HFM := mkHid (HZ8.out).fm
        have HBX : Aside (Below w.heap.size w W8) := HB8.out
        have hq1 := run_eql_iface_nil (P := Tryd.prog) (w := W8) 38 (by kernel_rfl) T0 v0
        have hq2 := run_neq_iface_nil (P := Tryd.prog) (w := W8) 38 (by kernel_rfl) T0 v0
        have HNE : Aside (E ≠ 0) := hne
        clear HZ8 HB8 hE1 hne hv0
        go_wp2_with fail
        refine hcls.mono ?_
        rintro e W9 ⟨v, rfl, HC, HB4⟩
        have HF4 := mkHid ((HB4.out.block F (lt_block HFM.out)).trans HFM.out)
        have HH9 : Aside (Below w.heap.size w (W9.setRow F (fz 0).cells.toArray) ∧ (W9.setRow F (fz 0).cells.toArray).heap[F]? = some (.cells (fz 0).cells.toArray 28 (0, 0)) ∧ Cls w.heap.size (W9.setRow F (fz 0).cells.toArray) k E v) := by
          have hc9 : Chg (fun j => j = F) W9 (W9.setRow F (fz 0).cells.toArray) := ⟨rfl, rfl, rfl, by simp, fun j _ hj => setRow_other W9 F j _ hj⟩
          have hz := HBX.out.size
          have hF9 := lt_block HFM.out
          have hb9 : Below w.heap.size w W9 := HBX.out.trans (HB4.out.mono hz)
          exact ⟨hb9.trans (hc9.toBelow hb9.size (fun j hj => by omega)), setRow_heap W9 F _ _ 28 (0, 0) HF4.out, (HC.out.chg hc9 (fun j hj => by omega)).mono hz⟩
        clear hcls
        go_wp2_with (refine wpList_store_row rfl 28 _ _ rfl F (fz 0).cells.toArray rfl rfl 28 _ HF4.out i28s HSZ.out (fz_on 0 false false).one ?_)
        refine bodyPost_ret (results_ctt (fn := Tryd.f12) (p := 4) (a := 5) (b := 6) (ty := 28) rfl _ _ F 28 _ (0, 0) _ rfl HH9.out.2.1 hu28 rfl i28s) rfl ?_
        try rw [if_neg HNE.out]
        have q9 := HH9.out
        rw [hF] at q9
        first | exact ⟨⟨v, rfl, q9.2.2⟩, q9.1⟩ | exact ⟨⟨v, rfl, HH9.out.2.2⟩, HH9.out.1⟩
      · have hE9 : E = 0 := hE1
        have d1 := HZ7.out.cs.2.1
        have d2 := HZ7.out.cs.2.2.1
        rw [HR0.out, eV_0] at d2
        have hq1 : Sem.run Tryd.prog (binOp BinOp.eql 38 .nilIface .nilIface) W7 = .ok (.bool true) W7 := by kernel_rfl
        have hq2 : Sem.run Tryd.prog (binOp BinOp.neq 38 .nilIface .nilIface) W7 = .ok (.bool false) W7 := by kernel_rfl
        obtain ⟨z8, c8⟩ := HZ7.out.rowF f
        have H7 := mkHid HZ7.out.fm
        have H8 := mkHid z8.fm
        have HB8 : Aside (Below w.heap.size w (W7.setRow F f.cells.toArray)) := HBK.out _ _ HB7.out c8
        have HG8 : Aside (Fg (W7.setRow F f.cells.toArray) w.heap.size (F + 1) F f d) := HN9.out _ _ _ (HG7.out.on c8)
        have HON := mkHid HG7.out.on'.one
        have HE9 : Aside (E = 0) := hE9
        obtain ⟨q, hq⟩ : ∃ q : Int, (R.2.1 : Int) = q := ⟨_, rfl⟩
        rw [hq] at d1
        have HQ : Aside ((R.2.1 : Int) = q) := hq
        clear hE1 hE9 z8 c8 HZ7 HG7 HB7 hq
        go_wp2_with (first | (refine wpList_load_row rfl 28 (.tmp 4) rfl F rfl 28 _ (0, 0) _ H7.out hu28 rfl HX6.out ?_) | (refine wpList_store_row rfl 28 _ _ rfl F f.cells.toArray rfl rfl 28 _ H7.out HX6.out rfl HON.out ?_))
        refine bodyPost_ret (results_ctt (fn := Tryd.f12) (p := 4) (a := 5) (b := 6) (ty := 28) rfl _ _ F 28 _ (0, 0) _ rfl H8.out hu28 rfl HX6.out) rfl ?_
        try rw [if_pos HE9.out]
        try rw [HQ.out]
        have q8 := HG8.out
        have q9 := HB8.out
        rw [hF] at q8 q9
        first | exact ⟨⟨f, rfl, d, HE1.out, F + 1, F, q8⟩, q9⟩ | exact ⟨⟨f, d, F + 1, F, rfl, HE1.out, q8⟩, q9⟩ | exact ⟨⟨f, d, F + 1, F, rfl, HE1.out, HG8.out⟩, HB8.out⟩
    · have hE1 : R.2.2 = E := by rw [HEE.out, if_pos hr0]
      have hne : E ≠ 0 := by rw [← hE1]; exact hr0
      clear hr0
      obtain ⟨e2, hcls⟩ := HEND.out W6 R.2 _ HZ6.out HB6.out hE1 hne
      obtain ⟨T0, v0, hv0⟩ := eV_some wa hne
      rw [hv0] at e2 hcls
      have HFM := mkHid (HZ6.out).fm
      have HBX : Aside (Below w.heap.size w W6) := HB6.out
      have hq1 := run_eql_iface_nil (P := Tryd.prog) (w := W6) 38 (by kernel_rfl) T0 v0
      have hq2 := run_neq_iface_nil (P := Tryd.prog) (w := W6) 38 (by kernel_rfl) T0 v0
      have HNE : Aside (E ≠ 0) := hne
      clear HZ6 HB6 hE1 hne hv0
      go_wp2_with fail
      refine hcls.mono ?_
      rintro e W9 ⟨v, rfl, HC, HB4⟩
      have HF4 := mkHid ((HB4.out.block F (lt_block HFM.out)).trans HFM.out)
      have HH9 : Aside (Below w.heap.size w (W9.setRow F (fz 0).cells.toArray) ∧ (W9.setRow F (fz 0).cells.toArray).heap[F]? = some (.cells (fz 0).cells.toArray 28 (0, 0)) ∧ Cls w.heap.size (W9.setRow F (fz 0).cells.toArray) k E v) := by
        have hc9 : Chg (fun j => j = F) W9 (W9.setRow F (fz 0).cells.toArray) := ⟨rfl, rfl, rfl, by simp, fun j _ hj => setRow_other W9 F j _ hj⟩
        have hz := HBX.out.size
        have hF9 := lt_block HFM.out
        have hb9 : Below w.heap.size w W9 := HBX.out.trans (HB4.out.mono hz)
        exact ⟨hb9.trans (hc9.toBelow hb9.size (fun j hj => by omega)), setRow_heap W9 F _ _ 28 (0, 0) HF4.out, (HC.out.chg hc9 (fun j hj => by omega)).mono hz⟩
      clear hcls
      go_wp2_with (refine wpList_store_row rfl 28 _ _ rfl F (fz 0).cells.toArray rfl rfl 28 _ HF4.out i28s HSZ.out (fz_on 0 false false).one ?_)
      refine bodyPost_ret (results_ctt (fn := Tryd.f12) (p := 4) (a := 5) (b := 6) (ty := 28) rfl _ _ F 28 _ (0, 0) _ rfl HH9.out.2.1 hu28 rfl i28s) rfl ?_
      try rw [if_neg HNE.out]
      have q9 := HH9.out
      rw [hF] at q9
      first | exact ⟨⟨v, rfl, q9.2.2⟩, q9.1⟩ | exact ⟨⟨v, rfl, HH9.out.2.2⟩, HH9.out.1⟩
  · have hE1 : s1.2 = E := by rw [HEE.out, HS.out, if_pos hk0, if_pos hk0]
    have hne : E ≠ 0 := by rw [← hE1]; exact hk0
    have h33 : ∃ f0 : Fr, Rz W3 (F + 1) F g off c wa l s1 f0 ∧ f0.cells.toArray.size = (fz 0).cells.toArray.size := ⟨fz 0, H3.out.1, rfl⟩
    obtain ⟨f0, z3, hsz3⟩ := h33
    have HSZ : Aside (f0.cells.toArray.size = (fz 0).cells.toArray.size) := hsz3
    have HZ3 := mkHid z3
    clear d2 hk0 H3 z3 hsz3
    obtain ⟨e2, hcls⟩ := HEND.out W3 s1 _ HZ3.out HB3.out hE1 hne
    obtain ⟨T0, v0, hv0⟩ := eV_some wa hne
    rw [hv0] at e2 hcls
    have HFM := mkHid (HZ3.out).fm
    have HBX : Aside (Below w.heap.size w W3) := HB3.out
    have hq1 := run_eql_iface_nil (P := Tryd.prog) (w := W3) 38 (by kernel_rfl) T0 v0
    have hq2 := run_neq_iface_nil (P := Tryd.prog) (w := W3) 38 (by kernel_rfl) T0 v0
    have HNE : Aside (E ≠ 0) := hne
    clear HZ3 HB3 hE1 hne hv0
    go_wp2_with fail
    refine hcls.mono ?_
    rintro e W9 ⟨v, rfl, HC, HB4⟩
    have HF4 := mkHid ((HB4.out.block F (lt_block HFM.out)).trans HFM.out)
    have HH9 : Aside (Below w.heap.size w (W9.setRow F (fz 0).cells.toArray) ∧ (W9.setRow F (fz 0).cells.toArray).heap[F]? = some (.cells (fz 0).cells.toArray 28 (0, 0)) ∧ Cls w.heap.size (W9.setRow F (fz 0).cells.toArray) k E v) := by
      have hc9 : Chg (fun j => j = F) W9 (W9.setRow F (fz 0).cells.toArray) := ⟨rfl, rfl, rfl, by simp, fun j _ hj => setRow_other W9 F j _ hj⟩
      have hz := HBX.out.size
      have hF9 := lt_block HFM.out
      have hb9 : Below w.heap.size w W9 := HBX.out.trans (HB4.out.mono hz)
      exact ⟨hb9.trans (hc9.toBelow hb9.size (fun j hj => by omega)), setRow_heap W9 F _ _ 28 (0, 0) HF4.out, (HC.out.chg hc9 (fun j hj => by omega)).mono hz⟩
    clear hcls
    go_wp2_with (refine wpList_store_row rfl 28 _ _ rfl F (fz 0).cells.toArray rfl rfl 28 _ HF4.out i28s HSZ.out (fz_on 0 false false).one ?_)
    refine bodyPost_ret (results_ctt (fn := Tryd.f12) (p := 4) (a := 5) (b := 6) (ty := 28) rfl _ _ F 28 _ (0, 0) _ rfl HH9.out.2.1 hu28 rfl i28s) rfl ?_
    try rw [if_neg HNE.out]
    have q9 := HH9.out
    rw [hF] at q9
    first | exact ⟨⟨v, rfl, q9.2.2⟩, q9.1⟩ | exact ⟨⟨v, rfl, HH9.out.2.2⟩, HH9.out.1⟩
end Go.Proofs.YtaeapgkfmofjlaaDoor
