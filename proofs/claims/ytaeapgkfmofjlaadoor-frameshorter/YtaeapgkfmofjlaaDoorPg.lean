/- frame.Read where no kind's number can be read: any slice, any place. FrameShorter: the law's walk. -/
import Derived.Test.YtaeapgkfmofjlaaDoorEd
import Derived.Test.YtaeapgkfmofjlaaDoorOc
import Derived.Test.YtaeapgkfmofjlaaDoorPc
import Derived.Deep.Cut
import Derived.Deep.CutBlock
namespace Go.Proofs.YtaeapgkfmofjlaaDoor
open Go.ChangeShapes Go.WideShapes Go.ChangeAt Go.RowKit
set_option linter.unusedVariables false
set_option maxRecDepth 100000

theorem row_cs {w : World} {p n c : Nat} {o : Option Addr} {a : Int} {v : Value} (hp : w.heap[p]? = some (.cells #[.slice o n c, .int .i64 a, v] 69 (0, 0))) :
    w.cell? ⟨p, 0, none⟩ = some (.slice o n c) ∧ w.cell? ⟨p, 1, none⟩ = some (.int .i64 a) ∧ w.cell? ⟨p, 2, none⟩ = some v ∧ ∀ j, w.frozen? ⟨p, j, none⟩ = false := by
  refine ⟨?_, ?_, ?_, fun j => ?_⟩ <;> simp [World.cell?, World.frozen?, hp]
theorem fail_row {w : World} {p n c : Nat} {o : Option Addr} {a k : Int} (hp : w.heap[p]? = some (.cells #[.slice o n c, .int .i64 a, .nilIface] 69 (0, 0))) :
    Calls Tryd.prog 30 #[.pointer (some ⟨p, 0, none⟩), .iface 29 (.int .i64 k)] w fun e w' => e = .returned (.tuple #[]) ∧ w' = w.setCell ⟨p, 2, none⟩ (.iface 29 (.int .i64 k)) := by
  obtain ⟨c0, c1, c2, fz⟩ := row_cs hp
  have f2 := fz 2
  have hn : Sem.run Tryd.prog (binOp BinOp.eql 38 .nilIface .nilIface) w = .ok (.bool true) w := by kernel_rfl
  clear hp fz
  go_enter Tryd.func30, Tryd.ntmps30
  go_wp2
  go_end0
  exact ⟨rfl, rfl⟩
set_option maxHeartbeats 1000000 in
theorem kind_few {w : World} {p c : Nat} {o : Option Addr} {l : List UInt8} {at' ec : Int} (hp : w.heap[p]? = some (.cells #[.slice o l.length c, .int .i64 at', .nilIface] 69 (0, 0))) (hs : Sl w o l) (ht : Tb w) (hll : l.length ≤ 200000000000000) (hv : vE l at' = ec) (he : ec ≠ 0) :
    Calls Tryd.prog 28 #[.pointer (some ⟨p, 0, none⟩)] w fun e w' => e = .returned (.int .i64 0) ∧ Aside (w'.heap[p]? = some (.cells #[.slice o l.length c, .int .i64 at', .iface 29 (.int .i64 ec)] 69 (0, 0)) ∧ Chg (fun k => k = p) w w') := by
  have hd := (Below.refl w.heap.size w).drew
  have hvr := var_any o l c at' w.drew (Tb_below ht hd (Tb_pos ht)) (Sl_below hs hd) (by omega)
  rw [hv] at hvr
  obtain ⟨c0, c1, c2, fz⟩ := row_cs hp
  have d0 : w.drew.cell? ⟨p, 0, none⟩ = some (.slice o l.length c) := c0
  have d1 : w.drew.cell? ⟨p, 1, none⟩ = some (.int .i64 at') := c1
  have hpd : w.drew.heap[p]? = some (.cells #[.slice o l.length c, .int .i64 at', .nilIface] 69 (0, 0)) := hp
  have hf := fail_row (k := ec) hpd
  have hc : Chg (fun k => k = p) w.drew (w.drew.setCell ⟨p, 2, none⟩ (.iface 29 (.int .i64 ec))) := Chg.set 2 _ hpd rfl
  have HR : Aside ((w.drew.setCell ⟨p, 2, none⟩ (.iface 29 (.int .i64 ec))).heap[p]? = some (.cells #[.slice o l.length c, .int .i64 at', .iface 29 (.int .i64 ec)] 69 (0, 0)) ∧ Chg (fun k => k = p) w (w.drew.setCell ⟨p, 2, none⟩ (.iface 29 (.int .i64 ec)))) := by
    refine ⟨?_, (Chg.of_below hd).trans hc⟩
    rw [setCell_eq_setRow w.drew p 2 _ 69 (0, 0) _ hpd, setRow_heap w.drew p _ _ 69 (0, 0) hpd]
    rfl
  have hq : (ec != 0) = true := by simpa using he
  generalize vV l at' = V at *
  generalize vN l at' = V2 at *
  clear hs ht hv hd hpd hc fz hp c0 c1 c2 he
  go_enter Tryd.func28, Tryd.ntmps28
  go_wp2_with fail
  go_region_held3 (fun X => X.cell? ⟨p, 0, none⟩ = some (.slice o l.length c) ∧ X.cell? ⟨p, 1, none⟩ = some (.int .i64 at')) (exact ⟨d0, d1⟩) (first | (go_at_call 43; refine Calls.mono hvr ?_; rintro e w4 ⟨rfl, hw4⟩; subst w4))
  clear hvr
  go_wp2_with fail
  refine hf.mono ?_
  rintro e w4 ⟨rfl, rfl⟩
  clear hf
  go_wp2
  go_ret
  exact ⟨rfl, HR⟩
set_option maxHeartbeats 4000000 in
theorem read_few (w : World) (o : Option Addr) (c : Nat) (wa : Option Addr) (l : List UInt8) (at' ec : Int) (hs : Sl w o l) (ht : Tb w) (hll : l.length ≤ 200000000000000)
    (hW : w.cell? ⟨0, 0, none⟩ = some (eV wa (-1))) (hE : w.cell? ⟨1, 0, none⟩ = some (rtp 38)) (hv : vE l at' = ec) (he : ec ≠ 0) (he1 : ec ≠ -1) :
    Calls Tryd.prog 12 #[.slice o l.length c, .int .i64 at'] w fun e w' => (∃ v, e = .returned (.tuple #[.agg (fz 0).cells.toArray, .int .i64 0, v]) ∧ Cls w.heap.size w' 0 ec v) ∧ Below w.heap.size w w' := by
  obtain ⟨F, hF⟩ : ∃ F, w.heap.size = F := ⟨_, rfl⟩
  obtain ⟨W0, hW0⟩ : ∃ W0, w.alloc (.cells (fz 0).cells.toArray 28) = W0 := ⟨_, rfl⟩
  have hf0 : W0.heap[F]? = some (.cells (fz 0).cells.toArray 28 (0, 0)) := by rw [← hW0, ← hF]; exact heap_alloc_new w _
  have hs0 : W0.heap.size = F + 1 := by rw [← hW0, ← hF]; simp
  have hb0 : Below w.heap.size w W0 := by rw [← hW0]; exact bel1 w _
  obtain ⟨W1, hW1⟩ : ∃ W1, W0.alloc (.cells #[.slice none 0 0, .int .i64 0, .nilIface] 69) = W1 := ⟨_, rfl⟩
  have hp1 : W1.heap[F + 1]? = some (.cells #[.slice none 0 0, .int .i64 0, .nilIface] 69 (0, 0)) := by rw [← hW1, ← hs0]; exact heap_alloc_new W0 _
  have hb1 : Below w.heap.size w W1 := by rw [← hW1]; exact hb0.trans ((bel1 W0 _).mono hb0.size)
  have hf1 : W1.heap[F]? = some (.cells (fz 0).cells.toArray 28 (0, 0)) := by rw [← hW1]; exact ((bel1 W0 _).block F (by omega)).trans hf0
  have hc2 : Chg (fun k => k = F + 1) W1 (W1.setRow (F + 1) #[.slice o l.length c, .int .i64 at', .nilIface]) := ⟨rfl, rfl, rfl, by simp, fun k _ hk => setRow_other W1 _ k _ hk⟩
  have htp : 2 < w.heap.size := Tb_pos ht
  obtain ⟨W2, hW2⟩ : ∃ W2, W1.setRow (F + 1) #[.slice o l.length c, .int .i64 at', .nilIface] = W2 := ⟨_, rfl⟩
  have hrow : W2.heap[F + 1]? = some (.cells #[.slice o l.length c, .int .i64 at', .nilIface] 69 (0, 0)) := by rw [← hW2]; exact setRow_heap W1 _ _ _ 69 (0, 0) hp1
  rw [hW2] at hc2
  have hB2 : Below w.heap.size w W2 := hb1.trans (hc2.toBelow hb1.size (fun k hk => by omega))
  have hf2 : W2.heap[F]? = some (.cells (fz 0).cells.toArray 28 (0, 0)) := hc2.blk hf1 (by omega)
  have HWW : Aside (∀ X, Below w.heap.size w X → X.cell? ⟨0, 0, none⟩ = some (eV wa (-1)) ∧ X.cell? ⟨1, 0, none⟩ = some (rtp 38)) := fun X hb => ⟨(World.cell?_of_block (w := w) (a := ⟨0, 0, none⟩) (hb.block 0 (by omega))).trans hW, (World.cell?_of_block (w := w) (a := ⟨1, 0, none⟩) (hb.block 1 (by omega))).trans hE⟩
  have hkd := kind_few hrow (Sl_below hs hB2) (Tb_below ht hB2 htp) hll hv he
  have HCL : Aside (∀ X, Below w.heap.size w X → Calls Tryd.prog 31 #[.int .i64 0, .iface 29 (.int .i64 ec)] X fun e' w' => ∃ v, e' = .returned v ∧ Aside (Cls X.heap.size w' 0 ec v) ∧ Aside (Below X.heap.size X w')) := by
    intro X hb
    obtain ⟨q1, q2⟩ := HWW.out X hb
    have := cls_any wa ec he 0 X q1 q2
    rw [eV_num wa he he1] at this
    refine this.mono ?_
    rintro e' w' ⟨v, h1, h2, h3⟩
    exact ⟨v, h1, h2, h3⟩
  have HP1 : Aside _ := hp1
  have HW2 : Aside _ := hW2
  have HB2 : Aside (Below w.heap.size w W2) := hB2
  have HF2 : Aside (W2.heap[F]? = some (.cells (fz 0).cells.toArray 28 (0, 0))) := hf2
  clear hs ht hll hW hE hb0 hf0 hb1 hf1 hc2 htp hB2 hp1 hrow hW2 hf2 hv he he1 HWW
  simp only [fz, Fr.cells, List.replicate, List.cons_append, List.nil_append] at hW0
  go_enter Tryd.func12, Tryd.ntmps12
  go_wp2_with (refine wpList_store_row rfl 69 _ _ rfl (F + 1) #[.slice o l.length c, .int .i64 at', .nilIface] rfl rfl 69 _ HP1.out i69s rfl (by simp [Value.oneCell']) ?_; rw [HW2.out])
  refine hkd.mono ?_
  rintro e W3 ⟨rfl, H3⟩
  obtain ⟨hr3, hc3⟩ := H3.out
  have HB3 : Aside (Below w.heap.size w W3) := HB2.out.trans (hc3.toBelow HB2.out.size (fun k hk => by omega))
  have HFM : Aside (W3.heap[F]? = some (.cells (fz 0).cells.toArray 28 (0, 0))) := hc3.blk HF2.out (by omega)
  obtain ⟨_, _, e2, _⟩ := row_cs hr3
  have hcls := HCL.out W3 HB3.out
  have hq1 := run_eql_iface_nil (P := Tryd.prog) (w := W3) 38 (by kernel_rfl) 29 (.int .i64 ec)
  have hq2 := run_neq_iface_nil (P := Tryd.prog) (w := W3) 38 (by kernel_rfl) 29 (.int .i64 ec)
  clear hkd hW0 hW1 hs0 HB2 HP1 HW2 H3 hr3 hc3 HF2 HCL
  go_wp2_with fail
  refine hcls.mono ?_
  rintro e W9 ⟨v, rfl, HC, HB4⟩
  have HF4 := mkHid ((HB4.out.block F (lt_block HFM.out)).trans HFM.out)
  have HH9 : Aside (Below w.heap.size w (W9.setRow F (fz 0).cells.toArray) ∧ (W9.setRow F (fz 0).cells.toArray).heap[F]? = some (.cells (fz 0).cells.toArray 28 (0, 0)) ∧ Cls w.heap.size (W9.setRow F (fz 0).cells.toArray) 0 ec v) := by
    have hc9 : Chg (fun j => j = F) W9 (W9.setRow F (fz 0).cells.toArray) := ⟨rfl, rfl, rfl, by simp, fun j _ hj => setRow_other W9 F j _ hj⟩
    have hz := HB3.out.size
    have hF9 := lt_block HFM.out
    have hb9 : Below w.heap.size w W9 := HB3.out.trans (HB4.out.mono hz)
    exact ⟨hb9.trans (hc9.toBelow hb9.size (fun j hj => by omega)), setRow_heap W9 F _ _ 28 (0, 0) HF4.out, (HC.out.chg hc9 (fun j hj => by omega)).mono hz⟩
  clear hcls
  go_wp2_with (refine wpList_store_row rfl 28 _ _ rfl F (fz 0).cells.toArray rfl rfl 28 _ HF4.out i28s rfl (fz_on 0 false false).one ?_)
  refine bodyPost_ret (results_ctt (fn := Tryd.f12) (p := 4) (a := 5) (b := 6) (ty := 28) rfl _ _ F 28 _ (0, 0) _ rfl HH9.out.2.1 hu28 rfl i28s) rfl ?_
  have q9 := HH9.out
  rw [hF] at q9
  first | exact ⟨⟨v, rfl, q9.2.2⟩, q9.1⟩ | exact ⟨⟨v, rfl, HH9.out.2.2⟩, HH9.out.1⟩
end Go.Proofs.YtaeapgkfmofjlaaDoor
namespace Go.Proofs.YtaeapgkfmofjlaaDoor
open Go.ChangeShapes Go.WideShapes Go.ChangeAt Go.RowKit
set_option linter.unusedVariables false
set_option maxRecDepth 100000

theorem Cls.iface {B : Nat} {w : World} {k e : Int} {v : Value} (h : Cls B w k e v) : ∃ T u, v = .iface T u := by
  unfold Cls at h
  split at h
  · exact ⟨_, _, h⟩
  · obtain ⟨P, h1, _⟩ := h
    exact ⟨_, _, h1⟩
theorem rdE_few {l : List UInt8} (h : vE l ((0 : Nat) : Int) ≠ 0) : rdE l 0 ≠ 0 := by
  have hK : xK l 0 = (0, (0, 10)) := by unfold xK; rw [if_neg h]
  have hS : (rdS l 0).2 = (0, 10) := by unfold rdS; rw [hK]; rfl
  unfold rdE
  rw [hS, if_pos (by decide)]
  decide
/-- What Read tells of any bytes, at their beginning. -/
theorem read_b {w : World} {wa ob : Option Addr} {BH : List UInt8} {cb : Nat} (hG : Gl w wa) (hs : Sl w ob BH) (hc : BH.length ≤ cb) (hB : BH.length ≤ 140737488355328) :
    Calls Tryd.prog 12 #[.slice ob BH.length cb, .int .i64 0] w fun e w' => (if rdE BH 0 = 0 then RdOk w w' BH 0 e else ∃ T u, e = .returned (.tuple #[.agg (fz 0).cells.toArray, .int .i64 0, .iface T u])) ∧ Below w.heap.size w w' := by
  by_cases h0 : vE BH ((0 : Nat) : Int) = 0
  · have hpos : 0 < BH.length := by obtain ⟨b, _, h1, h2⟩ := vN_rng h0; omega
    obtain ⟨g, off, he, hcell⟩ := hs 0 hpos
    subst he
    have hg := World.block_lt_of_cell? w _ hcell
    refine (readf_c w g off cb wa BH 0 hs hG.tb (by omega) hc (by omega) hg hG.w0 hG.e1).mono ?_
    rintro e w' ⟨h1, h2⟩
    refine ⟨?_, h2⟩
    by_cases hE : rdE BH 0 = 0
    · rw [if_pos hE] at h1 ⊢
      exact h1
    · rw [if_neg hE] at h1 ⊢
      obtain ⟨v, e1, hcl⟩ := h1
      obtain ⟨T, u, rfl⟩ := hcl.iface
      exact ⟨T, u, e1⟩
  · have hE := rdE_few h0
    have hv : vE BH ((0 : Nat) : Int) = 10 := (vE_at (Nat.zero_le _)).resolve_left h0
    refine (read_few w ob cb wa BH ((0 : Nat) : Int) 10 hs hG.tb (by omega) hG.w0 hG.e1 hv (by decide) (by decide)).mono ?_
    rintro e w' ⟨⟨v, e1, hcl⟩, h2⟩
    refine ⟨?_, h2⟩
    rw [if_neg hE]
    obtain ⟨T, u, rfl⟩ := hcl.iface
    exact ⟨T, u, e1⟩
theorem rd_one : rdS [1] 0 = (ab (fz 1) dz, (1, 0)) ∧ rdE [1] 0 = 0 := by
  have hp : (putR (ab (fz 1) dz)).2 = 0 := by rw [put_ping]
  have h := fin_C hp (kdk_any _ hp rfl rfl)
  rw [put_ping] at h
  exact h
theorem Sl_one {w : World} {g : Nat} {x : UInt8} (h : w.heap[g]? = some (.cells #[.int .u8 x.toNat] 5 (0, 0))) : Sl w (some ⟨g, 0, none⟩) [x] := by
  intro j hj
  have hj0 : j = 0 := by simpa using hj
  subst hj0
  refine ⟨g, 0, rfl, ?_⟩
  simp [World.cell?, h]
theorem read_ping {W : World} {wa : Option Addr} {g : Nat} (hg : W.heap[g]? = some (.cells #[.int .u8 1] 5 (0, 0))) (hG : Gl W wa) :
    Calls Tryd.prog 12 #[.slice (some ⟨g, 0, none⟩) 1 1, .int .i64 0] W fun e w' => RdOk W w' [1] 0 e ∧ Below W.heap.size W w' := by
  refine (readf_c W g 0 1 wa [1] 0 (Sl_one hg) hG.tb (by decide) (by decide) (by decide) (lt_block hg) hG.w0 hG.e1).mono ?_
  rintro e w' ⟨h1, h2⟩
  rw [if_pos rd_one.2] at h1
  exact ⟨h1, h2⟩
theorem read_ok {W : World} {wa : Option Addr} {B : Nat} {o : Option Addr} {c : Nat} {X : List UInt8} {n : Nat} (hG : Gl W wa) (hp : Pb W B o c X) (h0 : 0 < X.length) (hl : X.length ≤ 200000000000000) (hE : rdE X 0 = 0) (hn : X.length = n) :
    Calls Tryd.prog 12 #[.slice o n c, .int .i64 0] W fun e w' => RdOk W w' X 0 e ∧ Below W.heap.size W w' := by
  subst hn
  refine (hG.read hp h0 hl).mono ?_
  rintro e w' ⟨h1, h2⟩
  rw [if_pos hE] at h1
  exact ⟨h1, h2⟩
/-- A box for a frame, filled in. -/
theorem box {W1 : World} (f : Fr) (d : Da) (h : On f d) : Fm ((W1.alloc (.cells (fz 0).cells.toArray 28)).setRow W1.heap.size f.cells.toArray) W1.heap.size f ∧ Below W1.heap.size W1 ((W1.alloc (.cells (fz 0).cells.toArray 28)).setRow W1.heap.size f.cells.toArray) := by
  have hg : (W1.alloc (.cells (fz 0).cells.toArray 28)).heap[W1.heap.size]? = some (.cells (fz 0).cells.toArray 28 (0, 0)) := heap_alloc_new W1 _
  have hb : Below W1.heap.size W1 (W1.alloc (.cells (fz 0).cells.toArray 28)) := bel1 W1 _
  refine ⟨setRow_heap _ _ _ _ 28 (0, 0) hg, hb.os, hb.tape, hb.output, by simp, fun k hk => ?_⟩
  rw [setRow_other _ _ k _ (by omega)]
  exact hb.block k hk
set_option maxHeartbeats 4000000 in
theorem short_walk (ob : Option Addr) (BH : List UInt8) (cb : Nat) (w : World) (wa : Option Addr) (hG : Gl w wa) (hs : Sl w ob BH) (hc : BH.length ≤ cb) (hB : BH.length ≤ 140737488355328) :
    Calls Tryd.prog 7 #[.slice ob BH.length cb] w fun e w' => e = .returned (.bool true) ∧ Below w.heap.size w w' := by
  have hr1 := read_b hG hs hc hB
  have HGL : Aside (∀ X, Below w.heap.size w X → Gl X wa) := fun X hx => hG.below hx
  have HBB : Aside (BH.length ≤ 140737488355328) := hB
  clear hG hs hc
  go_enter Tryd.func7, Tryd.ntmps7
  go_wp2_with fail
  refine hr1.mono ?_
  rintro e W1 ⟨hro, hb1⟩
  have HB1 : Aside (Below w.heap.size w W1) := hb1
  obtain ⟨fx, dx, n, v, rfl, hon, hcs⟩ : ∃ (fx : Fr) (dx : Da) (n : Int) (v : Value), e = .returned (.tuple #[.agg fx.cells.toArray, .int .i64 n, v]) ∧ On fx dx ∧ ((rdE BH 0 = 0 ∧ v = .nilIface ∧ n = ((rdS BH 0).2.1 : Int) ∧ ab fx dx = (rdS BH 0).1 ∧ ∃ p F, Fg W1 w.heap.size p F fx dx) ∨ (fx = fz 0 ∧ dx = dz ∧ n = 0 ∧ ∃ T u, v = .iface T u)) := by
    by_cases hE : rdE BH 0 = 0
    · rw [if_pos hE] at hro
      obtain ⟨f, d, p, F, h1, h2, h3⟩ := hro
      exact ⟨f, d, _, _, h1, h3.on', .inl ⟨hE, rfl, rfl, h2, p, F, h3⟩⟩
    · rw [if_neg hE] at hro
      obtain ⟨T, u, h1⟩ := hro
      exact ⟨fz 0, dz, _, _, h1, fz_on 0 false false, .inr ⟨rfl, rfl, rfl, T, u, rfl⟩⟩
  clear hr1 hro
  obtain ⟨G, hG1⟩ : ∃ G, W1.heap.size = G := ⟨_, rfl⟩
  obtain ⟨W2, hW2⟩ : ∃ W2, W1.alloc (.cells (fz 0).cells.toArray 28) = W2 := ⟨_, rfl⟩
  obtain ⟨W3, hW3⟩ : ∃ W3, W2.setRow G fx.cells.toArray = W3 := ⟨_, rfl⟩
  have hbx := box (W1 := W1) fx dx hon
  rw [hW2, hG1, hW3] at hbx
  have H2 : Aside (W2.heap[G]? = some (.cells (fz 0).cells.toArray 28 (0, 0))) := by rw [← hW2, ← hG1]; exact heap_alloc_new W1 _
  have H3 : Aside (Fm W3 G fx) := hbx.1
  have HW3 : Aside (W2.setRow G fx.cells.toArray = W3) := hW3
  have hb3 : Below W1.heap.size W1 W3 := by rw [hG1]; exact hbx.2
  have HB3 : Aside (Below w.heap.size w W3) := hb1.trans (hb3.mono hb1.size)
  have HX3 : Aside ((Tryd.prog.info? 28).map (·.size) = some fx.cells.toArray.size) := by show _ = some fx.cells.length; rw [hon.size]; exact i28s
  have HS3 : Aside ((fz 0).cells.toArray.size = fx.cells.toArray.size) := by show (fz 0).cells.length = fx.cells.length; rw [hon.size]; rfl
  have HO3 : Aside (fx.cells.toArray.all (·.oneCell') = true) := hon.one
  have H13 : Aside (Below W1.heap.size W1 W3) := hb3
  -- the ping
  obtain ⟨g, hg⟩ : ∃ g, W3.heap.size = g := ⟨_, rfl⟩
  obtain ⟨W4, hW4⟩ : ∃ W4, W3.alloc (.cells #[.int .u8 1] 5) = W4 := ⟨_, rfl⟩
  have hg4 : W4.heap[g]? = some (.cells #[.int .u8 1] 5 (0, 0)) := by rw [← hW4, ← hg]; exact heap_alloc_new W3 _
  have hb4 : Below W3.heap.size W3 W4 := by rw [← hW4]; exact bel1 W3 _
  have HB4 : Aside (Below w.heap.size w W4) := HB3.out.trans (hb4.mono HB3.out.size)
  have H34 : Aside (Below W3.heap.size W3 W4) := hb4
  have hG4 := HGL.out W4 HB4.out
  have hr2 := read_ping hg4 hG4
  have hcs' := mkHid hcs
  have HON : Aside (On fx dx) := hon
  clear hg4 hb4 hG4 hbx hb3 hb1 hcs hon hW3
  simp only [fz, Fr.cells, List.replicate, List.cons_append, List.nil_append] at hW2
  go_upto_region 2 with (refine wpList_store_row rfl 28 _ _ rfl G fx.cells.toArray rfl rfl 28 _ H2.out HX3.out HS3.out HO3.out ?_; rw [HW3.out]; clear hW2 hG1)
  go_wp2_with fail
  refine hr2.mono ?_
  rintro e W5 ⟨⟨f2, d2, p2, F2, rfl, hab2, hfg2⟩, hb5⟩
  rw [rd_one.1] at hab2 ⊢
  dsimp only at hab2 ⊢
  have k2 : f2.k = 1 := congrArg Fa.k hab2
  have hon2 := hfg2.on'
  obtain ⟨K, hK⟩ : ∃ K, W5.heap.size = K := ⟨_, rfl⟩
  obtain ⟨W6, hW6⟩ : ∃ W6, W5.alloc (.cells (fz 0).cells.toArray 28) = W6 := ⟨_, rfl⟩
  obtain ⟨W7, hW7⟩ : ∃ W7, W6.setRow K f2.cells.toArray = W7 := ⟨_, rfl⟩
  have hbx := box (W1 := W5) f2 d2 hon2
  rw [hW6, hK, hW7] at hbx
  have H6 : Aside (W6.heap[K]? = some (.cells (fz 0).cells.toArray 28 (0, 0))) := by rw [← hW6, ← hK]; exact heap_alloc_new W5 _
  have HW7 : Aside (W6.setRow K f2.cells.toArray = W7) := hW7
  have hb7 : Below W5.heap.size W5 W7 := by rw [hK]; exact hbx.2
  have H47 : Below W4.heap.size W4 W7 := hb5.trans (hb7.mono hb5.size)
  have H37 : Below W3.heap.size W3 W7 := H34.out.trans (H47.mono H34.out.size)
  have HB7 : Aside (Below w.heap.size w W7) := HB3.out.trans (H37.mono HB3.out.size)
  have H17 : Aside (Below W1.heap.size W1 W7) := H13.out.trans (H37.mono H13.out.size)
  have HX7 : Aside ((Tryd.prog.info? 28).map (·.size) = some f2.cells.toArray.size) := by show _ = some f2.cells.length; rw [hon2.size]; exact i28s
  have HS7 : Aside ((fz 0).cells.toArray.size = f2.cells.toArray.size) := by show (fz 0).cells.length = f2.cells.length; rw [hon2.size]; rfl
  have HO7 : Aside (f2.cells.toArray.all (·.oneCell') = true) := hon2.one
  have x0 := hbx.1.at 0 _ (show f2.cells[0]? = some (.int .i64 f2.k) from rfl)
  rw [k2] at x0
  have H7 : Aside (Fm W7 G fx) := (H37.block G (lt_block H3.out)).trans H3.out
  clear hb5 hb7 hbx H47 H37 hW7 hr2 hab2 hfg2 hon2 k2 H2 H3 HW3 HB3 HS3 HO3 H13 HB4 H34 HB1
  simp only [fz, Fr.cells, List.replicate, List.cons_append, List.nil_append] at hW6
  go_upto_region 3 with (refine wpList_store_row rfl 28 _ _ rfl K f2.cells.toArray rfl rfl 28 _ H6.out HX7.out HS7.out HO7.out ?_; rw [HW7.out]; clear hW6 hK)
  go_upto_region 5 with fail
  clear x0
  rcases hcs'.out with ⟨hE, rfl, hn, hab, p, F, hfg⟩ | ⟨rfl, rfl, rfl, T, u, rfl⟩
  · have hsh := rd_short hE
    rw [← hab] at hsh
    obtain ⟨⟨s1, s2⟩, s3, s4, s5, s6⟩ := hsh
    have HFI : Aside (Fi W7 fx dx) := (hfg.below H17.out).fi (Nat.le_trans s1 HBB.out) (Nat.le_trans s2 (by decide))
    have hp := put_c fx dx W7 (HGL.out W7 HB7.out).tb HFI.out
    have hle := putR_le (ab fx dx) s3 s4
    have hpos : (putR (ab fx dx)).2 = 0 → 0 < (putR (ab fx dx)).1.length := putR_pos
    generalize rdS BH 0 = RS at *
    obtain ⟨ra, rn, re⟩ := RS
    dsimp only at hn hab s6
    have S5 : Aside (much (ab fx dx) → putR (ab fx dx) = ([], 2)) := s5
    have S6 : Aside (¬ much (ab fx dx) → (putR (ab fx dx)).2 = 0 ∧ (putR (ab fx dx)).1.length ≤ rn ∧ rdS (putR (ab fx dx)).1 0 = (ab fx dx, ((putR (ab fx dx)).1.length, 0)) ∧ rdE (putR (ab fx dx)).1 0 = 0) := s6
    have HMU : Aside (much (ab fx dx) = (1048576 < dx.D.length ∨ 1048576 < fx.cnt)) := rfl
    generalize putR (ab fx dx) = PR at *
    obtain ⟨X, ec⟩ := PR
    dsimp only at hp hle hpos
    obtain ⟨nX, hnX⟩ : ∃ n, X.length = n := ⟨_, rfl⟩
    have HNX : Aside (X.length = nX) := hnX
    have HPO : Aside (ec = 0 → 0 < X.length) := hpos
    have HVD : Aside (fx.D = .slice dx.oD dx.D.length dx.cD) := HON.out.vD
    subst hn
    clear hE hab hfg s1 s2 s3 s4 s5 s6 hpos
    go_upto_region 7 with fail
    go_wp2_with (refine wpList_load_row rfl 28 (.tmp 3) rfl G rfl 28 _ (0, 0) _ H7.out hu28 rfl HX3.out ?_)
    refine hp.mono ?_
    rintro e W8 ⟨o, c, rfl, hby, hb8⟩
    have HB8 : Aside (Below w.heap.size w W8) := HB7.out.trans (hb8.mono HB7.out.size)
    have H78 : Aside (Below W7.heap.size W7 W8) := hb8
    have H8 : Aside (Fm W8 G fx) := (hb8.block G (lt_block H7.out)).trans H7.out
    have HPB : Aside (Pb W8 W7.heap.size o c X) := ⟨hby⟩
    have y3 := H8.out.at 3 _ (show fx.cells[3]? = some fx.D from rfl)
    rw [HVD.out] at y3
    have y41 := H8.out.at 41 _ HON.out.c41
    clear hp hby hb8
    rw [hnX] at hle ⊢
    generalize hnD : dx.D.length = nD at *
    generalize hct : fx.cnt = ct at *
    by_cases hm : 1048576 < nD ∨ 1048576 < ct
    · have hpr := S5.out (by rw [HMU.out]; exact hm)
      simp only [Prod.mk.injEq] at hpr
      obtain ⟨rfl, rfl⟩ := hpr
      by_cases hm1 : 1048576 < nD
      · have q1 : decide ((nD : Int) > 1048576) = true := decide_eq_true (by omega)
        have q2 : decide ((1048576 : Int) < nD) = true := decide_eq_true (by omega)
        clear hm hle
        go_upto_region 8 with fail
        go_wp2
        go_ret
        exact ⟨rfl, HB8.out⟩
      · have hm2 : 1048576 < ct := by omega
        have q1 : decide ((1048576 : Int) < nD) = false := decide_eq_false (by omega)
        have q2 : decide ((1048576 : Int) < ct) = true := decide_eq_true (by omega)
        clear hm hle
        go_upto_region 8 with fail
        go_wp2
        go_ret
        exact ⟨rfl, HB8.out⟩
    · have hm1 : ¬ 1048576 < nD := fun q => hm (.inl q)
      have hm2 : ¬ 1048576 < ct := fun q => hm (.inr q)
      obtain ⟨t1, t2, t3, t4⟩ := S6.out (by rw [HMU.out]; exact hm)
      subst t1
      have hx0 := HPO.out rfl
      have h4 := read_ok (HGL.out W8 HB8.out) HPB.out hx0 (by omega) t4 hnX
      have q1 : decide ((1048576 : Int) < nD) = false := decide_eq_false (by omega)
      have q2 : decide ((1048576 : Int) < ct) = false := decide_eq_false (by omega)
      rw [hnX] at t2
      have T3 : Aside (rdS X 0 = (ab fx dx, (nX, 0))) := by rw [← hnX]; exact t3
      clear hm t3 t4 hx0
      go_upto_region 8 with fail
      go_upto_region 10 with fail
      clear y3 y41
      go_wp2_with fail
      refine h4.mono ?_
      rintro e W9 ⟨⟨fy, dy, py, Fy, rfl, haby, hgy⟩, hb9⟩
      rw [T3.out] at haby ⊢
      dsimp only at haby ⊢
      have HB9 : Aside (Below w.heap.size w W9) := HB8.out.trans (hb9.mono HB8.out.size)
      have hony := hgy.on'
      obtain ⟨M, hM⟩ : ∃ M, W9.heap.size = M := ⟨_, rfl⟩
      obtain ⟨W10, hW10⟩ : ∃ W10, W9.alloc (.cells (fz 0).cells.toArray 28) = W10 := ⟨_, rfl⟩
      obtain ⟨W11, hW11⟩ : ∃ W11, W10.setRow M fy.cells.toArray = W11 := ⟨_, rfl⟩
      have hbx := box (W1 := W9) fy dy hony
      rw [hW10, hM, hW11] at hbx
      have H10 : Aside (W10.heap[M]? = some (.cells (fz 0).cells.toArray 28 (0, 0))) := by rw [← hW10, ← hM]; exact heap_alloc_new W9 _
      have HW11 : Aside (W10.setRow M fy.cells.toArray = W11) := hW11
      have H11 : Aside (Fm W11 M fy) := hbx.1
      have hb11 : Below W9.heap.size W9 W11 := by rw [hM]; exact hbx.2
      have HB11 : Aside (Below w.heap.size w W11) := HB9.out.trans (hb11.mono HB9.out.size)
      have h711 : Below W7.heap.size W7 W11 := (H78.out.trans (hb9.mono H78.out.size)).trans (hb11.mono (Nat.le_trans H78.out.size hb9.size))
      have HX11 : Aside ((Tryd.prog.info? 28).map (·.size) = some fy.cells.toArray.size) := by show _ = some fy.cells.length; rw [hony.size]; exact i28s
      have HS11 : Aside ((fz 0).cells.toArray.size = fy.cells.toArray.size) := by show (fz 0).cells.length = fy.cells.length; rw [hony.size]; rfl
      have HO11 : Aside (fy.cells.toArray.all (·.oneCell') = true) := hony.one
      have lD : dy.D.length ≤ 140737488355328 := by have := congrArg Fa.D haby; dsimp only [ab] at this; rw [this]; exact HFI.out.lD
      have lA : dy.A.length ≤ 140737488355328 := by have := congrArg Fa.A haby; dsimp only [ab] at this; rw [this]; exact HFI.out.lA
      have hone := one_c fx fy dx dy W11 (HFI.out.below h711) ((hgy.below hb11).fi lD lA) haby.symm
      have HGX : Aside (Fm W11 G fx) := (h711.block G (lt_block H7.out)).trans H7.out
      have hle2 : (nX : Int) ≤ (rn : Int) := by omega
      have q5 : decide ((nX : Int) ≤ (rn : Int)) = true := decide_eq_true hle2
      clear h4 hb9 hbx hb11 h711 lD lA hony haby hgy hW11 hle q1 q2 t2
      simp only [fz, Fr.cells, List.replicate, List.cons_append, List.nil_append] at hW10
      go_upto_region 11 with (refine wpList_store_row rfl 28 _ _ rfl M fy.cells.toArray rfl rfl 28 _ H10.out HX11.out HS11.out HO11.out ?_; rw [HW11.out]; clear hW10 hM)
      go_wp2_with (first | (refine wpList_load_row_g (by rfl) 28 (.tmp 3) rfl G rfl 28 _ (0, 0) _ HGX.out hu28 rfl HX3.out ?_) | (refine wpList_load_row_g (by rfl) 28 (.tmp 11) rfl M rfl 28 _ (0, 0) _ H11.out hu28 rfl HX11.out ?_))
      refine hone.mono ?_
      rintro e W12 ⟨rfl, hb12⟩
      have HB12 : Aside (Below w.heap.size w W12) := HB11.out.trans (hb12.mono HB11.out.size)
      clear hone hb12
      go_wp2
      go_ret
      exact ⟨rfl, HB12.out⟩
  · have hn5 := run_neq_iface_nil (P := Tryd.prog) (w := W7) 38 (by kernel_rfl) T u
    have hone := one_c (fz 0) (fz 0) dz dz W7 (fz_fi 0 W7) (fz_fi 0 W7) rfl
    go_upto_region 6 with fail
    go_wp2_with (refine wpList_load_row rfl 28 (.tmp 3) rfl G rfl 28 _ (0, 0) _ H7.out hu28 rfl HX3.out ?_)
    refine hone.mono ?_
    rintro e W8 ⟨rfl, hb8⟩
    have HB8 : Aside (Below w.heap.size w W8) := HB7.out.trans (hb8.mono HB7.out.size)
    clear hone hb8
    go_wp2
    go_ret
    exact ⟨rfl, HB8.out⟩
end Go.Proofs.YtaeapgkfmofjlaaDoor
