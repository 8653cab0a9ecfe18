/- frame.Read, where nothing is wrong, over what the walk leaves. -/
import Derived.Test.YtfejhlfcabbkcaaDoorRr
namespace Go.Proofs.YtfejhlfcabbkcaaDoor
open Go.ChangeShapes Go.WideShapes Go.ChangeAt Go.RowKit
set_option linter.unusedVariables false
set_option maxRecDepth 100000

theorem i55s : (Tryd.prog.info? 55).map (·.size) = some 3 := by kernel_rfl
theorem results_ctt {P : Program} {fn : Func} {p a b : Tmp} {ty : TypeId} (h : fn.results = #[.cell p ty, .tmp a, .tmp b]) (tmps : Array Value) (w : World) (g : Nat) (t : TypeId) (cs : Array Value) (fr : Nat × Nat) (d : TypeDesc)
    (hp : tmps.getD p undef = .pointer (some ⟨g, 0, none⟩)) (hg : w.heap[g]? = some (.cells cs t fr)) (hu : P.underlying ty = some d) (hd : (match d with | .struct _ | .array _ _ => true | _ => false) = true) (hi : (P.info? ty).map (·.size) = some cs.size) :
    (results fn tmps).run P w = .ok (.tuple #[.agg cs, tmps.getD a undef, tmps.getD b undef]) w := by
  have hp' : tmps[p]?.getD undef = .pointer (some ⟨g, 0, none⟩) := by simpa using hp
  simp [results, h, hp', asAddr, run_loadVar_row w g t ty cs fr d hg hu hd hi]
section
variable {w : World} {ao : Option Addr} {c : Nat} {l : List UInt8} {at' : Nat}
/-- A frame set as a whole. -/
theorem Rq.row {p F : Nat} {f : Fr} (h : Rq w p F ao c l at' f) (f' : Fr) : Rq (w.setRow F f'.cells.toArray) p F ao c l at' f' ∧ Chg (Kq p F) w (w.setRow F f'.cells.toArray) := by
  have hc : Chg (fun k => k = F) w (w.setRow F f'.cells.toArray) := ⟨rfl, rfl, rfl, by simp, fun k _ hk => setRow_other w F k _ hk⟩
  exact ⟨⟨hc.blk h.rd h.pf, setRow_heap w F _ _ 33 (0, 0) h.fm, h.sl.chg hc fun a ha e => (h.ab a ha).2 e, h.tb.chg hc fun e => h.f1 e, h.pf, h.ab, h.p1, h.f1, h.ll⟩, hc.mono fun k e => .inr e⟩
set_option maxHeartbeats 2000000 in
theorem read_c (k : Nat) (f' : Fr) (b : Nat) (hs : Sl w ao l) (ht : Tb w) (hll : l.length ≤ 90000) (hao : ∀ a, ao = some a → a.block < w.heap.size) (hat : at' < l.length) (hE : vE l at' = 0) (hV : vV l at' = k) (hN : vN l at' = (at' + 1 : Nat))
    (hk : k ≤ 30) (hk8 : ¬ (8 ≤ k ∧ k < 16)) (hstd : f'.std) (hfk : f'.k = (k : Int)) (hks : ((k : Int) = 0 ∧ 1 ≤ f'.cnt) ∨ (k : Int) = 1 ∨ (k : Int) = 16 ∨ (k : Int) = 25 ∨ (k : Int) = 26 ∨ (k : Int) = 30)
    (hwalk : ∀ p F X, Rq X p F ao c l (at' + 1) (fz k) → Calls Tryd.prog 12 #[.iface 58 (.pointer (some ⟨p, 0, none⟩)), .int .i64 k, .pointer (some ⟨F, 0, none⟩)] X fun e X' => e = .returned (.tuple #[]) ∧ Rp X p F ao c l b f' X') :
    Calls Tryd.prog 6 #[.slice ao l.length c, .int .i64 at'] w fun e w' => e = .returned (.tuple #[.agg f'.cells.toArray, .int .i64 b, .nilIface]) ∧ Below w.heap.size w w' := by
  obtain ⟨F, hF⟩ : ∃ F, w.heap.size = F := ⟨_, rfl⟩
  obtain ⟨W0, hW0⟩ : ∃ W0, w.alloc (.cells (fz 0).cells.toArray 33) = W0 := ⟨_, rfl⟩
  have hf0 : W0.heap[F]? = some (.cells (fz 0).cells.toArray 33 (0, 0)) := by rw [← hW0, ← hF]; exact heap_alloc_new w _
  have hs0 : W0.heap.size = F + 1 := by rw [← hW0, ← hF]; simp
  have hb0 : Below w.heap.size w W0 := by rw [← hW0]; exact bel1 w _
  obtain ⟨W1, hW1⟩ : ∃ W1, W0.alloc (.cells #[.slice none 0 0, .int .i64 0, .nilIface] 55) = W1 := ⟨_, rfl⟩
  have hp1 : W1.heap[F + 1]? = some (.cells #[.slice none 0 0, .int .i64 0, .nilIface] 55 (0, 0)) := by rw [← hW1, ← hs0]; exact heap_alloc_new W0 _
  have hb1 : Below w.heap.size w W1 := by rw [← hW1]; exact hb0.trans ((bel1 W0 _).mono hb0.size)
  have hf1 : W1.heap[F]? = some (.cells (fz 0).cells.toArray 33 (0, 0)) := by rw [← hW1]; exact ((bel1 W0 _).block F (by omega)).trans hf0
  have hc2 : Chg (fun k => k = F + 1) W1 (W1.setRow (F + 1) #[.slice ao l.length c, .int .i64 at', .nilIface]) := ⟨rfl, rfl, rfl, by simp, fun k _ hk => setRow_other W1 _ k _ hk⟩
  have htp : 1 < w.heap.size := Tb_pos ht
  have hq2 : Rq (W1.setRow (F + 1) #[.slice ao l.length c, .int .i64 at', .nilIface]) (F + 1) F ao c l at' (fz 0) := by
    refine ⟨setRow_heap W1 _ _ _ 55 (0, 0) hp1, hc2.blk hf1 (by omega), (Sl_below hs hb1).chg hc2 fun a ha e => ?_, (Tb_below ht hb1 htp).chg hc2 (by omega), by omega, fun a ha => ?_, by omega, by omega, by omega⟩
    · have := hao a ha; omega
    · have := hao a ha; omega
  have hB2 : Below w.heap.size w (W1.setRow (F + 1) #[.slice ao l.length c, .int .i64 at', .nilIface]) := hb1.trans (hc2.toBelow hb1.size (fun k hk => by omega))
  have hkd := rkind_c hq2 k hE hV hN hk (by omega)
  have HB2 : Aside _ := hB2
  have HP1 : Aside _ := hp1
  have HBG : Aside (∀ X, Calls Tryd.prog 14 #[.int .i64 k] X fun e w' => e = .returned (.agg (fz k).cells.toArray) ∧ Below X.heap.size X w') := fun X => beginning_c k X (by omega) (by omega) (by omega)
  have HMB : Aside (∀ X, Calls Tryd.prog 9 #[.agg f'.cells.toArray] X fun e w' => e = .returned (.bool true) ∧ Below X.heap.size X w') := fun X => mayBe_c f' X hstd k hfk hks
  have HWK : Aside _ := hwalk (F + 1) F
  have HST : Aside _ := hstd
  have hsz := hstd.one.2
  have hBK : Aside (∀ X Y, Below w.heap.size w X → Chg (Kq (F + 1) F) X Y → Below w.heap.size w Y) := fun X Y h1 h2 => h1.trans (h2.toBelow h1.size (fun k hk h => by rcases h with h | h <;> omega))
  have hpk : Below w.heap.size w w := Below.refl _ _
  clear hs ht hll hao hat hE hV hN hk hk8 hfk hks hwalk hb0 hf0 hb1 hf1 hc2 htp hq2 hB2 hp1 hpk hstd
  have hone : Aside (f'.cells.toArray.all (·.oneCell') = true) := HST.out.one.1
  have hX : Aside ((Tryd.prog.info? 33).map (·.size) = some f'.cells.toArray.size) := by show _ = some f'.cells.length; rw [hsz]; exact i33s
  have hXs : Aside (f'.cells.toArray.size = f'.cells.toArray.size) := rfl
  simp only [fz, Fr.cells, List.replicate, List.cons_append, List.nil_append] at hW0
  go_enter Tryd.func6, Tryd.ntmps6
  go_wp2_with (refine wpList_store_row rfl 55 _ _ rfl (F + 1) #[.slice ao l.length c, .int .i64 at', .nilIface] rfl rfl 55 _ HP1.out i55s rfl (by simp [Value.oneCell']) ?_)
  refine hkd.mono ?_
  rintro e W3 ⟨rfl, h3, hc3⟩
  have hB3 := hBK.out _ _ HB2.out hc3
  clear hkd hW0 hW1 hs0 HB2 HP1 hc3
  obtain ⟨d0, d1, d2, fz3⟩ := h3.cs
  have H3 : Aside _ := h3
  have HB3 : Aside _ := hB3
  clear h3 hB3 fz3 d0 d1
  have hbg := HBG.out W3
  go_wp2_with fail
  refine hbg.mono ?_
  rintro e W4 ⟨rfl, hb4⟩
  have h4 := H3.out.bel hb4
  have hB4 : Aside (Below w.heap.size w W4) := HB3.out.trans (hb4.mono HB3.out.size)
  obtain ⟨h5, hc5⟩ := h4.row (fz k)
  have hwk := HWK.out _ h5
  have H4 : Aside _ := h4.fm
  have HB5 : Aside _ := hBK.out _ _ hB4.out hc5
  clear hbg hb4 h4 h5 hc5 H3 HB3 d2
  go_wp2_with (refine wpList_store_row rfl 33 _ _ rfl F (fz k).cells.toArray rfl rfl 33 _ H4.out i33s rfl (fz_std k).one.1 ?_)
  refine hwk.mono ?_
  rintro e W6 ⟨rfl, h6, hc6⟩
  have HB6 : Aside _ := hBK.out _ _ HB5.out hc6
  obtain ⟨d0, d1, d2, fz6⟩ := h6.cs
  have H6 : Aside _ := h6
  have hmb := HMB.out W6
  clear hwk hc6 h6 d0 d1 fz6 HB5 H4
  go_wp2_with (refine wpList_load_row_g (by rfl) 33 (.tmp 4) rfl F rfl 33 _ (0, 0) _ H6.out.fm hu33 rfl hX.out ?_)
  refine hmb.mono ?_
  rintro e W7 ⟨rfl, hb7⟩
  have h7 := H6.out.bel hb7
  have HB7 : Aside (Below w.heap.size w W7) := HB6.out.trans (hb7.mono HB6.out.size)
  obtain ⟨d0, d1, d2, fz7⟩ := h7.cs
  have H7 : Aside _ := h7.fm
  obtain ⟨h8, hc8⟩ := h7.row f'
  have H8 : Aside _ := h8.fm
  have HB8 : Aside _ := hBK.out _ _ HB7.out hc8
  clear hmb hb7 h7 H6 HB6 fz7 d0 h8 hc8
  go_wp2_with (first | (refine wpList_load_row rfl 33 (.tmp 4) rfl F rfl 33 _ (0, 0) _ H7.out hu33 rfl hX.out ?_) | (refine wpList_store_row rfl 33 _ _ rfl F f'.cells.toArray rfl rfl 33 _ H7.out hX.out rfl hone.out ?_))
  refine bodyPost_ret (results_ctt (fn := Tryd.f6) (p := 4) (a := 5) (b := 6) (ty := 33) rfl _ _ F 33 _ (0, 0) _ rfl H8.out hu33 rfl hX.out) rfl ?_
  exact ⟨rfl, HB8.out⟩
end
end Go.Proofs.YtfejhlfcabbkcaaDoor
