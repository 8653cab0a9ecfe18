/- ParamsRead: the walk. Written by tools/gen-params-readlaw.py. -/
import Derived.Test.YtcppnellgkbndaaDoorOh
namespace Go.Proofs.YtcppnellgkbndaaDoor
open Go.ChangeShapes Go.WideShapes Go.ChangeAt Go.RowKit
set_option linter.unusedVariables false
set_option maxRecDepth 100000

theorem yl34 {ops : Array Oper} {S : World → Prop} {op : Oper} {a : Act} (hw : Region.wanted op (yielded ops a.tmps) = true) (x : Operand) (ho : op.op = .load 34 x) (P : Nat) (hx : a.eval x = .pointer (some ⟨P, 0, none⟩)) (cs : Array Value)
    (hS : ∀ w, S w → w.heap[P]? = some (.cells cs 34 (0, 0))) (hi : (Tryd.prog.info? 34).map (·.size) = some cs.size) : YieldsIf Tryd.prog ops S op (.agg cs) a :=
  .inl ⟨hw, fun w hw' => by
    unfold execOp
    simp only [ho, hx, Instr.loadAt, Instr.sureAddr, Sem.run_bind, Sem.run_pure, Result.andThen_ok, run_loadVar_row w P 34 34 cs (0, 0) _ (hS w hw') hu34 rfl hi]⟩
theorem bt_push (l : List UInt8) : bt l ++ (⟨#[90]⟩ : ByteArray) = bt (l ++ [90]) := by
  apply ByteArray.ext
  simp [bt]
theorem own_empty (w : World) : (w.alloc (.cells #[] 5)).ownsRow w.heap.size 5 1 (.slice (some ⟨w.heap.size, 0, none⟩) 0 0) 0 (bc []) := by
  refine ⟨rfl, .inr ⟨w.heap.size, 0, #[], rfl, Nat.le_refl _, heap_alloc_new w _, Nat.le_refl _, ?_⟩⟩
  simp [bc]
theorem one_sl (w : World) : Sl (w.alloc (.cells #[.int .u8 90] 5)) (some ⟨w.heap.size, 0, none⟩) [90] := fun j hj => by
  refine ⟨w.heap.size, 0, rfl, ?_⟩
  match j, hj with
  | 0, _ => simp [go_sem]
theorem own_blk {B n : Nat} {w : World} {v : Value} {xs : List Value} (h : w.ownsRow B 5 1 v n xs) : ∀ k, v.ownBlock = some k → B ≤ k := by
  obtain ⟨_, ⟨rfl, _⟩ | ⟨g, cap, cur, rfl, k1, _⟩⟩ := h
  · intro k hk; simp [Value.ownBlock] at hk
  · intro k hk
    simp only [Value.ownBlock, Option.some.injEq] at hk
    omega
theorem own_put {B : Nat} {w : World} {v : Value} {l : List UInt8} (h : w.ownsRow B 5 1 v (l.length + 1) (bc l ++ bc [90])) : ∃ g cap, v = .slice (some ⟨g, 0, none⟩) (l.length + 1) cap ∧ Sl w (some ⟨g, 0, none⟩) (l ++ [90]) ∧ B ≤ g ∧ g < w.heap.size ∧ l.length + 1 ≤ cap ∧ cap ≤ 9223372036854775807 := by
  have h' := h
  obtain ⟨_, ⟨_, h0⟩ | ⟨g, cap, cur, rfl, k1, k2, k3, k4, k5, k6⟩⟩ := h
  · omega
  · rw [← bc_app] at h'
    obtain ⟨g', cap', e, a1, a2, a3, a4⟩ := own_sl (l := l ++ [90]) h' (by simp) (by omega)
    simp only [Value.slice.injEq, Option.some.injEq, Addr.mk.injEq] at e
    obtain ⟨⟨rfl, _⟩, _, rfl⟩ := e
    exact ⟨g, cap, rfl, a1, a2, a3, a4, by unfold maxLen at k4; omega⟩
theorem Sl.front {w : World} {g : Nat} {l m : List UInt8} (h : Sl w (some ⟨g, 0, none⟩) (l ++ m)) : Sl w (some ⟨g, 0, none⟩) l := fun j hj => by
  obtain ⟨b, off, e, hc⟩ := h j (by rw [List.length_append]; omega)
  refine ⟨b, off, e, ?_⟩
  rw [hc, List.getElem_append_left hj]
theorem by_len {B : Nat} {w : World} {b : Bl} (h : By B w b.v b.l) : b.l.length ≤ 9223372036854775807 := by
  obtain ⟨_, ⟨_, h2⟩ | ⟨g, cap, cur, e, k1, k2, k3, k4, _⟩⟩ := h
  · omega
  · unfold maxLen at k4; omega
set_option maxHeartbeats 8000000 in
theorem read_walk (o : Option Addr) (c : Nat) (l : List UInt8) (s : Bool) (w : World) (hs : Sl w o l) (hnil : o = none → l.length = 0 ∧ c = 0) (hl : l.length ≤ 140737488351232) (hlc : l.length ≤ c) (hc : c ≤ 9223372036854775807) (ht : Tb w)
    (x : Option Addr) (hu : w.cell? ⟨1, 0, none⟩ = some (.iface 138 (.pointer x))) : Calls Tryd.prog 4 #[.slice o l.length c, .bool s] w fun e w' => e = .returned (.bool true) ∧ Below w.heap.size w w' := by
  obtain ⟨RC, RQ, hR⟩ : ∃ RC RQ, rdL l s (l.length + 1) 0 (fun _ => false) (refq dps) = (RC, RQ) := ⟨_, _, rfl⟩
  have HRD : Aside (∀ (X : World) (o' : Option Addr) (c' : Nat), Below w.heap.size w X → Sl X o' l → l.length ≤ c' → c' ≤ 9223372036854775807 → Calls Tryd.prog 17 #[.slice o' l.length c', .bool s] X fun e w' => ∃ p, e = .returned (.tuple #[.agg p.cells.toArray, .int .i64 RC]) ∧ refq p = RQ ∧ Pn X.heap.size w' p ∧ Below X.heap.size X w') :=
    fun X o' c' hb h1 h2 h3 => read_c o' c' l s X (Tb_below ht hb (Tb_pos ht)) h1 hl h2 h3 x (cell_bel hu hb) RC RQ hR
  have HRR : Aside (∀ X, Below w.heap.size w X → Calls Tryd.prog 18 #[.slice o l.length c, .bool s] X (RRes X RC RQ)) := fun X hb => rread_c o c l s X (Sl_below hs hb) hl hlc hc RC RQ (by rw [← dps_ref']; exact hR)
  have HERR : Aside (RC ≠ 0 → RQ = rqE) := fun h => rdL_err _ hR h
  have HSL : Aside (Sl w o l) := hs
  have HNIL : Aside (o = none → l.length = 0 ∧ c = 0) := hnil
  obtain ⟨i0, hi, hz0, hz1, hz2⟩ := info_parts info5
  obtain ⟨W0, hW0⟩ : ∃ W0, w.alloc (.cells #[] 5) = W0 := ⟨_, rfl⟩
  have HO0 : Aside (W0.ownsRow w.heap.size 5 1 (.slice (some ⟨w.heap.size, 0, none⟩) 0 0) 0 (bc [])) := by show World.ownsRow _ _ _ _ _ _ _; rw [← hW0]; exact own_empty w
  have HB0 : Aside (Below w.heap.size w W0) := by show Below _ _ _; rw [← hW0]; exact bel1 w _
  have HS0 : Aside (Sl W0 o l) := Sl_below hs HB0.out
  have HSZ : Aside (0 + l.length ≤ 140737488355328 ∧ l.length + 1 ≤ 140737488355328) := ⟨by omega, by omega⟩
  clear hs hnil hR ht hu
  go_enter Tryd.func4, Tryd.ntmps4
  go_upto_region 2 with (first
    | (at_builtin; refine wpList_append_bytes rfl (.tmp 16) (.tmp 17) rfl w.heap.size i0 Tryd.underlying22 hi hz0 hz1 hz2 v1 l.length (bc l) rfl HO1.out (some ⟨w1.heap.size, 0, none⟩) 1 1 [90] rfl rfl (fun h => nomatch h) HS1.out HSZ.out.2 HB1.out.size ?_; intro v2 w2 hown2 hgrow2; have HO2 : Aside (w2.ownsRow w.heap.size 5 1 v2 (l.length + 1) (bc l ++ bc [90])) := hown2; have HG2 : Aside _ := hgrow2; clear hown2 hgrow2)
    | (at_builtin; refine wpList_append_bytes rfl (.tmp 14) (.tmp 15) rfl w.heap.size i0 Tryd.underlying22 hi hz0 hz1 hz2 (.slice (some ⟨w.heap.size, 0, none⟩) 0 0) 0 (bc []) rfl HO0.out o l.length c l rfl rfl HNIL.out HS0.out HSZ.out.1 HB0.out.size ?_; intro v1 w1 hown1 hgrow1; rw [Nat.zero_add] at hown1; have HO1' : Aside (w1.ownsRow w.heap.size 5 1 v1 l.length (bc l)) := hown1; have HG1 : Aside _ := hgrow1; have HB1' : Aside (Below w.heap.size w w1) := HB0.out.grown HG1.out HB0.out.size (by intro k hk; simp only [Value.ownBlock, Option.some.injEq] at hk; omega); have HO1 : Aside ((w1.alloc (.cells #[.int .u8 90] 5)).ownsRow w.heap.size 5 1 v1 l.length (bc l)) := By.below (X := l) HO1'.out (bel1 w1 _); have HB1 : Aside (Below w.heap.size w (w1.alloc (.cells #[.int .u8 90] 5))) := bel_trans HB1'.out (bel1 w1 _); have HS1 : Aside (Sl (w1.alloc (.cells #[.int .u8 90] 5)) (some ⟨w1.heap.size, 0, none⟩) [90]) := one_sl w1; clear hown1 hgrow1))
  have HBW : Aside (Below w.heap.size w w2) := HB1.out.grown HG2.out HB1.out.size (own_blk HO1.out)
  obtain ⟨gi, ci, hv2, hin, hgw, hgi, hci, hci2⟩ := own_put HO2.out
  subst hv2
  have HIN : Aside (Sl w2 (some ⟨gi, 0, none⟩) (l ++ [90])) := hin
  have hrd1 := HRD.out w2 (some ⟨gi, 0, none⟩) ci HBW.out hin.front (by omega) hci2
  have t1 : (l.length : Int) ≤ (ci : Int) := by omega
  have t2 : (0 : Int) ≤ (l.length : Int) := by omega
  have t4 : ¬ (ci : Int) = 0 := by omega
  have t5 : ¬ ci = 0 := by omega
  clear HO2 HG2 HO1 HG1 HB1 HS1 HB1' HO1' hin hW0 HO0 HS0 HSZ HB0
  go_wp2_with fail
  refine hrd1.mono ?_
  rintro e W2 ⟨p1, rfl, hr1, hn1, hb2⟩
  clear hrd1
  have HP1 : Aside (refq p1 = RQ ∧ Pn w2.heap.size W2 p1 ∧ Below w2.heap.size w2 W2) := ⟨hr1, hn1, hb2⟩
  have HSZ1 : Aside (p1.cells.toArray.size = 34) := Ps.size34 hn1.r16
  have HON1 : Aside (p1.cells.toArray.all (·.oneCell') = true) := p1.one34
  obtain ⟨D1, hD1⟩ : ∃ D1, p1.cells.toArray = D1 := ⟨_, rfl⟩
  have HD1 : Aside (Obj.cells p1.cells.toArray 25 (0, 0) = .cells D1 25 (0, 0)) := by show _ = _; rw [hD1]
  rw [hD1] at HSZ1 HON1 ⊢
  have HC1 : Aside (p1.cells.toArray = D1) := hD1
  clear hr1 hn1 hb2 hD1
  have HI1 : Aside ((Tryd.prog.info? 25).map (·.size) = some D1.size) := by show _ = _; rw [HSZ1.out]; exact hi25
  have HZ1 : Aside (zA.size = D1.size) := by show _ = _; rw [HSZ1.out]; rfl
  obtain ⟨W2a, hW2a⟩ : ∃ W2a, W2.alloc (.cells zA 25) = W2a := ⟨_, rfl⟩
  have HG2a : Aside (W2a.heap[W2.heap.size]? = some (.cells zA 25 (0, 0))) := by show _ = _; rw [← hW2a]; exact heap_alloc_new W2 _
  have HB2a : Aside (Below W2.heap.size W2 W2a) := by show Below _ _ _; rw [← hW2a]; exact bel1 _ _
  unfold zA at hW2a
  go_upto_region 3 with (refine wpList_store_row rfl 25 (.tmp 6) (.tmp 26) rfl W2.heap.size D1 rfl rfl 25 _ HG2a.out HI1.out HZ1.out HON1.out ?_)
  obtain ⟨W3, hW3⟩ : ∃ W3, W2a.setRow W2.heap.size D1 = W3 := ⟨_, rfl⟩
  rw [hW3]
  have HR3 : Aside (W3.heap[W2.heap.size]? = some (.cells D1 25 (0, 0))) := by show _ = _; rw [← hW3]; exact setRow_heap W2a _ _ _ 25 (0, 0) HG2a.out
  have HB3 : Aside (Below W2.heap.size W2 W3) := by show Below _ _ _; rw [← hW3]; exact HB2a.out.trans ⟨rfl, rfl, rfl, by simp, fun j hj => setRow_other W2a _ j _ (by omega)⟩
  have HBw3 : Aside (Below w.heap.size w W3) := bel_trans (bel_trans HBW.out HP1.out.2.2) HB3.out
  clear hW3 hW2a HG2a HB2a HZ1
  have hrd2 := HRD.out W3 (some ⟨gi, 0, none⟩) ci HBw3.out (Sl_below (Sl_below HIN.out HP1.out.2.2) HB3.out).front (by omega) hci2
  go_wp2_with fail
  refine hrd2.mono ?_
  rintro e W4 ⟨p2, rfl, hr2, hn2, hb4⟩
  clear hrd2
  have HP2 : Aside (refq p2 = RQ ∧ Pn W3.heap.size W4 p2 ∧ Below W3.heap.size W3 W4) := ⟨hr2, hn2, hb4⟩
  have HSZ2 : Aside (p2.cells.toArray.size = 34) := Ps.size34 hn2.r16
  have HON2 : Aside (p2.cells.toArray.all (·.oneCell') = true) := p2.one34
  obtain ⟨D2, hD2⟩ : ∃ D2, p2.cells.toArray = D2 := ⟨_, rfl⟩
  rw [hD2] at HSZ2 HON2 ⊢
  have HC2 : Aside (p2.cells.toArray = D2) := hD2
  clear hr2 hn2 hb4 hD2
  have HI2 : Aside ((Tryd.prog.info? 25).map (·.size) = some D2.size) := by show _ = _; rw [HSZ2.out]; exact hi25
  have HZ2 : Aside (zA.size = D2.size) := by show _ = _; rw [HSZ2.out]; rfl
  obtain ⟨W4a, hW4a⟩ : ∃ W4a, W4.alloc (.cells zA 25) = W4a := ⟨_, rfl⟩
  have HG4a : Aside (W4a.heap[W4.heap.size]? = some (.cells zA 25 (0, 0))) := by show _ = _; rw [← hW4a]; exact heap_alloc_new W4 _
  have HB4a : Aside (Below W4.heap.size W4 W4a) := by show Below _ _ _; rw [← hW4a]; exact bel1 _ _
  unfold zA at hW4a
  go_upto_region 4 with (refine wpList_store_row rfl 25 (.tmp 8) (.tmp 35) rfl W4.heap.size D2 rfl rfl 25 _ HG4a.out HI2.out HZ2.out HON2.out ?_)
  obtain ⟨W5, hW5⟩ : ∃ W5, W4a.setRow W4.heap.size D2 = W5 := ⟨_, rfl⟩
  rw [hW5]
  have HR5 : Aside (W5.heap[W4.heap.size]? = some (.cells D2 25 (0, 0))) := by show _ = _; rw [← hW5]; exact setRow_heap W4a _ _ _ 25 (0, 0) HG4a.out
  have HB5 : Aside (Below W4.heap.size W4 W5) := by show Below _ _ _; rw [← hW5]; exact HB4a.out.trans ⟨rfl, rfl, rfl, by simp, fun j hj => setRow_other W4a _ j _ (by omega)⟩
  have HBw5 : Aside (Below w.heap.size w W5) := bel_trans (bel_trans HBw3.out HP2.out.2.2) HB5.out
  clear hW5 hW4a HG4a HB4a HZ2
  have hrr := HRR.out W5 HBw5.out
  go_wp2_with fail
  refine hrr.mono ?_
  rintro e W6 ⟨rfl, hb6⟩
  have HB6 : Aside (Below W5.heap.size W5 W6) := hb6
  clear hrr hb6 HRD HRR
  obtain ⟨q3, hq3⟩ : ∃ q3, (if RC = 0 then RQ else rq0) = q3 := ⟨_, rfl⟩
  have HQ3 : Aside ((if RC = 0 then RQ else rq0) = q3) := hq3
  rw [hq3]
  clear hq3
  obtain ⟨D3, hD3⟩ : ∃ D3, q3.cells.toArray = D3 := ⟨_, rfl⟩
  have HC3 : Aside (q3.cells.toArray = D3) := hD3
  have HI3 : Aside ((Tryd.prog.info? 34).map (·.size) = some D3.size) := by show _ = _; rw [← hD3]; exact hi34q _
  have HZ3 : Aside (Tryd.zeroCells34.size = D3.size) := by show _ = _; rw [← hD3, zQ_eq, Rq.size, Rq.size]
  have HON3 : Aside (D3.all (·.oneCell') = true) := by show _ = _; rw [← hD3]; exact q3.one
  rw [hD3]
  clear hD3
  obtain ⟨W6a, hW6a⟩ : ∃ W6a, W6.alloc (.cells Tryd.zeroCells34 34) = W6a := ⟨_, rfl⟩
  have HG6a : Aside (W6a.heap[W6.heap.size]? = some (.cells Tryd.zeroCells34 34 (0, 0))) := by show _ = _; rw [← hW6a]; exact heap_alloc_new W6 _
  have HB6a : Aside (Below W6.heap.size W6 W6a) := by show Below _ _ _; rw [← hW6a]; exact bel1 _ _
  go_upto_region 5 with (refine wpList_store_row rfl 34 (.tmp 10) (.tmp 41) rfl W6.heap.size D3 rfl rfl 34 _ HG6a.out HI3.out HZ3.out HON3.out ?_)
  obtain ⟨W7, hW7⟩ : ∃ W7, W6a.setRow W6.heap.size D3 = W7 := ⟨_, rfl⟩
  rw [hW7]
  have HR7 : Aside (W7.heap[W6.heap.size]? = some (.cells D3 34 (0, 0))) := by show _ = _; rw [← hW7]; exact setRow_heap W6a _ _ _ 34 (0, 0) HG6a.out
  have HB7 : Aside (Below W6.heap.size W6 W7) := by show Below _ _ _; rw [← hW7]; exact HB6a.out.trans ⟨rfl, rfl, rfl, by simp, fun j hj => setRow_other W6a _ j _ (by omega)⟩
  clear hW7 hW6a HG6a HB6a HZ3
  have HLW7 : Aside (Lw w w2.heap.size W3.heap.size W2.heap.size W4.heap.size W6.heap.size gi p1 p2 q3 (l ++ [90]) W7) := by
    have b37 : Below W3.heap.size W3 W7 := bel_trans (bel_trans (bel_trans HP2.out.2.2 HB5.out) HB6.out) HB7.out
    have b57 : Below W5.heap.size W5 W7 := bel_trans HB6.out HB7.out
    have b47 : Below W4.heap.size W4 W7 := bel_trans HB5.out b57
    have b27 : Below W2.heap.size W2 W7 := bel_trans HB3.out b37
    exact ⟨by rw [HC1.out]; exact (b37.block _ (lt_block HR3.out)).trans HR3.out, by rw [HC2.out]; exact (b57.block _ (lt_block HR5.out)).trans HR5.out, by rw [HC3.out]; exact HR7.out, HP2.out.2.1.bel b47, Sl_below (Sl_below HIN.out HP1.out.2.2) b27, by omega, HBW.out.size, bel_trans (bel_trans HBW.out HP1.out.2.2) b27, (Bf.of HP1.out.2.1.first HB3.out.size).bel b27, (Bf.of HP1.out.2.1.orig HB3.out.size).bel b27⟩
  have HPN1 : Aside (Pn w2.heap.size W7 p1) := HP1.out.2.1.bel (bel_trans HB3.out (bel_trans (bel_trans (bel_trans HP2.out.2.2 HB5.out) HB6.out) HB7.out))
  have HBY : Aside (p1.first.l.length ≤ 9223372036854775807 ∧ p1.orig.l.length ≤ 9223372036854775807) := ⟨by_len HP1.out.2.1.first, by_len HP1.out.2.1.orig⟩
  have HQQ : Aside (refq p1 = RQ ∧ refq p2 = RQ) := ⟨HP1.out.1, HP2.out.1⟩
  have HW6 : Aside (w.heap.size ≤ W6.heap.size ∧ gi ≠ W6.heap.size) := by
    have x1 := (bel_trans HBw5.out HB6.out).size
    have x2 := HP1.out.2.2.size
    have x3 := HB3.out.size
    have x4 := HP2.out.2.2.size
    have x5 := HB5.out.size
    have x6 := HB6.out.size
    exact ⟨x1, by omega⟩
  have HGC : Aside (l.length + 1 ≤ ci ∧ ci ≤ 9223372036854775807) := ⟨hci, hci2⟩
  clear HR3 HR5 HR7 HB3 HB5 HB6 HB7 HBw3 HBw5 HP1 HP2 HIN HBW hgw hgi hci hci2 t1 t2 t4 t5
  generalize w2.heap.size = n1 at *
  generalize W3.heap.size = n3 at *
  generalize W2.heap.size = A1 at *
  generalize W4.heap.size = A2 at *
  have HA3 : Aside (w.heap.size ≤ W6.heap.size ∧ gi ≠ W6.heap.size) := ⟨HW6.out.1, HW6.out.2⟩
  clear HW6
  generalize W6.heap.size = A3 at *
  by_cases hrc : RC = 0
  · obtain rfl : q3 = RQ := by rw [← HQ3.out, if_pos hrc]
    subst hrc
    have HL7 : Aside (Lw w n1 n3 A1 A2 A3 gi p1 p2 q3 (l ++ [90]) W7 ∧ Pn n1 W7 p1) := ⟨HLW7.out, HPN1.out⟩
    clear HLW7 HPN1 HERR HQ3
    generalize q3 = RQ at *
    go_upto_region 9 with fail
    generalize W7 = WL at *
    obtain ⟨D4, hD4⟩ : ∃ D4, RQ.cells.toArray = D4 := ⟨_, rfl⟩
    have HC4 : Aside (RQ.cells.toArray = D4) := hD4
    have HI4 : Aside ((Tryd.prog.info? 34).map (·.size) = some D4.size) := by show _ = _; rw [← hD4]; exact hi34q _
    have hneq : ∀ X, (binOp .neq 34 (.agg D4) (.agg D4)).run Tryd.prog X = .ok (.bool false) X := fun X => by rw [← hD4]; exact neq34s RQ X
    have HEQ4 : Aside (∀ X, (binOp .eql 34 (.agg D4) (.agg D4)).run Tryd.prog X = .ok (.bool true) X) := fun X => by rw [← hD4]; exact eq34s RQ X
    clear hD4
    have HKR : Aside (∀ X, Below WL.heap.size WL X → X.heap[A1]? = some (.cells D1 25 (0, 0)) ∧ X.heap[A3]? = some (.cells D4 34 (0, 0))) := fun X hX => ⟨by rw [← HC1.out]; exact (HL7.out.1.bel hX).r1, by rw [← HC4.out]; exact (HL7.out.1.bel hX).r3⟩
    have HRF1 : Aside (∀ X, Below WL.heap.size WL X → Calls Tryd.prog 10 #[.agg D1] X fun e w' => e = .returned (.agg D4) ∧ Below X.heap.size X w') := fun X hX => by
      have := refs_c p1 X (HL7.out.2.bel hX).pl
      rwa [HC1.out, HQQ.out.1, HC4.out] at this
    refine wp_region_held_drew (S := fun Z : World => Z.heap[A1]? = some (.cells D1 25 (0, 0)) ∧ Z.heap[A3]? = some (.cells D4 34 (0, 0))) (by kernel_rfl) (HKR.out _ (Below.refl _ _).drew) (fun hHeld => ?_)
    refine wpAnyH_take (i := 0) (v := .agg D1) rfl (by kernel_rfl) (by kernel_rfl) (by kernel_rfl) (fun _ _ _ h => h) (yl25 (by rfl) _ rfl A1 rfl D1 (fun X h => h.1) HI1.out) hHeld ?_
    refine norm_any' (fun K hK => ?_)
    go_simp
    refine hK _ _ ?_
    clear hK K
    refine wpAnyH_take (i := 2) (v := .agg D4) rfl (by kernel_rfl) (by kernel_rfl) (by kernel_rfl) (fun _ _ _ h => h) (yl34 (by rfl) _ rfl A3 rfl D4 (fun X h => h.2) HI4.out) hHeld ?_
    refine norm_any' (fun K hK => ?_)
    go_simp
    refine hK _ _ ?_
    clear hK K
    refine wpAnyH_ready (rs := [1]) (by kernel_rfl) (by simp) (AllReadyH.cons rfl (fun K hK => ?_) AllReadyH.nil)
    go_simp
    refine Calls.mono (HRF1.out _ (Below.refl _ _).drew) ?_
    rintro e w10 ⟨rfl, hb10⟩
    have HB10 : Aside (Below WL.heap.size WL w10) := bel_trans (Below.refl _ _).drew hb10
    clear hb10
    refine hK.out _ _ (HKR.out _ HB10.out) (fun hHeld => ?_)
    clear hK K
    refine norm_any' (fun K hK => ?_)
    go_simp
    refine hK _ _ ?_
    clear hK K
    refine wpAnyH_take (i := 3) (v := .bool false) rfl (by kernel_rfl) (by kernel_rfl) (by kernel_rfl) (fun _ _ _ h => h) (Or.inl ⟨by rfl, by intro w hs; go_simp⟩) hHeld ?_
    refine norm_any' (fun K hK => ?_)
    go_simp
    refine hK _ _ ?_
    clear hK K
    refine wpAnyH_done (by kernel_rfl) ?_ _
    clear hHeld
    have HLW : Aside (Lw w n1 n3 A1 A2 A3 gi p1 p2 RQ (l ++ [90]) w10) := HL7.out.1.bel HB10.out
    clear HL7 HB10 HKR HRF1 hneq
    generalize w10 = wA at *
    obtain ⟨nf, hnf⟩ : ∃ nf, p1.first.l.length = nf := ⟨_, rfl⟩
    have HNF : Aside (p1.first.l.length = nf) := hnf
    clear hnf
    have HNS : Aside (nf ≤ 9223372036854775807) := by show _ ≤ _; rw [← HNF.out]; exact HBY.out.1
    go_wp2
    go_loopg [12] (nf + 1) (fun kx s12 wr => ∃ i : Nat, s12 = .int .i64 (i : Int) ∧ i ≤ nf ∧ nf + 1 - i ≤ kx ∧ Aside (Lw w n1 n3 A1 A2 A3 gi p1 p2 RQ (l ++ [90]) wr))
    case atStart => exact ⟨0, rfl, by omega, by omega, HLW.out⟩
    case round =>
      obtain ⟨i, rfl, hi, hk, HQ⟩ := hrel
      clear HLW
      obtain ⟨fo, hfo⟩ : ∃ fo, p1.first.o = fo := ⟨_, rfl⟩
      obtain ⟨fc, hfc⟩ : ∃ fc, p1.first.c = fc := ⟨_, rfl⟩
      have d14 : wr.cell? ⟨A1, 14, none⟩ = some (.slice fo nf fc) := by rw [← hfo, ← hfc, ← HNF.out]; exact cellb HQ.out.r1 (by simp [Ps.cells])
      by_cases hlt : i < nf
      · obtain ⟨g, e1, e2, e3, e4⟩ := HQ.out.f (by rw [HNF.out]; omega)
        rw [hfo] at e1
        subst e1
        have hns := HNS.out
        have iw : IntKind.i64.wrap ((i : Int) + 1) = (i : Int) + 1 := wrn _ (by omega) (by omega)
        clear hns
        have i1 : (i : Int) < (nf : Int) := by omega
        have i0 : (0 : Int) ≤ (i : Int) := by omega
        have HT1 := fun b => HQ.out.turn e2 e3 e4 i ((b + 1) % 256)
        obtain ⟨cur, h1, h2⟩ := e4
        obtain ⟨b, hb⟩ := h2 i (by rw [HNF.out]; exact hlt)
        have q0 : wr.cell? ⟨g, i, none⟩ = some (.int .u8 b) := cellb h1 hb
        have q0d : wr.drew.cell? ⟨g, i, none⟩ = some (.int .u8 b) := q0
        have f0 : wr.frozen? ⟨g, i, none⟩ = false := by simp [World.frozen?, h1]
        have f0d : wr.drew.frozen? ⟨g, i, none⟩ = false := f0
        have HT2 : Aside (Lw w n1 n3 A1 A2 A3 gi p1 p2 RQ (l ++ [90]) (wr.setCell ⟨g, i, none⟩ (.int .u8 ((b + 1) % 256))).drew) := (HT1 b).bel (Below.refl _ _).drew
        have HD14 : Aside (wr.drew.cell? ⟨A1, 14, none⟩ = some (.slice (some ⟨g, 0, none⟩) nf fc)) := d14
        have HD15 : Aside ((wr.setCell ⟨g, i, none⟩ (.int .u8 ((b + 1) % 256))).drew.cell? ⟨A1, 14, none⟩ = some (.slice (some ⟨g, 0, none⟩) nf fc)) := by
          show _ = _
          rw [← hfo, ← hfc, ← HNF.out]
          exact cellb HT2.out.r1 (by simp [Ps.cells])
        clear h1 h2 hb HT1 HQ e2 e3 hfc
        go_wp2_with fail
        refine wp_region_held_drew (S := fun Z : World => Z.cell? ⟨A1, 14, none⟩ = some (.slice (some ⟨g, 0, none⟩) nf fc)) (by kernel_rfl) HD14.out (fun hHeld => ?_)
        refine wpAnyH_take (i := 0) (v := .pointer (some ⟨A1, 14, none⟩)) rfl (by kernel_rfl) (by kernel_rfl) (by kernel_rfl) (fun _ _ _ h => h) (Or.inl ⟨by rfl, by intro w hs; go_simp⟩) hHeld ?_
        refine norm_any' (fun K hK => ?_)
        go_simp
        refine hK _ _ ?_
        clear hK K
        refine wpAnyH_take (i := 1) (v := .slice (some ⟨g, 0, none⟩) nf fc) rfl (by kernel_rfl) (by kernel_rfl) (by kernel_rfl) (fun _ _ _ h => h) (Or.inl ⟨by rfl, by intro w s0; go_simp⟩) hHeld ?_
        refine norm_any' (fun K hK => ?_)
        go_simp
        refine hK _ _ ?_
        clear hK K
        refine wpAnyH_take (i := 2) (v := .int .i64 (i : Int)) rfl (by kernel_rfl) (by kernel_rfl) (by kernel_rfl) (fun _ _ _ h => h) (Or.inl ⟨by rfl, by intro w hs; go_simp⟩) hHeld ?_
        refine norm_any' (fun K hK => ?_)
        go_simp
        refine hK _ _ ?_
        clear hK K
        refine wpAnyH_take (i := 3) (v := .pointer (some ⟨A1, 14, none⟩)) rfl (by kernel_rfl) (by kernel_rfl) (by kernel_rfl) (fun _ _ _ h => h) (Or.inl ⟨by rfl, by intro w hs; go_simp⟩) hHeld ?_
        refine norm_any' (fun K hK => ?_)
        go_simp
        refine hK _ _ ?_
        clear hK K
        refine wpAnyH_take (i := 4) (v := .slice (some ⟨g, 0, none⟩) nf fc) rfl (by kernel_rfl) (by kernel_rfl) (by kernel_rfl) (fun _ _ _ h => h) (Or.inl ⟨by rfl, by intro w s0; go_simp⟩) hHeld ?_
        refine norm_any' (fun K hK => ?_)
        go_simp
        refine hK _ _ ?_
        clear hK K
        refine wpAnyH_take (i := 5) (v := .int .i64 (i : Int)) rfl (by kernel_rfl) (by kernel_rfl) (by kernel_rfl) (fun _ _ _ h => h) (Or.inl ⟨by rfl, by intro w hs; go_simp⟩) hHeld ?_
        refine norm_any' (fun K hK => ?_)
        go_simp
        refine hK _ _ ?_
        clear hK K
        refine wpAnyH_take (i := 6) (v := .pointer (some ⟨g, i, none⟩)) rfl (by kernel_rfl) (by kernel_rfl) (by kernel_rfl) (fun _ _ _ h => h) (Or.inl ⟨by rfl, by intro w hs; go_simp⟩) hHeld ?_
        refine norm_any' (fun K hK => ?_)
        go_simp
        refine hK _ _ ?_
        clear hK K
        refine wpAnyH_ready (rs := [7]) (by kernel_rfl) (by simp) (AllReadyH.cons rfl (fun K hK => ?_) AllReadyH.nil)
        go_simp
        refine hK.out _ _ HD14.out (fun hHeld => ?_)
        clear hK K
        refine norm_any' (fun K hK => ?_)
        go_simp
        refine hK _ _ ?_
        clear hK K
        refine wpAnyH_take (i := 8) (v := .int .u8 ((b + 1) % 256)) rfl (by kernel_rfl) (by kernel_rfl) (by kernel_rfl) (fun _ _ _ h => h) (Or.inl ⟨by rfl, by intro w hs; go_simp; exact IntKind.wrap_u8 _⟩) hHeld ?_
        refine norm_any' (fun K hK => ?_)
        go_simp
        refine hK _ _ ?_
        clear hK K
        refine wpAnyH_take (i := 9) (v := .pointer (some ⟨g, i, none⟩)) rfl (by kernel_rfl) (by kernel_rfl) (by kernel_rfl) (fun _ _ _ h => h) (Or.inl ⟨by rfl, by intro w hs; go_simp⟩) hHeld ?_
        refine norm_any' (fun K hK => ?_)
        go_simp
        refine hK _ _ ?_
        clear hK K
        refine wpAnyH_ready (rs := [10]) (by kernel_rfl) (by simp) (AllReadyH.cons rfl (fun K hK => ?_) AllReadyH.nil)
        go_simp
        refine hK.out _ _ HD15.out (fun hHeld => ?_)
        clear hK K
        refine norm_any' (fun K hK => ?_)
        go_simp
        refine hK _ _ ?_
        clear hK K
        refine wpAnyH_done (by kernel_rfl) ?_ _
        clear hHeld
        go_wp2
        go_roundg (nf + 1 - (i + 1))
        case measure => omega
        case rel => exact ⟨i + 1, rfl, by omega, Nat.le_refl _, HT2.out⟩
      · obtain rfl : i = nf := by omega
        have i1 : ¬ (i : Int) < (i : Int) := by omega
        have HLW : Aside (Lw w n1 n3 A1 A2 A3 gi p1 p2 RQ (l ++ [90]) wr) := HQ.out
        clear HQ hlt hk
        obtain ⟨nf, hnf⟩ : ∃ nf, p1.orig.l.length = nf := ⟨_, rfl⟩
        have HNG : Aside (p1.orig.l.length = nf) := hnf
        clear hnf
        have HNT : Aside (nf ≤ 9223372036854775807) := by show _ ≤ _; rw [← HNG.out]; exact HBY.out.2
        go_wp2
        go_loopg [13] (nf + 1) (fun kx s13 wr => ∃ i : Nat, s13 = .int .i64 (i : Int) ∧ i ≤ nf ∧ nf + 1 - i ≤ kx ∧ Aside (Lw w n1 n3 A1 A2 A3 gi p1 p2 RQ (l ++ [90]) wr))
        case atStart => exact ⟨0, rfl, by omega, by omega, HLW.out⟩
        case round =>
          obtain ⟨i, rfl, hi, hk, HQ⟩ := hrel
          clear HLW
          obtain ⟨fo, hfo⟩ : ∃ fo, p1.orig.o = fo := ⟨_, rfl⟩
          obtain ⟨fc, hfc⟩ : ∃ fc, p1.orig.c = fc := ⟨_, rfl⟩
          have d14 : wr.cell? ⟨A1, 13, none⟩ = some (.slice fo nf fc) := by rw [← hfo, ← hfc, ← HNG.out]; exact cellb HQ.out.r1 (by simp [Ps.cells])
          by_cases hlt : i < nf
          · obtain ⟨g, e1, e2, e3, e4⟩ := HQ.out.o (by rw [HNG.out]; omega)
            rw [hfo] at e1
            subst e1
            have hns := HNT.out
            have iw : IntKind.i64.wrap ((i : Int) + 1) = (i : Int) + 1 := wrn _ (by omega) (by omega)
            clear hns
            have i1 : (i : Int) < (nf : Int) := by omega
            have i0 : (0 : Int) ≤ (i : Int) := by omega
            have HT1 := fun b => HQ.out.turn e2 e3 e4 i ((b + 1) % 256)
            obtain ⟨cur, h1, h2⟩ := e4
            obtain ⟨b, hb⟩ := h2 i (by rw [HNG.out]; exact hlt)
            have q0 : wr.cell? ⟨g, i, none⟩ = some (.int .u8 b) := cellb h1 hb
            have q0d : wr.drew.cell? ⟨g, i, none⟩ = some (.int .u8 b) := q0
            have f0 : wr.frozen? ⟨g, i, none⟩ = false := by simp [World.frozen?, h1]
            have f0d : wr.drew.frozen? ⟨g, i, none⟩ = false := f0
            have HT2 : Aside (Lw w n1 n3 A1 A2 A3 gi p1 p2 RQ (l ++ [90]) (wr.setCell ⟨g, i, none⟩ (.int .u8 ((b + 1) % 256))).drew) := (HT1 b).bel (Below.refl _ _).drew
            have HD14 : Aside (wr.drew.cell? ⟨A1, 13, none⟩ = some (.slice (some ⟨g, 0, none⟩) nf fc)) := d14
            have HD15 : Aside ((wr.setCell ⟨g, i, none⟩ (.int .u8 ((b + 1) % 256))).drew.cell? ⟨A1, 13, none⟩ = some (.slice (some ⟨g, 0, none⟩) nf fc)) := by
              show _ = _
              rw [← hfo, ← hfc, ← HNG.out]
              exact cellb HT2.out.r1 (by simp [Ps.cells])
            clear h1 h2 hb HT1 HQ e2 e3 hfc
            go_wp2_with fail
            refine wp_region_held_drew (S := fun Z : World => Z.cell? ⟨A1, 13, none⟩ = some (.slice (some ⟨g, 0, none⟩) nf fc)) (by kernel_rfl) HD14.out (fun hHeld => ?_)
            refine wpAnyH_take (i := 0) (v := .pointer (some ⟨A1, 13, none⟩)) rfl (by kernel_rfl) (by kernel_rfl) (by kernel_rfl) (fun _ _ _ h => h) (Or.inl ⟨by rfl, by intro w hs; go_simp⟩) hHeld ?_
            refine norm_any' (fun K hK => ?_)
            go_simp
            refine hK _ _ ?_
            clear hK K
            refine wpAnyH_take (i := 1) (v := .slice (some ⟨g, 0, none⟩) nf fc) rfl (by kernel_rfl) (by kernel_rfl) (by kernel_rfl) (fun _ _ _ h => h) (Or.inl ⟨by rfl, by intro w s0; go_simp⟩) hHeld ?_
            refine norm_any' (fun K hK => ?_)
            go_simp
            refine hK _ _ ?_
            clear hK K
            refine wpAnyH_take (i := 2) (v := .int .i64 (i : Int)) rfl (by kernel_rfl) (by kernel_rfl) (by kernel_rfl) (fun _ _ _ h => h) (Or.inl ⟨by rfl, by intro w hs; go_simp⟩) hHeld ?_
            refine norm_any' (fun K hK => ?_)
            go_simp
            refine hK _ _ ?_
            clear hK K
            refine wpAnyH_take (i := 3) (v := .pointer (some ⟨A1, 13, none⟩)) rfl (by kernel_rfl) (by kernel_rfl) (by kernel_rfl) (fun _ _ _ h => h) (Or.inl ⟨by rfl, by intro w hs; go_simp⟩) hHeld ?_
            refine norm_any' (fun K hK => ?_)
            go_simp
            refine hK _ _ ?_
            clear hK K
            refine wpAnyH_take (i := 4) (v := .slice (some ⟨g, 0, none⟩) nf fc) rfl (by kernel_rfl) (by kernel_rfl) (by kernel_rfl) (fun _ _ _ h => h) (Or.inl ⟨by rfl, by intro w s0; go_simp⟩) hHeld ?_
            refine norm_any' (fun K hK => ?_)
            go_simp
            refine hK _ _ ?_
            clear hK K
            refine wpAnyH_take (i := 5) (v := .int .i64 (i : Int)) rfl (by kernel_rfl) (by kernel_rfl) (by kernel_rfl) (fun _ _ _ h => h) (Or.inl ⟨by rfl, by intro w hs; go_simp⟩) hHeld ?_
            refine norm_any' (fun K hK => ?_)
            go_simp
            refine hK _ _ ?_
            clear hK K
            refine wpAnyH_take (i := 6) (v := .pointer (some ⟨g, i, none⟩)) rfl (by kernel_rfl) (by kernel_rfl) (by kernel_rfl) (fun _ _ _ h => h) (Or.inl ⟨by rfl, by intro w hs; go_simp⟩) hHeld ?_
            refine norm_any' (fun K hK => ?_)
            go_simp
            refine hK _ _ ?_
            clear hK K
            refine wpAnyH_ready (rs := [7]) (by kernel_rfl) (by simp) (AllReadyH.cons rfl (fun K hK => ?_) AllReadyH.nil)
            go_simp
            refine hK.out _ _ HD14.out (fun hHeld => ?_)
            clear hK K
            refine norm_any' (fun K hK => ?_)
            go_simp
            refine hK _ _ ?_
            clear hK K
            refine wpAnyH_take (i := 8) (v := .int .u8 ((b + 1) % 256)) rfl (by kernel_rfl) (by kernel_rfl) (by kernel_rfl) (fun _ _ _ h => h) (Or.inl ⟨by rfl, by intro w hs; go_simp; exact IntKind.wrap_u8 _⟩) hHeld ?_
            refine norm_any' (fun K hK => ?_)
            go_simp
            refine hK _ _ ?_
            clear hK K
            refine wpAnyH_take (i := 9) (v := .pointer (some ⟨g, i, none⟩)) rfl (by kernel_rfl) (by kernel_rfl) (by kernel_rfl) (fun _ _ _ h => h) (Or.inl ⟨by rfl, by intro w hs; go_simp⟩) hHeld ?_
            refine norm_any' (fun K hK => ?_)
            go_simp
            refine hK _ _ ?_
            clear hK K
            refine wpAnyH_ready (rs := [10]) (by kernel_rfl) (by simp) (AllReadyH.cons rfl (fun K hK => ?_) AllReadyH.nil)
            go_simp
            refine hK.out _ _ HD15.out (fun hHeld => ?_)
            clear hK K
            refine norm_any' (fun K hK => ?_)
            go_simp
            refine hK _ _ ?_
            clear hK K
            refine wpAnyH_done (by kernel_rfl) ?_ _
            clear hHeld
            go_wp2
            go_roundg (nf + 1 - (i + 1))
            case measure => omega
            case rel => exact ⟨i + 1, rfl, by omega, Nat.le_refl _, HT2.out⟩
          · obtain rfl : i = nf := by omega
            have i1 : ¬ (i : Int) < (i : Int) := by omega
            have HLW : Aside (Lw w n1 n3 A1 A2 A3 gi p1 p2 RQ (l ++ [90]) wr) := HQ.out
            clear HQ hlt hk
            generalize wr = WE at *
            have HBE : Aside (Below w.heap.size w WE) := HLW.out.b
            have hcat : bt l ++ (⟨#[90]⟩ : ByteArray) = bt (l ++ [90]) := bt_push l
            have hsmall : ¬ 9223372036854775807 < (bt l).size + 1 := by rw [bt_size]; omega
            have heq := HEQ4.out
            have HKS : Aside (∀ X, Below WE.heap.size WE X → X.heap[A2]? = some (.cells D2 25 (0, 0)) ∧ X.heap[A3]? = some (.cells D4 34 (0, 0)) ∧ (convert 22 9 (.slice (some ⟨gi, 0, none⟩) (l.length + 1) ci)).run Tryd.prog X = .ok (.string (bt (l ++ [90]))) X ∧ (convert 22 9 (.slice o l.length c)).run Tryd.prog X = .ok (.string (bt l)) X) := fun X hX => by
              have h := HLW.out.bel hX
              refine ⟨by rw [← HC2.out]; exact h.r2, by rw [← HC4.out]; exact h.r3, ?_, str_any (Sl_below HSL.out h.b) rfl HNIL.out⟩
              have := conv_bytes h.i ci
              rw [List.length_append] at this
              exact this
            have HRF2 : Aside (∀ X, Below WE.heap.size WE X → Calls Tryd.prog 10 #[.agg D2] X fun e w' => e = .returned (.agg D4) ∧ Below X.heap.size X w') := fun X hX => by
              have := refs_c p2 X (HLW.out.bel hX).q2.pl
              rwa [HC2.out, HQQ.out.2, HC4.out] at this
            clear HLW HEQ4
            generalize bt (l ++ [90]) = SI at *
            generalize bt l = SB at *
            go_wp2_with fail
            refine wp_region_held_drew (S := fun Z : World => Z.heap[A2]? = some (.cells D2 25 (0, 0)) ∧ Z.heap[A3]? = some (.cells D4 34 (0, 0)) ∧ (convert 22 9 (.slice (some ⟨gi, 0, none⟩) (l.length + 1) ci)).run Tryd.prog Z = .ok (.string SI) Z ∧ (convert 22 9 (.slice o l.length c)).run Tryd.prog Z = .ok (.string SB) Z) (by kernel_rfl) (HKS.out _ (Below.refl _ _).drew) (fun hHeld => ?_)
            refine wpAnyH_take (i := 0) (v := .agg D2) rfl (by kernel_rfl) (by kernel_rfl) (by kernel_rfl) (fun _ _ _ h => h) (yl25 (by rfl) _ rfl A2 rfl D2 (fun X h => h.1) HI2.out) hHeld ?_
            refine norm_any' (fun K hK => ?_)
            go_simp
            refine hK _ _ ?_
            clear hK K
            refine wpAnyH_take (i := 2) (v := .agg D4) rfl (by kernel_rfl) (by kernel_rfl) (by kernel_rfl) (fun _ _ _ h => h) (yl34 (by rfl) _ rfl A3 rfl D4 (fun X h => h.2.1) HI4.out) hHeld ?_
            refine norm_any' (fun K hK => ?_)
            go_simp
            refine hK _ _ ?_
            clear hK K
            refine wpAnyH_ready (rs := [1]) (by kernel_rfl) (by simp) (AllReadyH.cons rfl (fun K hK => ?_) AllReadyH.nil)
            go_simp
            refine Calls.mono (HRF2.out _ (Below.refl _ _).drew) ?_
            rintro e w20 ⟨rfl, hb20⟩
            have HB20 : Aside (Below WE.heap.size WE w20) := bel_trans (Below.refl _ _).drew hb20
            clear hb20
            refine hK.out _ _ (HKS.out _ HB20.out) (fun hHeld => ?_)
            clear hK K
            refine norm_any' (fun K hK => ?_)
            go_simp
            refine hK _ _ ?_
            clear hK K
            refine wpAnyH_take (i := 3) (v := .bool true) rfl (by kernel_rfl) (by kernel_rfl) (by kernel_rfl) (fun _ _ _ h => h) (Or.inl ⟨by rfl, by intro w hs; go_simp⟩) hHeld ?_
            refine norm_any' (fun K hK => ?_)
            go_simp
            refine hK _ _ ?_
            clear hK K
            refine wpAnyH_take (i := 4) (v := .bool true) rfl (by kernel_rfl) (by kernel_rfl) (by kernel_rfl) (fun _ _ _ h => h) (Or.inl ⟨by rfl, by intro w hs; go_simp⟩) hHeld ?_
            refine norm_any' (fun K hK => ?_)
            go_simp
            refine hK _ _ ?_
            clear hK K
            refine wpAnyH_take (i := 5) (v := .slice (some ⟨gi, 0, none⟩) (l.length + 1) ci) rfl (by kernel_rfl) (by kernel_rfl) (by kernel_rfl) (fun _ _ _ h => h) (Or.inl ⟨by rfl, by intro w hs; go_simp⟩) hHeld ?_
            refine norm_any' (fun K hK => ?_)
            go_simp
            refine hK _ _ ?_
            clear hK K
            refine wpAnyH_take (i := 6) (v := .string SI) rfl (by kernel_rfl) (by kernel_rfl) (by kernel_rfl) (fun _ _ _ h => h) (Or.inl ⟨by rfl, by rintro w ⟨s0, s1, s2, s3⟩; go_simp⟩) hHeld ?_
            refine norm_any' (fun K hK => ?_)
            go_simp
            refine hK _ _ ?_
            clear hK K
            refine wpAnyH_take (i := 7) (v := .slice o l.length c) rfl (by kernel_rfl) (by kernel_rfl) (by kernel_rfl) (fun _ _ _ h => h) (Or.inl ⟨by rfl, by intro w hs; go_simp⟩) hHeld ?_
            refine norm_any' (fun K hK => ?_)
            go_simp
            refine hK _ _ ?_
            clear hK K
            refine wpAnyH_take (i := 8) (v := .string SB) rfl (by kernel_rfl) (by kernel_rfl) (by kernel_rfl) (fun _ _ _ h => h) (Or.inl ⟨by rfl, by rintro w ⟨s0, s1, s2, s3⟩; go_simp⟩) hHeld ?_
            refine norm_any' (fun K hK => ?_)
            go_simp
            refine hK _ _ ?_
            clear hK K
            refine wpAnyH_take (i := 9) (v := .string SI) rfl (by kernel_rfl) (by kernel_rfl) (by kernel_rfl) (fun _ _ _ h => h) (Or.inl ⟨by rfl, by intro w hs; go_simp⟩) hHeld ?_
            refine norm_any' (fun K hK => ?_)
            go_simp
            refine hK _ _ ?_
            clear hK K
            refine wpAnyH_take (i := 10) (v := .bool true) rfl (by kernel_rfl) (by kernel_rfl) (by kernel_rfl) (fun _ _ _ h => h) (Or.inl ⟨by rfl, by intro w hs; go_simp⟩) hHeld ?_
            refine norm_any' (fun K hK => ?_)
            go_simp
            refine hK _ _ ?_
            clear hK K
            refine wpAnyH_take (i := 11) (v := .bool true) rfl (by kernel_rfl) (by kernel_rfl) (by kernel_rfl) (fun _ _ _ h => h) (Or.inl ⟨by rfl, by intro w hs; go_simp⟩) hHeld ?_
            refine norm_any' (fun K hK => ?_)
            go_simp
            refine hK _ _ ?_
            clear hK K
            refine wpAnyH_take (i := 12) (v := .bool true) rfl (by kernel_rfl) (by kernel_rfl) (by kernel_rfl) (fun _ _ _ h => h) (Or.inl ⟨by rfl, by intro w hs; go_simp⟩) hHeld ?_
            refine norm_any' (fun K hK => ?_)
            go_simp
            refine hK _ _ ?_
            clear hK K
            refine wpAnyH_ready (rs := [13]) (by kernel_rfl) (by simp) (AllReadyH.cons rfl (fun K hK => ?_) AllReadyH.nil)
            go_simp
            refine (names_c _).mono ?_
            rintro e w21 ⟨rfl, hw21⟩
            subst w21
            refine hK.out _ _ (HKS.out _ HB20.out) (fun hHeld => ?_)
            clear hK K
            refine norm_any' (fun K hK => ?_)
            go_simp
            refine hK _ _ ?_
            clear hK K
            refine wpAnyH_take (i := 14) (v := .bool true) rfl (by kernel_rfl) (by kernel_rfl) (by kernel_rfl) (fun _ _ _ h => h) (Or.inl ⟨by rfl, by intro w hs; go_simp⟩) hHeld ?_
            refine norm_any' (fun K hK => ?_)
            go_simp
            refine hK _ _ ?_
            clear hK K
            refine wpAnyH_take (i := 15) (v := .bool true) rfl (by kernel_rfl) (by kernel_rfl) (by kernel_rfl) (fun _ _ _ h => h) (Or.inl ⟨by rfl, by intro w hs; go_simp⟩) hHeld ?_
            refine norm_any' (fun K hK => ?_)
            go_simp
            refine hK _ _ ?_
            clear hK K
            refine wpAnyH_done (by kernel_rfl) ?_ _
            clear hHeld
            have HEND : Aside (Below w.heap.size w w20) := bel_trans HBE.out HB20.out
            clear HKS HRF2 hcat hsmall heq HB20
            go_wp2
            go_ret
            exact ⟨rfl, HEND.out⟩
  · have hq := HERR.out hrc
    obtain rfl : rq0 = q3 := by rw [← HQ3.out, if_neg hrc]
    have k1 : (RC == 0) = false := by simpa using hrc
    have k2 : (RC != 0) = true := by simpa using hrc
    have hwr := withReset_c rq0 W7
    rw [← zQ_eq, ← show rqE = rq0.setT 2 ZS from rfl, ← hq] at hwr
    obtain ⟨D5, hD5⟩ : ∃ D5, RQ.cells.toArray = D5 := ⟨_, rfl⟩
    have HI5 : Aside ((Tryd.prog.info? 34).map (·.size) = some D5.size) := by show _ = _; rw [← hD5]; exact hi34q _
    have HZ5 : Aside (D3.size = D5.size) := by show _ = _; rw [← HC3.out, ← hD5, Rq.size, Rq.size]
    have HON5 : Aside (D5.all (·.oneCell') = true) := by show _ = _; rw [← hD5]; exact RQ.one
    have HC5 : Aside (RQ.cells.toArray = D5) := hD5
    rw [hD5] at hwr
    clear hD5 hq HERR HQ3 hrc
    have HX8 : Aside (Lw w n1 n3 A1 A2 A3 gi p1 p2 rq0 (l ++ [90]) W7 ∧ Pn n1 W7 p1) := ⟨HLW7.out, HPN1.out⟩
    clear HLW7 HPN1
    go_upto_region 8 with fail
    go_wp2_with fail
    refine hwr.mono ?_
    rintro e W8 ⟨rfl, hb8⟩
    have HB8 : Aside (Below W7.heap.size W7 W8) := hb8
    clear hwr hb8
    have HG8 : Aside (W8.heap[A3]? = some (.cells D3 34 (0, 0))) := by show _ = _; rw [← HC3.out]; exact (HX8.out.1.bel HB8.out).r3
    have HL7 : Aside (Lw w n1 n3 A1 A2 A3 gi p1 p2 RQ (l ++ [90]) (W8.setRow A3 D5) ∧ Pn n1 (W8.setRow A3 D5) p1) := by
      have h8 := HX8.out.1.bel HB8.out
      have p8 := HX8.out.2.bel HB8.out
      have ho : ∀ {k : Nat} {cs : Array Value} {t : TypeId}, W8.heap[k]? = some (.cells cs t (0, 0)) → t ≠ 34 → k ≠ A3 := fun {k cs t} hk ht34 => by
        rintro rfl
        rw [h8.r3] at hk
        injection hk with hk
        injection hk with _ hk _
        exact ht34 hk.symm
      refine ⟨?_, p8.keep fun k _ _ ⟨cur, hk⟩ => setRow_other W8 A3 k _ (ho hk (by decide))⟩
      refine ⟨(setRow_other W8 A3 _ _ (ho h8.r1 (by decide))).trans h8.r1, (setRow_other W8 A3 _ _ (ho h8.r2 (by decide))).trans h8.r2, by rw [HC5.out]; exact setRow_heap W8 _ _ _ 34 (0, 0) HG8.out, h8.q2.keep fun k _ _ ⟨cur, hk⟩ => setRow_other W8 A3 k _ (ho hk (by decide)), fun j hj => ?_, h8.gi1, h8.n, ⟨h8.b.os, h8.b.tape, h8.b.output, by simpa using h8.b.size, fun k hk => ?_⟩, ?_, ?_⟩
      · obtain ⟨b', off', e, hc'⟩ := h8.i j hj
        refine ⟨b', off', e, ?_⟩
        injection e with e
        injection e with e1 e2
        subst e1 e2
        unfold World.cell? at hc' ⊢
        rw [setRow_other W8 A3 _ _ HA3.out.2]
        exact hc'
      · exact (setRow_other W8 A3 k _ (by have := HA3.out.1; omega)).trans (h8.b.block k hk)
      · intro h0
        obtain ⟨g', e1, e2, e3, cur', k1', k2'⟩ := h8.f h0
        exact ⟨g', e1, e2, e3, cur', (setRow_other W8 A3 g' _ (ho k1' (by decide))).trans k1', k2'⟩
      · intro h0
        obtain ⟨g', e1, e2, e3, cur', k1', k2'⟩ := h8.o h0
        exact ⟨g', e1, e2, e3, cur', (setRow_other W8 A3 g' _ (ho k1' (by decide))).trans k1', k2'⟩
    clear HX8 HB8
    go_upto_region 9 with (refine wpList_store_row rfl 34 (.tmp 10) (.tmp 49) rfl A3 D5 rfl rfl 34 _ HG8.out HI5.out HZ5.out HON5.out ?_)
    clear HG8 HI5 HZ5 HON5 HC5
    generalize W8.setRow A3 D5 = WL at *
    obtain ⟨D4, hD4⟩ : ∃ D4, RQ.cells.toArray = D4 := ⟨_, rfl⟩
    have HC4 : Aside (RQ.cells.toArray = D4) := hD4
    have HI4 : Aside ((Tryd.prog.info? 34).map (·.size) = some D4.size) := by show _ = _; rw [← hD4]; exact hi34q _
    have hneq : ∀ X, (binOp .neq 34 (.agg D4) (.agg D4)).run Tryd.prog X = .ok (.bool false) X := fun X => by rw [← hD4]; exact neq34s RQ X
    have HEQ4 : Aside (∀ X, (binOp .eql 34 (.agg D4) (.agg D4)).run Tryd.prog X = .ok (.bool true) X) := fun X => by rw [← hD4]; exact eq34s RQ X
    clear hD4
    have HKR : Aside (∀ X, Below WL.heap.size WL X → X.heap[A1]? = some (.cells D1 25 (0, 0)) ∧ X.heap[A3]? = some (.cells D4 34 (0, 0))) := fun X hX => ⟨by rw [← HC1.out]; exact (HL7.out.1.bel hX).r1, by rw [← HC4.out]; exact (HL7.out.1.bel hX).r3⟩
    have HRF1 : Aside (∀ X, Below WL.heap.size WL X → Calls Tryd.prog 10 #[.agg D1] X fun e w' => e = .returned (.agg D4) ∧ Below X.heap.size X w') := fun X hX => by
      have := refs_c p1 X (HL7.out.2.bel hX).pl
      rwa [HC1.out, HQQ.out.1, HC4.out] at this
    refine wp_region_held_drew (S := fun Z : World => Z.heap[A1]? = some (.cells D1 25 (0, 0)) ∧ Z.heap[A3]? = some (.cells D4 34 (0, 0))) (by kernel_rfl) (HKR.out _ (Below.refl _ _).drew) (fun hHeld => ?_)
    refine wpAnyH_take (i := 0) (v := .agg D1) rfl (by kernel_rfl) (by kernel_rfl) (by kernel_rfl) (fun _ _ _ h => h) (yl25 (by rfl) _ rfl A1 rfl D1 (fun X h => h.1) HI1.out) hHeld ?_
    refine norm_any' (fun K hK => ?_)
    go_simp
    refine hK _ _ ?_
    clear hK K
    refine wpAnyH_take (i := 2) (v := .agg D4) rfl (by kernel_rfl) (by kernel_rfl) (by kernel_rfl) (fun _ _ _ h => h) (yl34 (by rfl) _ rfl A3 rfl D4 (fun X h => h.2) HI4.out) hHeld ?_
    refine norm_any' (fun K hK => ?_)
    go_simp
    refine hK _ _ ?_
    clear hK K
    refine wpAnyH_ready (rs := [1]) (by kernel_rfl) (by simp) (AllReadyH.cons rfl (fun K hK => ?_) AllReadyH.nil)
    go_simp
    refine Calls.mono (HRF1.out _ (Below.refl _ _).drew) ?_
    rintro e w10 ⟨rfl, hb10⟩
    have HB10 : Aside (Below WL.heap.size WL w10) := bel_trans (Below.refl _ _).drew hb10
    clear hb10
    refine hK.out _ _ (HKR.out _ HB10.out) (fun hHeld => ?_)
    clear hK K
    refine norm_any' (fun K hK => ?_)
    go_simp
    refine hK _ _ ?_
    clear hK K
    refine wpAnyH_take (i := 3) (v := .bool false) rfl (by kernel_rfl) (by kernel_rfl) (by kernel_rfl) (fun _ _ _ h => h) (Or.inl ⟨by rfl, by intro w hs; go_simp⟩) hHeld ?_
    refine norm_any' (fun K hK => ?_)
    go_simp
    refine hK _ _ ?_
    clear hK K
    refine wpAnyH_done (by kernel_rfl) ?_ _
    clear hHeld
    have HLW : Aside (Lw w n1 n3 A1 A2 A3 gi p1 p2 RQ (l ++ [90]) w10) := HL7.out.1.bel HB10.out
    clear HL7 HB10 HKR HRF1 hneq
    generalize w10 = wA at *
    obtain ⟨nf, hnf⟩ : ∃ nf, p1.first.l.length = nf := ⟨_, rfl⟩
    have HNF : Aside (p1.first.l.length = nf) := hnf
    clear hnf
    have HNS : Aside (nf ≤ 9223372036854775807) := by show _ ≤ _; rw [← HNF.out]; exact HBY.out.1
    go_wp2
    go_loopg [12] (nf + 1) (fun kx s12 wr => ∃ i : Nat, s12 = .int .i64 (i : Int) ∧ i ≤ nf ∧ nf + 1 - i ≤ kx ∧ Aside (Lw w n1 n3 A1 A2 A3 gi p1 p2 RQ (l ++ [90]) wr))
    case atStart => exact ⟨0, rfl, by omega, by omega, HLW.out⟩
    case round =>
      obtain ⟨i, rfl, hi, hk, HQ⟩ := hrel
      clear HLW
      obtain ⟨fo, hfo⟩ : ∃ fo, p1.first.o = fo := ⟨_, rfl⟩
      obtain ⟨fc, hfc⟩ : ∃ fc, p1.first.c = fc := ⟨_, rfl⟩
      have d14 : wr.cell? ⟨A1, 14, none⟩ = some (.slice fo nf fc) := by rw [← hfo, ← hfc, ← HNF.out]; exact cellb HQ.out.r1 (by simp [Ps.cells])
      by_cases hlt : i < nf
      · obtain ⟨g, e1, e2, e3, e4⟩ := HQ.out.f (by rw [HNF.out]; omega)
        rw [hfo] at e1
        subst e1
        have hns := HNS.out
        have iw : IntKind.i64.wrap ((i : Int) + 1) = (i : Int) + 1 := wrn _ (by omega) (by omega)
        clear hns
        have i1 : (i : Int) < (nf : Int) := by omega
        have i0 : (0 : Int) ≤ (i : Int) := by omega
        have HT1 := fun b => HQ.out.turn e2 e3 e4 i ((b + 1) % 256)
        obtain ⟨cur, h1, h2⟩ := e4
        obtain ⟨b, hb⟩ := h2 i (by rw [HNF.out]; exact hlt)
        have q0 : wr.cell? ⟨g, i, none⟩ = some (.int .u8 b) := cellb h1 hb
        have q0d : wr.drew.cell? ⟨g, i, none⟩ = some (.int .u8 b) := q0
        have f0 : wr.frozen? ⟨g, i, none⟩ = false := by simp [World.frozen?, h1]
        have f0d : wr.drew.frozen? ⟨g, i, none⟩ = false := f0
        have HT2 : Aside (Lw w n1 n3 A1 A2 A3 gi p1 p2 RQ (l ++ [90]) (wr.setCell ⟨g, i, none⟩ (.int .u8 ((b + 1) % 256))).drew) := (HT1 b).bel (Below.refl _ _).drew
        have HD14 : Aside (wr.drew.cell? ⟨A1, 14, none⟩ = some (.slice (some ⟨g, 0, none⟩) nf fc)) := d14
        have HD15 : Aside ((wr.setCell ⟨g, i, none⟩ (.int .u8 ((b + 1) % 256))).drew.cell? ⟨A1, 14, none⟩ = some (.slice (some ⟨g, 0, none⟩) nf fc)) := by
          show _ = _
          rw [← hfo, ← hfc, ← HNF.out]
          exact cellb HT2.out.r1 (by simp [Ps.cells])
        clear h1 h2 hb HT1 HQ e2 e3 hfc
        go_wp2_with fail
        refine wp_region_held_drew (S := fun Z : World => Z.cell? ⟨A1, 14, none⟩ = some (.slice (some ⟨g, 0, none⟩) nf fc)) (by kernel_rfl) HD14.out (fun hHeld => ?_)
        refine wpAnyH_take (i := 0) (v := .pointer (some ⟨A1, 14, none⟩)) rfl (by kernel_rfl) (by kernel_rfl) (by kernel_rfl) (fun _ _ _ h => h) (Or.inl ⟨by rfl, by intro w hs; go_simp⟩) hHeld ?_
        refine norm_any' (fun K hK => ?_)
        go_simp
        refine hK _ _ ?_
        clear hK K
        refine wpAnyH_take (i := 1) (v := .slice (some ⟨g, 0, none⟩) nf fc) rfl (by kernel_rfl) (by kernel_rfl) (by kernel_rfl) (fun _ _ _ h => h) (Or.inl ⟨by rfl, by intro w s0; go_simp⟩) hHeld ?_
        refine norm_any' (fun K hK => ?_)
        go_simp
        refine hK _ _ ?_
        clear hK K
        refine wpAnyH_take (i := 2) (v := .int .i64 (i : Int)) rfl (by kernel_rfl) (by kernel_rfl) (by kernel_rfl) (fun _ _ _ h => h) (Or.inl ⟨by rfl, by intro w hs; go_simp⟩) hHeld ?_
        refine norm_any' (fun K hK => ?_)
        go_simp
        refine hK _ _ ?_
        clear hK K
        refine wpAnyH_take (i := 3) (v := .pointer (some ⟨A1, 14, none⟩)) rfl (by kernel_rfl) (by kernel_rfl) (by kernel_rfl) (fun _ _ _ h => h) (Or.inl ⟨by rfl, by intro w hs; go_simp⟩) hHeld ?_
        refine norm_any' (fun K hK => ?_)
        go_simp
        refine hK _ _ ?_
        clear hK K
        refine wpAnyH_take (i := 4) (v := .slice (some ⟨g, 0, none⟩) nf fc) rfl (by kernel_rfl) (by kernel_rfl) (by kernel_rfl) (fun _ _ _ h => h) (Or.inl ⟨by rfl, by intro w s0; go_simp⟩) hHeld ?_
        refine norm_any' (fun K hK => ?_)
        go_simp
        refine hK _ _ ?_
        clear hK K
        refine wpAnyH_take (i := 5) (v := .int .i64 (i : Int)) rfl (by kernel_rfl) (by kernel_rfl) (by kernel_rfl) (fun _ _ _ h => h) (Or.inl ⟨by rfl, by intro w hs; go_simp⟩) hHeld ?_
        refine norm_any' (fun K hK => ?_)
        go_simp
        refine hK _ _ ?_
        clear hK K
        refine wpAnyH_take (i := 6) (v := .pointer (some ⟨g, i, none⟩)) rfl (by kernel_rfl) (by kernel_rfl) (by kernel_rfl) (fun _ _ _ h => h) (Or.inl ⟨by rfl, by intro w hs; go_simp⟩) hHeld ?_
        refine norm_any' (fun K hK => ?_)
        go_simp
        refine hK _ _ ?_
        clear hK K
        refine wpAnyH_ready (rs := [7]) (by kernel_rfl) (by simp) (AllReadyH.cons rfl (fun K hK => ?_) AllReadyH.nil)
        go_simp
        refine hK.out _ _ HD14.out (fun hHeld => ?_)
        clear hK K
        refine norm_any' (fun K hK => ?_)
        go_simp
        refine hK _ _ ?_
        clear hK K
        refine wpAnyH_take (i := 8) (v := .int .u8 ((b + 1) % 256)) rfl (by kernel_rfl) (by kernel_rfl) (by kernel_rfl) (fun _ _ _ h => h) (Or.inl ⟨by rfl, by intro w hs; go_simp; exact IntKind.wrap_u8 _⟩) hHeld ?_
        refine norm_any' (fun K hK => ?_)
        go_simp
        refine hK _ _ ?_
        clear hK K
        refine wpAnyH_take (i := 9) (v := .pointer (some ⟨g, i, none⟩)) rfl (by kernel_rfl) (by kernel_rfl) (by kernel_rfl) (fun _ _ _ h => h) (Or.inl ⟨by rfl, by intro w hs; go_simp⟩) hHeld ?_
        refine norm_any' (fun K hK => ?_)
        go_simp
        refine hK _ _ ?_
        clear hK K
        refine wpAnyH_ready (rs := [10]) (by kernel_rfl) (by simp) (AllReadyH.cons rfl (fun K hK => ?_) AllReadyH.nil)
        go_simp
        refine hK.out _ _ HD15.out (fun hHeld => ?_)
        clear hK K
        refine norm_any' (fun K hK => ?_)
        go_simp
        refine hK _ _ ?_
        clear hK K
        refine wpAnyH_done (by kernel_rfl) ?_ _
        clear hHeld
        go_wp2
        go_roundg (nf + 1 - (i + 1))
        case measure => omega
        case rel => exact ⟨i + 1, rfl, by omega, Nat.le_refl _, HT2.out⟩
      · obtain rfl : i = nf := by omega
        have i1 : ¬ (i : Int) < (i : Int) := by omega
        have HLW : Aside (Lw w n1 n3 A1 A2 A3 gi p1 p2 RQ (l ++ [90]) wr) := HQ.out
        clear HQ hlt hk
        obtain ⟨nf, hnf⟩ : ∃ nf, p1.orig.l.length = nf := ⟨_, rfl⟩
        have HNG : Aside (p1.orig.l.length = nf) := hnf
        clear hnf
        have HNT : Aside (nf ≤ 9223372036854775807) := by show _ ≤ _; rw [← HNG.out]; exact HBY.out.2
        go_wp2
        go_loopg [13] (nf + 1) (fun kx s13 wr => ∃ i : Nat, s13 = .int .i64 (i : Int) ∧ i ≤ nf ∧ nf + 1 - i ≤ kx ∧ Aside (Lw w n1 n3 A1 A2 A3 gi p1 p2 RQ (l ++ [90]) wr))
        case atStart => exact ⟨0, rfl, by omega, by omega, HLW.out⟩
        case round =>
          obtain ⟨i, rfl, hi, hk, HQ⟩ := hrel
          clear HLW
          obtain ⟨fo, hfo⟩ : ∃ fo, p1.orig.o = fo := ⟨_, rfl⟩
          obtain ⟨fc, hfc⟩ : ∃ fc, p1.orig.c = fc := ⟨_, rfl⟩
          have d14 : wr.cell? ⟨A1, 13, none⟩ = some (.slice fo nf fc) := by rw [← hfo, ← hfc, ← HNG.out]; exact cellb HQ.out.r1 (by simp [Ps.cells])
          by_cases hlt : i < nf
          · obtain ⟨g, e1, e2, e3, e4⟩ := HQ.out.o (by rw [HNG.out]; omega)
            rw [hfo] at e1
            subst e1
            have hns := HNT.out
            have iw : IntKind.i64.wrap ((i : Int) + 1) = (i : Int) + 1 := wrn _ (by omega) (by omega)
            clear hns
            have i1 : (i : Int) < (nf : Int) := by omega
            have i0 : (0 : Int) ≤ (i : Int) := by omega
            have HT1 := fun b => HQ.out.turn e2 e3 e4 i ((b + 1) % 256)
            obtain ⟨cur, h1, h2⟩ := e4
            obtain ⟨b, hb⟩ := h2 i (by rw [HNG.out]; exact hlt)
            have q0 : wr.cell? ⟨g, i, none⟩ = some (.int .u8 b) := cellb h1 hb
            have q0d : wr.drew.cell? ⟨g, i, none⟩ = some (.int .u8 b) := q0
            have f0 : wr.frozen? ⟨g, i, none⟩ = false := by simp [World.frozen?, h1]
            have f0d : wr.drew.frozen? ⟨g, i, none⟩ = false := f0
            have HT2 : Aside (Lw w n1 n3 A1 A2 A3 gi p1 p2 RQ (l ++ [90]) (wr.setCell ⟨g, i, none⟩ (.int .u8 ((b + 1) % 256))).drew) := (HT1 b).bel (Below.refl _ _).drew
            have HD14 : Aside (wr.drew.cell? ⟨A1, 13, none⟩ = some (.slice (some ⟨g, 0, none⟩) nf fc)) := d14
            have HD15 : Aside ((wr.setCell ⟨g, i, none⟩ (.int .u8 ((b + 1) % 256))).drew.cell? ⟨A1, 13, none⟩ = some (.slice (some ⟨g, 0, none⟩) nf fc)) := by
              show _ = _
              rw [← hfo, ← hfc, ← HNG.out]
              exact cellb HT2.out.r1 (by simp [Ps.cells])
            clear h1 h2 hb HT1 HQ e2 e3 hfc
            go_wp2_with fail
            refine wp_region_held_drew (S := fun Z : World => Z.cell? ⟨A1, 13, none⟩ = some (.slice (some ⟨g, 0, none⟩) nf fc)) (by kernel_rfl) HD14.out (fun hHeld => ?_)
            refine wpAnyH_take (i := 0) (v := .pointer (some ⟨A1, 13, none⟩)) rfl (by kernel_rfl) (by kernel_rfl) (by kernel_rfl) (fun _ _ _ h => h) (Or.inl ⟨by rfl, by intro w hs; go_simp⟩) hHeld ?_
            refine norm_any' (fun K hK => ?_)
            go_simp
            refine hK _ _ ?_
            clear hK K
            refine wpAnyH_take (i := 1) (v := .slice (some ⟨g, 0, none⟩) nf fc) rfl (by kernel_rfl) (by kernel_rfl) (by kernel_rfl) (fun _ _ _ h => h) (Or.inl ⟨by rfl, by intro w s0; go_simp⟩) hHeld ?_
            refine norm_any' (fun K hK => ?_)
            go_simp
            refine hK _ _ ?_
            clear hK K
            refine wpAnyH_take (i := 2) (v := .int .i64 (i : Int)) rfl (by kernel_rfl) (by kernel_rfl) (by kernel_rfl) (fun _ _ _ h => h) (Or.inl ⟨by rfl, by intro w hs; go_simp⟩) hHeld ?_
            refine norm_any' (fun K hK => ?_)
            go_simp
            refine hK _ _ ?_
            clear hK K
            refine wpAnyH_take (i := 3) (v := .pointer (some ⟨A1, 13, none⟩)) rfl (by kernel_rfl) (by kernel_rfl) (by kernel_rfl) (fun _ _ _ h => h) (Or.inl ⟨by rfl, by intro w hs; go_simp⟩) hHeld ?_
            refine norm_any' (fun K hK => ?_)
            go_simp
            refine hK _ _ ?_
            clear hK K
            refine wpAnyH_take (i := 4) (v := .slice (some ⟨g, 0, none⟩) nf fc) rfl (by kernel_rfl) (by kernel_rfl) (by kernel_rfl) (fun _ _ _ h => h) (Or.inl ⟨by rfl, by intro w s0; go_simp⟩) hHeld ?_
            refine norm_any' (fun K hK => ?_)
            go_simp
            refine hK _ _ ?_
            clear hK K
            refine wpAnyH_take (i := 5) (v := .int .i64 (i : Int)) rfl (by kernel_rfl) (by kernel_rfl) (by kernel_rfl) (fun _ _ _ h => h) (Or.inl ⟨by rfl, by intro w hs; go_simp⟩) hHeld ?_
            refine norm_any' (fun K hK => ?_)
            go_simp
            refine hK _ _ ?_
            clear hK K
            refine wpAnyH_take (i := 6) (v := .pointer (some ⟨g, i, none⟩)) rfl (by kernel_rfl) (by kernel_rfl) (by kernel_rfl) (fun _ _ _ h => h) (Or.inl ⟨by rfl, by intro w hs; go_simp⟩) hHeld ?_
            refine norm_any' (fun K hK => ?_)
            go_simp
            refine hK _ _ ?_
            clear hK K
            refine wpAnyH_ready (rs := [7]) (by kernel_rfl) (by simp) (AllReadyH.cons rfl (fun K hK => ?_) AllReadyH.nil)
            go_simp
            refine hK.out _ _ HD14.out (fun hHeld => ?_)
            clear hK K
            refine norm_any' (fun K hK => ?_)
            go_simp
            refine hK _ _ ?_
            clear hK K
            refine wpAnyH_take (i := 8) (v := .int .u8 ((b + 1) % 256)) rfl (by kernel_rfl) (by kernel_rfl) (by kernel_rfl) (fun _ _ _ h => h) (Or.inl ⟨by rfl, by intro w hs; go_simp; exact IntKind.wrap_u8 _⟩) hHeld ?_
            refine norm_any' (fun K hK => ?_)
            go_simp
            refine hK _ _ ?_
            clear hK K
            refine wpAnyH_take (i := 9) (v := .pointer (some ⟨g, i, none⟩)) rfl (by kernel_rfl) (by kernel_rfl) (by kernel_rfl) (fun _ _ _ h => h) (Or.inl ⟨by rfl, by intro w hs; go_simp⟩) hHeld ?_
            refine norm_any' (fun K hK => ?_)
            go_simp
            refine hK _ _ ?_
            clear hK K
            refine wpAnyH_ready (rs := [10]) (by kernel_rfl) (by simp) (AllReadyH.cons rfl (fun K hK => ?_) AllReadyH.nil)
            go_simp
            refine hK.out _ _ HD15.out (fun hHeld => ?_)
            clear hK K
            refine norm_any' (fun K hK => ?_)
            go_simp
            refine hK _ _ ?_
            clear hK K
            refine wpAnyH_done (by kernel_rfl) ?_ _
            clear hHeld
            go_wp2
            go_roundg (nf + 1 - (i + 1))
            case measure => omega
            case rel => exact ⟨i + 1, rfl, by omega, Nat.le_refl _, HT2.out⟩
          · obtain rfl : i = nf := by omega
            have i1 : ¬ (i : Int) < (i : Int) := by omega
            have HLW : Aside (Lw w n1 n3 A1 A2 A3 gi p1 p2 RQ (l ++ [90]) wr) := HQ.out
            clear HQ hlt hk
            generalize wr = WE at *
            have HBE : Aside (Below w.heap.size w WE) := HLW.out.b
            have hcat : bt l ++ (⟨#[90]⟩ : ByteArray) = bt (l ++ [90]) := bt_push l
            have hsmall : ¬ 9223372036854775807 < (bt l).size + 1 := by rw [bt_size]; omega
            have heq := HEQ4.out
            have HKS : Aside (∀ X, Below WE.heap.size WE X → X.heap[A2]? = some (.cells D2 25 (0, 0)) ∧ X.heap[A3]? = some (.cells D4 34 (0, 0)) ∧ (convert 22 9 (.slice (some ⟨gi, 0, none⟩) (l.length + 1) ci)).run Tryd.prog X = .ok (.string (bt (l ++ [90]))) X ∧ (convert 22 9 (.slice o l.length c)).run Tryd.prog X = .ok (.string (bt l)) X) := fun X hX => by
              have h := HLW.out.bel hX
              refine ⟨by rw [← HC2.out]; exact h.r2, by rw [← HC4.out]; exact h.r3, ?_, str_any (Sl_below HSL.out h.b) rfl HNIL.out⟩
              have := conv_bytes h.i ci
              rw [List.length_append] at this
              exact this
            have HRF2 : Aside (∀ X, Below WE.heap.size WE X → Calls Tryd.prog 10 #[.agg D2] X fun e w' => e = .returned (.agg D4) ∧ Below X.heap.size X w') := fun X hX => by
              have := refs_c p2 X (HLW.out.bel hX).q2.pl
              rwa [HC2.out, HQQ.out.2, HC4.out] at this
            clear HLW HEQ4
            generalize bt (l ++ [90]) = SI at *
            generalize bt l = SB at *
            go_wp2_with fail
            refine wp_region_held_drew (S := fun Z : World => Z.heap[A2]? = some (.cells D2 25 (0, 0)) ∧ Z.heap[A3]? = some (.cells D4 34 (0, 0)) ∧ (convert 22 9 (.slice (some ⟨gi, 0, none⟩) (l.length + 1) ci)).run Tryd.prog Z = .ok (.string SI) Z ∧ (convert 22 9 (.slice o l.length c)).run Tryd.prog Z = .ok (.string SB) Z) (by kernel_rfl) (HKS.out _ (Below.refl _ _).drew) (fun hHeld => ?_)
            refine wpAnyH_take (i := 0) (v := .agg D2) rfl (by kernel_rfl) (by kernel_rfl) (by kernel_rfl) (fun _ _ _ h => h) (yl25 (by rfl) _ rfl A2 rfl D2 (fun X h => h.1) HI2.out) hHeld ?_
            refine norm_any' (fun K hK => ?_)
            go_simp
            refine hK _ _ ?_
            clear hK K
            refine wpAnyH_take (i := 2) (v := .agg D4) rfl (by kernel_rfl) (by kernel_rfl) (by kernel_rfl) (fun _ _ _ h => h) (yl34 (by rfl) _ rfl A3 rfl D4 (fun X h => h.2.1) HI4.out) hHeld ?_
            refine norm_any' (fun K hK => ?_)
            go_simp
            refine hK _ _ ?_
            clear hK K
            refine wpAnyH_ready (rs := [1]) (by kernel_rfl) (by simp) (AllReadyH.cons rfl (fun K hK => ?_) AllReadyH.nil)
            go_simp
            refine Calls.mono (HRF2.out _ (Below.refl _ _).drew) ?_
            rintro e w20 ⟨rfl, hb20⟩
            have HB20 : Aside (Below WE.heap.size WE w20) := bel_trans (Below.refl _ _).drew hb20
            clear hb20
            refine hK.out _ _ (HKS.out _ HB20.out) (fun hHeld => ?_)
            clear hK K
            refine norm_any' (fun K hK => ?_)
            go_simp
            refine hK _ _ ?_
            clear hK K
            refine wpAnyH_take (i := 3) (v := .bool true) rfl (by kernel_rfl) (by kernel_rfl) (by kernel_rfl) (fun _ _ _ h => h) (Or.inl ⟨by rfl, by intro w hs; go_simp⟩) hHeld ?_
            refine norm_any' (fun K hK => ?_)
            go_simp
            refine hK _ _ ?_
            clear hK K
            refine wpAnyH_take (i := 4) (v := .bool true) rfl (by kernel_rfl) (by kernel_rfl) (by kernel_rfl) (fun _ _ _ h => h) (Or.inl ⟨by rfl, by intro w hs; go_simp⟩) hHeld ?_
            refine norm_any' (fun K hK => ?_)
            go_simp
            refine hK _ _ ?_
            clear hK K
            refine wpAnyH_take (i := 5) (v := .slice (some ⟨gi, 0, none⟩) (l.length + 1) ci) rfl (by kernel_rfl) (by kernel_rfl) (by kernel_rfl) (fun _ _ _ h => h) (Or.inl ⟨by rfl, by intro w hs; go_simp⟩) hHeld ?_
            refine norm_any' (fun K hK => ?_)
            go_simp
            refine hK _ _ ?_
            clear hK K
            refine wpAnyH_take (i := 6) (v := .string SI) rfl (by kernel_rfl) (by kernel_rfl) (by kernel_rfl) (fun _ _ _ h => h) (Or.inl ⟨by rfl, by rintro w ⟨s0, s1, s2, s3⟩; go_simp⟩) hHeld ?_
            refine norm_any' (fun K hK => ?_)
            go_simp
            refine hK _ _ ?_
            clear hK K
            refine wpAnyH_take (i := 7) (v := .slice o l.length c) rfl (by kernel_rfl) (by kernel_rfl) (by kernel_rfl) (fun _ _ _ h => h) (Or.inl ⟨by rfl, by intro w hs; go_simp⟩) hHeld ?_
            refine norm_any' (fun K hK => ?_)
            go_simp
            refine hK _ _ ?_
            clear hK K
            refine wpAnyH_take (i := 8) (v := .string SB) rfl (by kernel_rfl) (by kernel_rfl) (by kernel_rfl) (fun _ _ _ h => h) (Or.inl ⟨by rfl, by rintro w ⟨s0, s1, s2, s3⟩; go_simp⟩) hHeld ?_
            refine norm_any' (fun K hK => ?_)
            go_simp
            refine hK _ _ ?_
            clear hK K
            refine wpAnyH_take (i := 9) (v := .string SI) rfl (by kernel_rfl) (by kernel_rfl) (by kernel_rfl) (fun _ _ _ h => h) (Or.inl ⟨by rfl, by intro w hs; go_simp⟩) hHeld ?_
            refine norm_any' (fun K hK => ?_)
            go_simp
            refine hK _ _ ?_
            clear hK K
            refine wpAnyH_take (i := 10) (v := .bool true) rfl (by kernel_rfl) (by kernel_rfl) (by kernel_rfl) (fun _ _ _ h => h) (Or.inl ⟨by rfl, by intro w hs; go_simp⟩) hHeld ?_
            refine norm_any' (fun K hK => ?_)
            go_simp
            refine hK _ _ ?_
            clear hK K
            refine wpAnyH_take (i := 11) (v := .bool true) rfl (by kernel_rfl) (by kernel_rfl) (by kernel_rfl) (fun _ _ _ h => h) (Or.inl ⟨by rfl, by intro w hs; go_simp⟩) hHeld ?_
            refine norm_any' (fun K hK => ?_)
            go_simp
            refine hK _ _ ?_
            clear hK K
            refine wpAnyH_take (i := 12) (v := .bool true) rfl (by kernel_rfl) (by kernel_rfl) (by kernel_rfl) (fun _ _ _ h => h) (Or.inl ⟨by rfl, by intro w hs; go_simp⟩) hHeld ?_
            refine norm_any' (fun K hK => ?_)
            go_simp
            refine hK _ _ ?_
            clear hK K
            refine wpAnyH_ready (rs := [13]) (by kernel_rfl) (by simp) (AllReadyH.cons rfl (fun K hK => ?_) AllReadyH.nil)
            go_simp
            refine (names_c _).mono ?_
            rintro e w21 ⟨rfl, hw21⟩
            subst w21
            refine hK.out _ _ (HKS.out _ HB20.out) (fun hHeld => ?_)
            clear hK K
            refine norm_any' (fun K hK => ?_)
            go_simp
            refine hK _ _ ?_
            clear hK K
            refine wpAnyH_take (i := 14) (v := .bool true) rfl (by kernel_rfl) (by kernel_rfl) (by kernel_rfl) (fun _ _ _ h => h) (Or.inl ⟨by rfl, by intro w hs; go_simp⟩) hHeld ?_
            refine norm_any' (fun K hK => ?_)
            go_simp
            refine hK _ _ ?_
            clear hK K
            refine wpAnyH_take (i := 15) (v := .bool true) rfl (by kernel_rfl) (by kernel_rfl) (by kernel_rfl) (fun _ _ _ h => h) (Or.inl ⟨by rfl, by intro w hs; go_simp⟩) hHeld ?_
            refine norm_any' (fun K hK => ?_)
            go_simp
            refine hK _ _ ?_
            clear hK K
            refine wpAnyH_done (by kernel_rfl) ?_ _
            clear hHeld
            have HEND : Aside (Below w.heap.size w w20) := bel_trans HBE.out HB20.out
            clear HKS HRF2 hcat hsmall heq HB20
            go_wp2
            go_ret
            exact ⟨rfl, HEND.out⟩
end Go.Proofs.YtcppnellgkbndaaDoor
