/- protect: what is given no vault. -/
import Derived.Test.YtdklkofnekacdaaGreatDoorNob
import Derived.Test.YtdklkofnekacdaaGreatDoorAs
import Derived.Deep.MidRow
namespace Go.Proofs.YtdklkofnekacdaaGreatDoor
open Go.RowKit
set_option linter.unusedVariables false

def zk : List Value := List.replicate 48 (.int .u8 0)
theorem z38 (w : World) : (zeroValue 38).run Tryz.prog w = .ok (.agg zk.toArray) w := by kernel_rfl
theorem u38 : Tryz.prog.underlying 38 = some (.struct (Tryz.prog.fieldsOf 38)) := by kernel_rfl
theorem i38 : (Tryz.prog.info? 38).map (·.size) = some 48 := by kernel_rfl
theorem zk_1 : zk.toArray.all (·.oneCell') = true := by kernel_rfl
theorem eqz_t (w : World) : (Op.equalIn 10000 36 (.agg (hl z16).toArray) (.agg #[.int .u8 0, .int .u8 0, .int .u8 0, .int .u8 0, .int .u8 0, .int .u8 0, .int .u8 0, .int .u8 0, .int .u8 0, .int .u8 0, .int .u8 0, .int .u8 0, .int .u8 0, .int .u8 0, .int .u8 0, .int .u8 0])).run Tryz.prog w = .ok true w := by
  have := equalIn_h 36 hu28 9998 z16 z16 rfl rfl w
  exact this
set_option maxRecDepth 10000 in
theorem pnone_c (p : Option Addr) (w : World) (h : No w p) : Calls Tryz.prog 56 #[.pointer p] w fun e w' => e = .returned (.bool true) ∧ Below w.heap.size w w' := by
  have HR : Hid _ := no_root p w h
  clear h
  go_enter Tryz.func56, Tryz.ntmps56
  go_wp2_with fail
  refine Calls.mono HR.out ?_
  rintro e W2 ⟨rfl, hb2⟩
  have HB2 : Hid _ := hb2
  have q2 := eqz_t
  clear hb2
  go_wp2_with fail
  go_ret
  exact ⟨rfl, HB2.out⟩
set_option maxRecDepth 10000 in
theorem noneOf_c (p : Option Addr) (A : Array Value) (w : World) (h : No w p) : Calls Tryz.prog 34 #[.pointer p, .agg A] w fun e w' => e = .returned (.bool true) ∧ Below w.heap.size w w' := by
  have HB : Hid (Below w.heap.size w (w.alloc (.cells A 38))) := bel1 w _
  have HR : Hid _ := pnone_c p (w.alloc (.cells A 38)) (h.bel HB.out)
  clear h
  go_enter Tryz.func34, Tryz.ntmps34
  go_wp2_with fail
  refine Calls.mono HR.out ?_
  rintro e W2 ⟨rfl, hb2⟩
  have HB2 : Hid (Below w.heap.size w W2) := bel_trans HB.out hb2
  clear hb2 HB HR
  go_wp2_with fail
  go_ret
  exact ⟨rfl, HB2.out⟩
/-- Results: keys in a cell, and an error. -/
theorem res_k {fn : Func} {p u : Tmp} (h : fn.results = #[.cell p 38, .tmp u]) (tmps : Array Value) (w : World) (g : Nat) (Z : List Value) (hp : tmps.getD p undef = .pointer (some ⟨g, 0, none⟩))
    (hg : w.heap[g]? = some (.cells Z.toArray 38 (0, 0))) (hs : Z.length = 48) : (results fn tmps).run Tryz.prog w = .ok (.tuple #[.agg Z.toArray, tmps.getD u undef]) w := by
  rw [results_cell_tmp h, hp]
  simp only [asAddr, Sem.run_pure, Result.andThen_ok, run_loadVar_row w g 38 38 _ (0, 0) _ hg u38 rfl (i38.trans (by simp [hs]))]
set_option maxRecDepth 100000 in
theorem initial_no (p : Option Addr) (bv : Value) (x : Bool) (w : World) (h : No w p) : Calls Tryz.prog 22 #[.pointer p, bv, .bool x] w fun e w' => e = .returned (.tuple #[.agg zk.toArray, .int .i64 1]) ∧ Below w.heap.size w w' := by
  have q := z38
  have hz : zk.length = 48 := rfl
  have hzn : ¬ zk = [] := fun h => by rw [h] at hz; cases hz
  have HZ1 : Hid _ := zk_1
  generalize zk = Z at *
  have HB : Hid (Below w.heap.size w (w.alloc (.cells Z.toArray 38))) := bel1 w _
  have HG : Hid _ := heap_alloc_new w (.cells Z.toArray 38)
  have HR : Hid _ := pnone_c p (w.alloc (.cells Z.toArray 38)) (h.bel HB.out)
  clear h
  go_enter Tryz.func22, Tryz.ntmps22
  go_wp2_with fail
  refine Calls.mono HR.out ?_
  rintro e W2 ⟨rfl, hb2⟩
  have HB2 : Hid (Below w.heap.size w W2) := bel_trans HB.out hb2
  have HG2 : Hid (W2.heap[w.heap.size]? = some (.cells Z.toArray 38 (0, 0))) := heap_bel HG.out hb2
  clear hb2 HB HR HG
  as_aux_lemma =>
  go_wp2_with (refine wpList_store_row rfl 38 (.tmp 6) (.tmp 16) rfl w.heap.size Z.toArray rfl rfl 38 _ HG2.out (i38.trans (by simp [hz])) rfl HZ1.out (Hid.out ?_))
  have HG3 : Hid _ := setRow_heap W2 w.heap.size _ Z.toArray 38 (0, 0) HG2.out
  have HB3 : Hid _ := bel_set HB2.out (Nat.le_refl _) Z.toArray
  refine mkHid ?_
  go_wp2_with fail
  refine bodyPost_ret (v := .tuple #[.agg Z.toArray, .int .i64 1]) (res_k (fn := Tryz.f22) (p := 6) (u := 7) rfl _ _ w.heap.size Z rfl HG3.out hz) rfl ?_
  exact ⟨rfl, HB3.out⟩
set_option maxRecDepth 100000 in
theorem make_no (p : Option Addr) (H : List UInt8) (hH : H.length = 16) (w : World) (h : No w p) : Calls Tryz.prog 8 #[.pointer p, hv H] w fun e w' => e = .returned (.tuple #[.agg zk.toArray, .int .i64 1]) ∧ Below w.heap.size w w' := by
  have q := z38
  have hz : zk.length = 48 := rfl
  have hzn : ¬ zk = [] := fun h => by rw [h] at hz; cases hz
  have HZ1 : Hid _ := zk_1
  generalize zk = Z at *
  have a1 := heap_alloc_new w (.cells (hl H).toArray 36)
  have b1 := bel1 w (.cells (hl H).toArray 36)
  have b2 := bel1 (w.alloc (.cells (hl H).toArray 36)) (.cells Z.toArray 38)
  have a2 := heap_alloc_new (w.alloc (.cells (hl H).toArray 36)) (.cells Z.toArray 38)
  have HB : Hid (Below w.heap.size w ((w.alloc (.cells (hl H).toArray 36)).alloc (.cells Z.toArray 38))) := bel_trans b1 b2
  have HH : Hid (((w.alloc (.cells (hl H).toArray 36)).alloc (.cells Z.toArray 38)).heap[w.heap.size]? = some (.cells (hl H).toArray 36 (0, 0))) := heap_bel a1 b2
  have HG : Hid (((w.alloc (.cells (hl H).toArray 36)).alloc (.cells Z.toArray 38)).heap[w.heap.size + 1]? = some (.cells Z.toArray 38 (0, 0))) := by show _ = _; simpa using a2
  have HR : Hid _ := no_derive p H ⟨#[107, 101, 121]⟩ none 0 0 _ (h.bel HB.out) hH
  clear h a1 b1 a2 b2
  go_enter Tryz.func8, Tryz.ntmps8
  go_wp2_with (refine ld28 rfl (.tmp 3) rfl w.heap.size rfl H HH.out hH ?_)
  refine Calls.mono HR.out ?_
  rintro e W2 ⟨rfl, hb2⟩
  have HB2 : Hid (Below w.heap.size w W2) := bel_trans HB.out hb2
  have HG2 : Hid (W2.heap[w.heap.size + 1]? = some (.cells Z.toArray 38 (0, 0))) := heap_bel HG.out hb2
  have HN2 : Hid _ := heap_alloc_new W2 (.cells (hl z16).toArray 36)
  clear hb2 HB HR HG HH
  as_aux_lemma =>
  go_wp2_with (refine st28 rfl (.tmp 6) (.tmp 14) rfl W2.heap.size z16 rfl rfl z16 HN2.out rfl rfl (Hid.out ?_))
  have hb3 : Below W2.heap.size W2 ((W2.alloc (.cells (hl z16).toArray 36)).setRow W2.heap.size (hl z16).toArray) := bel_set (bel1 W2 _) (Nat.le_refl _) _
  have HB3 : Hid _ := bel_trans HB2.out hb3
  have HG3 : Hid _ := heap_bel HG2.out hb3
  clear hb3 HN2
  rw [hz28]
  refine mkHid ?_
  generalize (W2.alloc (.cells (hl z16).toArray 36)).setRow W2.heap.size (hl z16).toArray = W3 at *
  as_aux_lemma =>
  go_wp2_with (refine wpList_store_row rfl 38 (.tmp 4) (.tmp 18) rfl (w.heap.size + 1) Z.toArray rfl rfl 38 _ HG3.out (i38.trans (by simp [hz])) rfl HZ1.out (Hid.out ?_))
  have HG4 : Hid _ := setRow_heap W3 (w.heap.size + 1) _ Z.toArray 38 (0, 0) HG3.out
  have HB4 : Hid _ := bel_set HB3.out (show w.heap.size ≤ w.heap.size + 1 by omega) Z.toArray
  refine mkHid ?_
  go_wp2_with fail
  refine bodyPost_ret (v := .tuple #[.agg Z.toArray, .int .i64 1]) (res_k (fn := Tryz.f8) (p := 4) (u := 5) rfl _ _ (w.heap.size + 1) Z rfl HG4.out hz) rfl ?_
  exact ⟨rfl, HB4.out⟩
theorem zk_hl : zk = hl (List.replicate 48 0) := rfl
theorem zk_rg {X : World} {g : Nat} (h : X.heap[g]? = some (.cells zk.toArray 38 (0, 0))) : X.rangeAt g 0 (hl z16) := by
  have := World.rangeAt_of_block h 0 16
  exact this
set_option maxRecDepth 100000 in
theorem next_no (p : Option Addr) (w : World) (h : No w p) : Calls Tryz.prog 23 #[.pointer p, .agg zk.toArray] w fun e w' => e = .returned (.tuple #[.agg zk.toArray, .int .i64 1]) ∧ Below w.heap.size w w' := by
  have HRG : Hid (∀ (X : World) (g : Nat), X.heap[g]? = some (.cells zk.toArray 38 (0, 0)) → X.rangeAt g 0 (hl z16)) := fun X g h => zk_rg h
  have q := z38
  have hz : zk.length = 48 := rfl
  have hzn : ¬ zk = [] := fun h => by rw [h] at hz; cases hz
  have HZ1 : Hid _ := zk_1
  generalize zk = Z at *
  have a1 := heap_alloc_new w (.cells Z.toArray 38)
  have b1 := bel1 w (.cells Z.toArray 38)
  have b2 := bel1 (w.alloc (.cells Z.toArray 38)) (.cells Z.toArray 38)
  have a2 := heap_alloc_new (w.alloc (.cells Z.toArray 38)) (.cells Z.toArray 38)
  have HB : Hid (Below w.heap.size w ((w.alloc (.cells Z.toArray 38)).alloc (.cells Z.toArray 38))) := bel_trans b1 b2
  have HH : Hid (((w.alloc (.cells Z.toArray 38)).alloc (.cells Z.toArray 38)).rangeAt w.heap.size 0 (hl z16)) := HRG.out _ _ (heap_bel a1 b2)
  have HG : Hid (((w.alloc (.cells Z.toArray 38)).alloc (.cells Z.toArray 38)).heap[w.heap.size + 1]? = some (.cells Z.toArray 38 (0, 0))) := by show _ = _; simpa using a2
  have HR : Hid _ := no_derive p z16 ⟨#[110, 101, 120, 116]⟩ none 0 0 _ (h.bel HB.out) rfl
  clear h a1 b1 a2 b2
  go_enter Tryz.func23, Tryz.ntmps23
  go_wp2_with (refine wpList_load_mid rfl 36 (.tmp 12) rfl w.heap.size 0 rfl (hl z16) _ HH.out hu28 rfl (hi28.trans (by simp [z16])) ?_)
  refine Calls.mono HR.out ?_
  rintro e W2 ⟨rfl, hb2⟩
  have HB2 : Hid (Below w.heap.size w W2) := bel_trans HB.out hb2
  have HG2 : Hid (W2.heap[w.heap.size + 1]? = some (.cells Z.toArray 38 (0, 0))) := heap_bel HG.out hb2
  have HN2 : Hid _ := heap_alloc_new W2 (.cells (hl z16).toArray 36)
  clear hb2 HB HR HG HH
  as_aux_lemma =>
  go_wp2_with (refine st28 rfl (.tmp 6) (.tmp 15) rfl W2.heap.size z16 rfl rfl z16 HN2.out rfl rfl (Hid.out ?_))
  have hb3 : Below W2.heap.size W2 ((W2.alloc (.cells (hl z16).toArray 36)).setRow W2.heap.size (hl z16).toArray) := bel_set (bel1 W2 _) (Nat.le_refl _) _
  have HB3 : Hid _ := bel_trans HB2.out hb3
  have HG3 : Hid _ := heap_bel HG2.out hb3
  clear hb3 HN2
  rw [hz28]
  refine mkHid ?_
  generalize (W2.alloc (.cells (hl z16).toArray 36)).setRow W2.heap.size (hl z16).toArray = W3 at *
  as_aux_lemma =>
  go_wp2_with (refine wpList_store_row rfl 38 (.tmp 4) (.tmp 19) rfl (w.heap.size + 1) Z.toArray rfl rfl 38 _ HG3.out (i38.trans (by simp [hz])) rfl HZ1.out (Hid.out ?_))
  have HG4 : Hid _ := setRow_heap W3 (w.heap.size + 1) _ Z.toArray 38 (0, 0) HG3.out
  have HB4 : Hid _ := bel_set HB3.out (show w.heap.size ≤ w.heap.size + 1 by omega) Z.toArray
  refine mkHid ?_
  go_wp2_with fail
  refine bodyPost_ret (v := .tuple #[.agg Z.toArray, .int .i64 1]) (res_k (fn := Tryz.f23) (p := 4) (u := 5) rfl _ _ (w.heap.size + 1) Z rfl HG4.out hz) rfl ?_
  exact ⟨rfl, HB4.out⟩
set_option maxRecDepth 100000 in
theorem seal_no (p : Option Addr) (Z A : List Value) (hz : Z.length = 48) (x : Value) (w : World) (h : No w p) : Calls Tryz.prog 13 #[.pointer p, .agg Z.toArray, .agg A.toArray, x] w fun e w' => e = .returned (.tuple #[.slice none 0 0, .int .i64 1]) ∧ Below w.heap.size w w' := by
  have a1 := heap_alloc_new w (.cells Z.toArray 38)
  have b1 := bel1 w (.cells Z.toArray 38)
  have b2 := bel1 (w.alloc (.cells Z.toArray 38)) (.cells A.toArray 28)
  have HB : Hid (Below w.heap.size w ((w.alloc (.cells Z.toArray 38)).alloc (.cells A.toArray 28))) := bel_trans b1 b2
  have HG : Hid (((w.alloc (.cells Z.toArray 38)).alloc (.cells A.toArray 28)).heap[w.heap.size]? = some (.cells Z.toArray 38 (0, 0))) := heap_bel a1 b2
  have HR : Hid _ := noneOf_c p Z.toArray _ (h.bel HB.out)
  clear h a1 b1 b2
  go_enter Tryz.func13, Tryz.ntmps13
  go_wp2_with (refine wpList_load_row rfl 38 (.tmp 5) rfl w.heap.size rfl 38 _ (0, 0) _ HG.out u38 rfl (i38.trans (by simp [hz])) ?_)
  refine Calls.mono HR.out ?_
  rintro e W2 ⟨rfl, hb2⟩
  have HB2 : Hid (Below w.heap.size w W2) := bel_trans HB.out hb2
  clear hb2 HB HR HG
  as_aux_lemma =>
  go_wp2_with fail
  go_ret2
  exact ⟨rfl, HB2.out⟩
set_option maxRecDepth 100000 in
theorem phase_no (p : Option Addr) (Z : List Value) (hz : Z.length = 48) (x y : Value) (w : World) (h : No w p) : Calls Tryz.prog 18 #[.pointer p, .agg Z.toArray, x, y] w fun e w' => e = .returned (.tuple #[.bool false, .int .i64 1]) ∧ Below w.heap.size w w' := by
  have HB : Hid (Below w.heap.size w (w.alloc (.cells Z.toArray 38))) := bel1 w _
  have HG : Hid _ := heap_alloc_new w (.cells Z.toArray 38)
  have HR : Hid _ := noneOf_c p Z.toArray _ (h.bel HB.out)
  clear h
  go_enter Tryz.func18, Tryz.ntmps18
  go_wp2_with (refine wpList_load_row rfl 38 (.tmp 5) rfl w.heap.size rfl 38 _ (0, 0) _ HG.out u38 rfl (i38.trans (by simp [hz])) ?_)
  refine Calls.mono HR.out ?_
  rintro e W2 ⟨rfl, hb2⟩
  have HB2 : Hid (Below w.heap.size w W2) := bel_trans HB.out hb2
  clear hb2 HB HR HG
  as_aux_lemma =>
  go_wp2_with fail
  go_ret2
  exact ⟨rfl, HB2.out⟩
set_option maxRecDepth 100000 in
theorem tag_no (p : Option Addr) (x y : Value) (w : World) (h : No w p) : Calls Tryz.prog 24 #[.pointer p, x, y] w fun e w' => e = .returned (.tuple #[hv z16, .int .i64 1]) ∧ Below w.heap.size w w' := by
  have HB : Hid (Below w.heap.size w (w.alloc (.cells (hl z16).toArray 36))) := bel1 w _
  have HG : Hid _ := heap_alloc_new w (.cells (hl z16).toArray 36)
  have HR : Hid _ := pnone_c p _ (h.bel HB.out)
  clear h
  go_enter Tryz.func24, Tryz.ntmps24
  go_wp2_with fail
  refine Calls.mono HR.out ?_
  rintro e W2 ⟨rfl, hb2⟩
  have HB2 : Hid (Below w.heap.size w W2) := bel_trans HB.out hb2
  have HG2 : Hid (W2.heap[w.heap.size]? = some (.cells (hl z16).toArray 36 (0, 0))) := heap_bel HG.out hb2
  clear hb2 HB HR HG
  as_aux_lemma =>
  go_wp2_with (refine st28 rfl (.tmp 6) (.tmp 11) rfl w.heap.size z16 rfl hv_z z16 HG2.out rfl rfl (Hid.out ?_))
  have HG3 : Hid _ := setRow_heap W2 w.heap.size _ (hl z16).toArray 36 (0, 0) HG2.out
  have HB3 : Hid _ := bel_set HB2.out (Nat.le_refl _) (hl z16).toArray
  refine mkHid ?_
  go_wp2_with fail
  refine bodyPost_ret (v := .tuple #[hv z16, .int .i64 1]) (res_h (fn := Tryz.f24) (p := 6) (u := 7) rfl _ _ w.heap.size z16 rfl HG3.out rfl) rfl ?_
  exact ⟨rfl, HB3.out⟩
/-- A plain packet. -/
def pk0 : List Value := [.int .i64 0, .int .i64 0, .slice none 0 0, .slice none 0 0, .slice none 0 0, .int .i64 0, .bool false, .slice none 0 0, .int .u8 0, .int .u8 0, .int .u8 0, .int .u8 0, .int .u8 0, .int .u8 0, .int .u8 0, .int .u8 0, .int .u8 0, .int .u8 0, .int .u8 0, .int .u8 0, .int .u8 0, .int .u8 0, .int .u8 0, .int .u8 0, .int .i64 0, .slice none 0 0, .int .i64 0]
theorem z28 (w : World) : (zeroValue 28).run Tryz.prog w = .ok (.agg pk0.toArray) w := by kernel_rfl
theorem u28 : Tryz.prog.underlying 28 = some (.struct (Tryz.prog.fieldsOf 28)) := by kernel_rfl
theorem i28 : (Tryz.prog.info? 28).map (·.size) = some 27 := by kernel_rfl
theorem pk_1 : pk0.toArray.all (·.oneCell') = true := by kernel_rfl
theorem res_p {fn : Func} {p u : Tmp} (h : fn.results = #[.cell p 28, .tmp u]) (tmps : Array Value) (w : World) (g : Nat) (Z : List Value) (hp : tmps.getD p undef = .pointer (some ⟨g, 0, none⟩))
    (hg : w.heap[g]? = some (.cells Z.toArray 28 (0, 0))) (hs : Z.length = 27) : (results fn tmps).run Tryz.prog w = .ok (.tuple #[.agg Z.toArray, tmps.getD u undef]) w := by
  rw [results_cell_tmp h, hp]
  simp only [asAddr, Sem.run_pure, Result.andThen_ok, run_loadVar_row w g 28 28 _ (0, 0) _ hg u28 rfl (i28.trans (by simp [hs]))]
set_option maxRecDepth 100000 in
theorem open_no (p : Option Addr) (Z : List Value) (hz : Z.length = 48) (x y z : Value) (w : World) (h : No w p) : Calls Tryz.prog 16 #[.pointer p, .agg Z.toArray, x, y, z] w fun e w' => e = .returned (.tuple #[.agg pk0.toArray, .iface 39 (.int .i64 1)]) ∧ Below w.heap.size w w' := by
  have q := z28
  have hp : pk0.length = 27 := rfl
  have hpn : ¬ pk0 = [] := fun h => by rw [h] at hp; cases hp
  have HP1 : Hid _ := pk_1
  generalize pk0 = PK at *
  have a1 := heap_alloc_new w (.cells Z.toArray 38)
  have b1 := bel1 w (.cells Z.toArray 38)
  have b2 := bel1 (w.alloc (.cells Z.toArray 38)) (.cells PK.toArray 28)
  have a2 := heap_alloc_new (w.alloc (.cells Z.toArray 38)) (.cells PK.toArray 28)
  have HB : Hid (Below w.heap.size w ((w.alloc (.cells Z.toArray 38)).alloc (.cells PK.toArray 28))) := bel_trans b1 b2
  have HG : Hid (((w.alloc (.cells Z.toArray 38)).alloc (.cells PK.toArray 28)).heap[w.heap.size]? = some (.cells Z.toArray 38 (0, 0))) := heap_bel a1 b2
  have HG' : Hid (((w.alloc (.cells Z.toArray 38)).alloc (.cells PK.toArray 28)).heap[w.heap.size + 1]? = some (.cells PK.toArray 28 (0, 0))) := by show _ = _; simpa using a2
  have HR : Hid _ := noneOf_c p Z.toArray _ (h.bel HB.out)
  clear h a1 b1 b2 a2
  go_enter Tryz.func16, Tryz.ntmps16
  go_wp2_with (refine wpList_load_row rfl 38 (.tmp 6) rfl w.heap.size rfl 38 _ (0, 0) _ HG.out u38 rfl (i38.trans (by simp [hz])) ?_)
  refine Calls.mono HR.out ?_
  rintro e W2 ⟨rfl, hb2⟩
  have HB2 : Hid (Below w.heap.size w W2) := bel_trans HB.out hb2
  have HG2 : Hid (W2.heap[w.heap.size + 1]? = some (.cells PK.toArray 28 (0, 0))) := heap_bel HG'.out hb2
  clear hb2 HB HR HG HG'
  as_aux_lemma =>
  go_wp2_with (refine wpList_store_row rfl 28 (.tmp 10) (.tmp 19) rfl (w.heap.size + 1) PK.toArray rfl rfl 28 _ HG2.out (i28.trans (by simp [hp])) rfl HP1.out (Hid.out ?_))
  have HG3 : Hid _ := setRow_heap W2 (w.heap.size + 1) _ PK.toArray 28 (0, 0) HG2.out
  have HB3 : Hid _ := bel_set HB2.out (show w.heap.size ≤ w.heap.size + 1 by omega) PK.toArray
  refine mkHid ?_
  go_wp2_with fail
  refine bodyPost_ret (v := .tuple #[.agg PK.toArray, .iface 39 (.int .i64 1)]) (res_p (fn := Tryz.f16) (p := 10) (u := 11) rfl _ _ (w.heap.size + 1) PK rfl HG3.out hp) rfl ?_
  exact ⟨rfl, HB3.out⟩
set_option maxRecDepth 100000 in
theorem wrong_1 (w : World) (hE : w.cell? ⟨0, 0, none⟩ = some (rtp 57)) : Calls Tryz.prog 20 #[.iface 39 (.int .i64 1), .int .i64 1] w fun e w' => e = .returned (.bool true) ∧ Below w.heap.size w w' := by
  have HB : Hid (Below w.heap.size w (w.alloc (.cells #[.pointer none] 123))) := bel1 w _
  have HI : Hid _ := is_one (w.alloc (.cells #[.pointer none] 123))
  have HA : Hid _ := as_no (.int .i64 1) ⟨w.heap.size, 0, none⟩ (w.alloc (.cells #[.pointer none] 123)) (cell_bel hE HB.out)
  clear hE
  go_enter Tryz.func20, Tryz.ntmps20
  go_wp2_with fail
  refine Calls.mono HI.out ?_
  rintro e W2 ⟨rfl, rfl⟩
  go_wp2_with fail
  refine Calls.mono HA.out ?_
  rintro e W3 ⟨rfl, hb3⟩
  have HB3 : Hid (Below w.heap.size w W3) := bel_trans HB.out hb3
  clear hb3 HB HI HA
  go_wp2_with fail
  go_ret
  exact ⟨rfl, HB3.out⟩
end Go.Proofs.YtdklkofnekacdaaGreatDoor
