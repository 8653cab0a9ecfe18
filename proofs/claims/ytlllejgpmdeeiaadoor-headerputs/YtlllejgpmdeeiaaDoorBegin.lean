/- What header.beginning answers for long headers: contracts. -/
import Derived.Test.YtlllejgpmdeeiaaDoorBeg
import Derived.Test.YtlllejgpmdeeiaaDoorMayAny
namespace Go.Proofs.YtlllejgpmdeeiaaDoor
open Go.ChangeShapes Go.WideShapes Go.ChangeAt Go.RowKit
set_option linter.unusedVariables false

theorem Res_own {B : Nat} {w : World} {v : Value} {X : List UInt8} (h : Res B w v 0 X) : w.ownsRow B 5 1 v X.length (bc X) := by
  rcases h with ⟨_, _, h⟩ | ⟨h, _⟩
  · exact h
  · exact absurd rfl h
/-- a long header's bytes up to its identifiers' end -/
def longB (F : UInt8) (U : Nat) (D S : List UInt8) : List UInt8 := [F] ++ be 4 U ++ [UInt8.ofNat D.length] ++ D ++ [UInt8.ofNat S.length] ++ S
theorem bc_byte (n : Nat) (h : n ≤ 20) : Value.int .u8 (n : Int) = Value.int .u8 ((UInt8.ofNat n).toNat : Int) := by
  rw [UInt8.toNat_ofNat', Nat.mod_eq_of_lt (by omega)]
theorem Sl_newb (w : World) (x : Int) (b : UInt8) (h : Value.int .u8 x = Value.int .u8 (b.toNat : Int)) : Sl (w.alloc (.cells #[.int .u8 x] 5)) (some ⟨w.heap.size, 0, none⟩) [b] := by
  rw [h]; exact Sl_new w b

/-- what the walk of beginning keeps while the bytes grow -/
structure BR (w w' : World) (B : Nat) (cs : Array Value) (v : Value) (X : List UInt8) : Prop where
  below : Below w.heap.size w w'
  row : w'.heap[w.heap.size]? = some (.cells cs 26 (0, 0))
  own : w'.ownsRow B 5 1 v X.length (bc X)
  hB : w.heap.size < B
  size : B ≤ w'.heap.size
theorem BR.next {w w1 w2 : World} {B n : Nat} {cs : Array Value} {v v' : Value} {X Y : List UInt8} {o : Obj} (h : BR w w1 B cs v X) (ho : w2.ownsRow B 5 1 v' (X.length + n) (bc X ++ bc Y)) (hn : Y.length = n) (hg : (w1.alloc o).grownBy w2 v.ownBlock) : BR w w2 B cs v' (X ++ Y) := by
  have hb : ∀ k, v.ownBlock = some k → B ≤ k := fun k hk => (h.own.lt k hk).1
  have h1 := h.hB
  have h2 := h.size
  refine ⟨(h.below.alloc (by omega) o).grown hg (by simp; omega) (fun k hk => by have := hb k hk; omega), ?_, by rw [List.length_append, hn, bc_append]; exact ho, h.hB, ?_⟩
  · rw [hg.block w.heap.size (by simp; omega) (fun e => by have := hb _ e.symm; omega), Below.heap_alloc _ _ _ (by omega)]
    exact h.row
  · have := hg.size; simp at this; omega
theorem BR.next' {w w1 w2 : World} {B n : Nat} {cs : Array Value} {v v' : Value} {X Y : List UInt8} (h : BR w w1 B cs v X) (ho : w2.ownsRow B 5 1 v' (X.length + n) (bc X ++ bc Y)) (hn : Y.length = n) (hg : w1.grownBy w2 v.ownBlock) : BR w w2 B cs v' (X ++ Y) := by
  have hb : ∀ k, v.ownBlock = some k → B ≤ k := fun k hk => (h.own.lt k hk).1
  have h1 := h.hB
  have h2 := h.size
  refine ⟨h.below.grown hg (by omega) (fun k hk => by have := hb k hk; omega), ?_, by rw [List.length_append, hn, bc_append]; exact ho, h.hB, ?_⟩
  · rw [hg.block w.heap.size (by omega) (fun e => by have := hb _ e.symm; omega)]
    exact h.row
  · have := hg.size; omega
theorem BR.c2 {w w' : World} {B : Nat} {cs : Array Value} {v : Value} {X : List UInt8} {k ver : Int} {d s t : Value} {len : Int} {ph : Bool} {lv : Value} {tg : List Value} (h : BR w w' B cs v X) (hcs : cs = (hc k ver d s t len ph lv tg).toArray) : w'.cell? ⟨w.heap.size, 2, none⟩ = some d := by unfold World.cell?; rw [h.row, hcs]; rfl
theorem BR.c3 {w w' : World} {B : Nat} {cs : Array Value} {v : Value} {X : List UInt8} {k ver : Int} {d s t : Value} {len : Int} {ph : Bool} {lv : Value} {tg : List Value} (h : BR w w' B cs v X) (hcs : cs = (hc k ver d s t len ph lv tg).toArray) : w'.cell? ⟨w.heap.size, 3, none⟩ = some s := by unfold World.cell?; rw [h.row, hcs]; rfl


set_option maxRecDepth 10000 in
set_option maxHeartbeats 1000000 in
theorem beg_0 (cs : Array Value) (ver len n : Int) (da sa : Option Addr) (dc sc : Nat) (D S : List UInt8) (t lv : Value) (ph : Bool) (tg : List Value) (w : World)
    (hcs : cs = (hc 0 ver (.slice da D.length dc) (.slice sa S.length sc) t len ph lv tg).toArray) (hD : Sl w da D) (hS : Sl w sa S) (hd : D.length ≤ 20) (hs : S.length ≤ 20) (hdn : da = none → D.length = 0 ∧ dc = 0) (hsn : sa = none → S.length = 0 ∧ sc = 0) (n1 : 1 ≤ n) (n4 : n ≤ 4) :
    Calls Tryd.prog 19 #[.agg cs, .int .i64 n] w fun e w' => ∃ v, e = .returned v ∧ By (w.heap.size + 1) w' v (longB (UInt8.ofNat (191 + n).toNat) 1 D S) ∧ Below w.heap.size w w' := by
  obtain ⟨i0, hi, hz0, hz1, hz2⟩ := info_parts info5
  have hrow := heap_alloc_new w (.cells cs 26)
  have c0 : (w.alloc (.cells cs 26)).cell? ⟨w.heap.size, 0, none⟩ = some (.int .i64 0) := by unfold World.cell?; rw [hrow, hcs]; rfl
  have a1 : bits BinOp.or IntKind.u8 192 (n - 1) = 191 + n := by
    have h : n = 1 ∨ n = 2 ∨ n = 3 ∨ n = 4 := by omega
    rcases h with rfl | rfl | rfl | rfl <;> decide
  have a2 : bits BinOp.or IntKind.u8 (191 + n) 0 = 191 + n := by
    have h : n = 1 ∨ n = 2 ∨ n = 3 ∨ n = 4 := by omega
    rcases h with rfl | rfl | rfl | rfl <;> decide
  obtain ⟨F, hF⟩ : ∃ F : UInt8, UInt8.ofNat (191 + n).toNat = F := ⟨_, rfl⟩
  have hFv : Value.int .u8 (191 + n) = Value.int .u8 (F.toNat : Int) := by rw [← hF, UInt8.toNat_ofNat']; congr 1; omega
  rw [hF]
  have HF := mkHid hFv
  have HD := mkHid hD
  have HS := mkHid hS
  have HDn := mkHid hdn
  have HSn := mkHid hsn
  have HCS := mkHid hcs
  clear hrow hcs hD hS hdn hsn hFv hF
  go_enter Tryd.func19, Tryd.ntmps19
  go_wp2_with fail
  refine (put_yes (some ⟨w.heap.size + 1, 0, none⟩) [F] 1 1 4 _ ?_ (by simp) (by decide) (by decide) (by decide) (by decide)).mono ?_
  · have q := Sl_newb (w.alloc (.cells cs 26)) _ F HF.out
    rw [show (w.alloc (.cells cs 26)).heap.size = w.heap.size + 1 by simp] at q
    exact q
  rintro e w2 ⟨x, rfl, hres, hB⟩
  have HB0 : Hid (BR w w2 (w.heap.size + 2) cs x ([F] ++ be 4 1)) := by
    refine ⟨(((Below.refl w.heap.size w).alloc (Nat.le_refl _) (.cells cs 26)).alloc (by simp) (.cells #[.int .u8 (191 + n)] 5)).trans (hB.mono (by simp; omega)), ?_, ?_, by omega, by have := hB.size; simp at this; omega⟩
    · refine (hB.block w.heap.size (by simp; omega)).trans ?_
      rw [Below.heap_alloc _ _ _ (by simp)]
      exact heap_alloc_new w _
    · have := Res_own hres
      simpa using this
  clear hres hB
  have d2 := HB0.out.c2 HCS.out
  have hb1 := bc_byte D.length hd
  have hb2 := bc_byte S.length hs
  have HB1 := mkHid hb1
  have HB2 := mkHid hb2
  clear hb1 hb2
  have hxs : ([F] ++ be 4 1).length = 5 := by simp [be_length]
  go_wp2_with (first
    | (at_builtin; refine wpList_append_bytes rfl (.tmp 48) (.tmp 53) rfl (w.heap.size + 2) i0 Tryd.underlying22 hi hz0 hz1 hz2 x _ _ rfl (HB0.out.own.alloc _) (some ⟨w2.heap.size, 0, none⟩) 1 1 [UInt8.ofNat D.length] rfl rfl (fun h => by cases h) (Sl_newb w2 _ _ HB1.out) (by rw [hxs]; omega) (by have := HB0.out.size; simp; omega) ?_; intro v1 w3 hown hgrow; have HB3 := mkHid (HB0.out.next (Y := [UInt8.ofNat D.length]) hown rfl hgrow); clear hown hgrow; have e2 := HB3.out.c2 HCS.out)
    | (at_builtin; refine wpList_append_bytes rfl (.tmp 55) (.tmp 57) rfl (w.heap.size + 2) i0 Tryd.underlying22 hi hz0 hz1 hz2 v1 _ _ rfl HB3.out.own da D.length dc D rfl rfl HDn.out (Sl_below HD.out HB3.out.below) (by simp [be_length]; omega) HB3.out.size ?_; intro v2 w4 hown hgrow; have HB4 := mkHid (HB3.out.next' hown rfl hgrow); clear hown hgrow; have e3 := HB4.out.c3 HCS.out)
    | (at_builtin; refine wpList_append_bytes rfl (.tmp 59) (.tmp 64) rfl (w.heap.size + 2) i0 Tryd.underlying22 hi hz0 hz1 hz2 v2 _ _ rfl (HB4.out.own.alloc _) (some ⟨w4.heap.size, 0, none⟩) 1 1 [UInt8.ofNat S.length] rfl rfl (fun h => by cases h) (Sl_newb w4 _ _ HB2.out) (by simp [be_length]; omega) (by have := HB4.out.size; simp; omega) ?_; intro v3 w5 hown hgrow; have HB5 := mkHid (HB4.out.next (Y := [UInt8.ofNat S.length]) hown rfl hgrow); clear hown hgrow; have e4 := HB5.out.c3 HCS.out)
    | (at_builtin; refine wpList_append_bytes rfl (.tmp 66) (.tmp 68) rfl (w.heap.size + 2) i0 Tryd.underlying22 hi hz0 hz1 hz2 v3 _ _ rfl HB5.out.own sa S.length sc S rfl rfl HSn.out (Sl_below HS.out HB5.out.below) (by simp [be_length]; omega) HB5.out.size ?_; intro v4 w6 hown hgrow; have HB6 := mkHid (HB5.out.next' hown rfl hgrow); clear hown hgrow))
  go_ret
  exact ⟨v4, rfl, By.mono (B := w.heap.size + 2) HB6.out.own (by omega), HB6.out.below⟩


set_option maxRecDepth 10000 in
set_option maxHeartbeats 1000000 in
theorem beg_1 (cs : Array Value) (ver len n : Int) (da sa : Option Addr) (dc sc : Nat) (D S : List UInt8) (t lv : Value) (ph : Bool) (tg : List Value) (w : World)
    (hcs : cs = (hc 1 ver (.slice da D.length dc) (.slice sa S.length sc) t len ph lv tg).toArray) (hD : Sl w da D) (hS : Sl w sa S) (hd : D.length ≤ 20) (hs : S.length ≤ 20) (hdn : da = none → D.length = 0 ∧ dc = 0) (hsn : sa = none → S.length = 0 ∧ sc = 0) (n1 : 1 ≤ n) (n4 : n ≤ 4) :
    Calls Tryd.prog 19 #[.agg cs, .int .i64 n] w fun e w' => ∃ v, e = .returned v ∧ By (w.heap.size + 1) w' v (longB (UInt8.ofNat (207 + n).toNat) 1 D S) ∧ Below w.heap.size w w' := by
  obtain ⟨i0, hi, hz0, hz1, hz2⟩ := info_parts info5
  have hrow := heap_alloc_new w (.cells cs 26)
  have c0 : (w.alloc (.cells cs 26)).cell? ⟨w.heap.size, 0, none⟩ = some (.int .i64 1) := by unfold World.cell?; rw [hrow, hcs]; rfl
  have a1 : bits BinOp.or IntKind.u8 192 (n - 1) = 191 + n := by
    have h : n = 1 ∨ n = 2 ∨ n = 3 ∨ n = 4 := by omega
    rcases h with rfl | rfl | rfl | rfl <;> decide
  have a2 : bits BinOp.or IntKind.u8 (191 + n) 16 = 207 + n := by
    have h : n = 1 ∨ n = 2 ∨ n = 3 ∨ n = 4 := by omega
    rcases h with rfl | rfl | rfl | rfl <;> decide
  obtain ⟨F, hF⟩ : ∃ F : UInt8, UInt8.ofNat (207 + n).toNat = F := ⟨_, rfl⟩
  have hFv : Value.int .u8 (207 + n) = Value.int .u8 (F.toNat : Int) := by rw [← hF, UInt8.toNat_ofNat']; congr 1; omega
  rw [hF]
  have HF := mkHid hFv
  have HD := mkHid hD
  have HS := mkHid hS
  have HDn := mkHid hdn
  have HSn := mkHid hsn
  have HCS := mkHid hcs
  clear hrow hcs hD hS hdn hsn hFv hF
  go_enter Tryd.func19, Tryd.ntmps19
  go_wp2_with fail
  refine (put_yes (some ⟨w.heap.size + 1, 0, none⟩) [F] 1 1 4 _ ?_ (by simp) (by decide) (by decide) (by decide) (by decide)).mono ?_
  · have q := Sl_newb (w.alloc (.cells cs 26)) _ F HF.out
    rw [show (w.alloc (.cells cs 26)).heap.size = w.heap.size + 1 by simp] at q
    exact q
  rintro e w2 ⟨x, rfl, hres, hB⟩
  have HB0 : Hid (BR w w2 (w.heap.size + 2) cs x ([F] ++ be 4 1)) := by
    refine ⟨(((Below.refl w.heap.size w).alloc (Nat.le_refl _) (.cells cs 26)).alloc (by simp) (.cells #[.int .u8 (207 + n)] 5)).trans (hB.mono (by simp; omega)), ?_, ?_, by omega, by have := hB.size; simp at this; omega⟩
    · refine (hB.block w.heap.size (by simp; omega)).trans ?_
      rw [Below.heap_alloc _ _ _ (by simp)]
      exact heap_alloc_new w _
    · have := Res_own hres
      simpa using this
  clear hres hB
  have d2 := HB0.out.c2 HCS.out
  have hb1 := bc_byte D.length hd
  have hb2 := bc_byte S.length hs
  have HB1 := mkHid hb1
  have HB2 := mkHid hb2
  clear hb1 hb2
  have hxs : ([F] ++ be 4 1).length = 5 := by simp [be_length]
  go_wp2_with (first
    | (at_builtin; refine wpList_append_bytes rfl (.tmp 48) (.tmp 53) rfl (w.heap.size + 2) i0 Tryd.underlying22 hi hz0 hz1 hz2 x _ _ rfl (HB0.out.own.alloc _) (some ⟨w2.heap.size, 0, none⟩) 1 1 [UInt8.ofNat D.length] rfl rfl (fun h => by cases h) (Sl_newb w2 _ _ HB1.out) (by rw [hxs]; omega) (by have := HB0.out.size; simp; omega) ?_; intro v1 w3 hown hgrow; have HB3 := mkHid (HB0.out.next (Y := [UInt8.ofNat D.length]) hown rfl hgrow); clear hown hgrow; have e2 := HB3.out.c2 HCS.out)
    | (at_builtin; refine wpList_append_bytes rfl (.tmp 55) (.tmp 57) rfl (w.heap.size + 2) i0 Tryd.underlying22 hi hz0 hz1 hz2 v1 _ _ rfl HB3.out.own da D.length dc D rfl rfl HDn.out (Sl_below HD.out HB3.out.below) (by simp [be_length]; omega) HB3.out.size ?_; intro v2 w4 hown hgrow; have HB4 := mkHid (HB3.out.next' hown rfl hgrow); clear hown hgrow; have e3 := HB4.out.c3 HCS.out)
    | (at_builtin; refine wpList_append_bytes rfl (.tmp 59) (.tmp 64) rfl (w.heap.size + 2) i0 Tryd.underlying22 hi hz0 hz1 hz2 v2 _ _ rfl (HB4.out.own.alloc _) (some ⟨w4.heap.size, 0, none⟩) 1 1 [UInt8.ofNat S.length] rfl rfl (fun h => by cases h) (Sl_newb w4 _ _ HB2.out) (by simp [be_length]; omega) (by have := HB4.out.size; simp; omega) ?_; intro v3 w5 hown hgrow; have HB5 := mkHid (HB4.out.next (Y := [UInt8.ofNat S.length]) hown rfl hgrow); clear hown hgrow; have e4 := HB5.out.c3 HCS.out)
    | (at_builtin; refine wpList_append_bytes rfl (.tmp 66) (.tmp 68) rfl (w.heap.size + 2) i0 Tryd.underlying22 hi hz0 hz1 hz2 v3 _ _ rfl HB5.out.own sa S.length sc S rfl rfl HSn.out (Sl_below HS.out HB5.out.below) (by simp [be_length]; omega) HB5.out.size ?_; intro v4 w6 hown hgrow; have HB6 := mkHid (HB5.out.next' hown rfl hgrow); clear hown hgrow))
  go_ret
  exact ⟨v4, rfl, By.mono (B := w.heap.size + 2) HB6.out.own (by omega), HB6.out.below⟩


set_option maxRecDepth 10000 in
set_option maxHeartbeats 1000000 in
theorem beg_2 (cs : Array Value) (ver len n : Int) (da sa : Option Addr) (dc sc : Nat) (D S : List UInt8) (t lv : Value) (ph : Bool) (tg : List Value) (w : World)
    (hcs : cs = (hc 2 ver (.slice da D.length dc) (.slice sa S.length sc) t len ph lv tg).toArray) (hD : Sl w da D) (hS : Sl w sa S) (hd : D.length ≤ 20) (hs : S.length ≤ 20) (hdn : da = none → D.length = 0 ∧ dc = 0) (hsn : sa = none → S.length = 0 ∧ sc = 0) (n1 : 1 ≤ n) (n4 : n ≤ 4) :
    Calls Tryd.prog 19 #[.agg cs, .int .i64 n] w fun e w' => ∃ v, e = .returned v ∧ By (w.heap.size + 1) w' v (longB (UInt8.ofNat (223 + n).toNat) 1 D S) ∧ Below w.heap.size w w' := by
  obtain ⟨i0, hi, hz0, hz1, hz2⟩ := info_parts info5
  have hrow := heap_alloc_new w (.cells cs 26)
  have c0 : (w.alloc (.cells cs 26)).cell? ⟨w.heap.size, 0, none⟩ = some (.int .i64 2) := by unfold World.cell?; rw [hrow, hcs]; rfl
  have a1 : bits BinOp.or IntKind.u8 192 (n - 1) = 191 + n := by
    have h : n = 1 ∨ n = 2 ∨ n = 3 ∨ n = 4 := by omega
    rcases h with rfl | rfl | rfl | rfl <;> decide
  have a2 : bits BinOp.or IntKind.u8 (191 + n) 32 = 223 + n := by
    have h : n = 1 ∨ n = 2 ∨ n = 3 ∨ n = 4 := by omega
    rcases h with rfl | rfl | rfl | rfl <;> decide
  obtain ⟨F, hF⟩ : ∃ F : UInt8, UInt8.ofNat (223 + n).toNat = F := ⟨_, rfl⟩
  have hFv : Value.int .u8 (223 + n) = Value.int .u8 (F.toNat : Int) := by rw [← hF, UInt8.toNat_ofNat']; congr 1; omega
  rw [hF]
  have HF := mkHid hFv
  have HD := mkHid hD
  have HS := mkHid hS
  have HDn := mkHid hdn
  have HSn := mkHid hsn
  have HCS := mkHid hcs
  clear hrow hcs hD hS hdn hsn hFv hF
  go_enter Tryd.func19, Tryd.ntmps19
  go_wp2_with fail
  refine (put_yes (some ⟨w.heap.size + 1, 0, none⟩) [F] 1 1 4 _ ?_ (by simp) (by decide) (by decide) (by decide) (by decide)).mono ?_
  · have q := Sl_newb (w.alloc (.cells cs 26)) _ F HF.out
    rw [show (w.alloc (.cells cs 26)).heap.size = w.heap.size + 1 by simp] at q
    exact q
  rintro e w2 ⟨x, rfl, hres, hB⟩
  have HB0 : Hid (BR w w2 (w.heap.size + 2) cs x ([F] ++ be 4 1)) := by
    refine ⟨(((Below.refl w.heap.size w).alloc (Nat.le_refl _) (.cells cs 26)).alloc (by simp) (.cells #[.int .u8 (223 + n)] 5)).trans (hB.mono (by simp; omega)), ?_, ?_, by omega, by have := hB.size; simp at this; omega⟩
    · refine (hB.block w.heap.size (by simp; omega)).trans ?_
      rw [Below.heap_alloc _ _ _ (by simp)]
      exact heap_alloc_new w _
    · have := Res_own hres
      simpa using this
  clear hres hB
  have d2 := HB0.out.c2 HCS.out
  have hb1 := bc_byte D.length hd
  have hb2 := bc_byte S.length hs
  have HB1 := mkHid hb1
  have HB2 := mkHid hb2
  clear hb1 hb2
  have hxs : ([F] ++ be 4 1).length = 5 := by simp [be_length]
  go_wp2_with (first
    | (at_builtin; refine wpList_append_bytes rfl (.tmp 48) (.tmp 53) rfl (w.heap.size + 2) i0 Tryd.underlying22 hi hz0 hz1 hz2 x _ _ rfl (HB0.out.own.alloc _) (some ⟨w2.heap.size, 0, none⟩) 1 1 [UInt8.ofNat D.length] rfl rfl (fun h => by cases h) (Sl_newb w2 _ _ HB1.out) (by rw [hxs]; omega) (by have := HB0.out.size; simp; omega) ?_; intro v1 w3 hown hgrow; have HB3 := mkHid (HB0.out.next (Y := [UInt8.ofNat D.length]) hown rfl hgrow); clear hown hgrow; have e2 := HB3.out.c2 HCS.out)
    | (at_builtin; refine wpList_append_bytes rfl (.tmp 55) (.tmp 57) rfl (w.heap.size + 2) i0 Tryd.underlying22 hi hz0 hz1 hz2 v1 _ _ rfl HB3.out.own da D.length dc D rfl rfl HDn.out (Sl_below HD.out HB3.out.below) (by simp [be_length]; omega) HB3.out.size ?_; intro v2 w4 hown hgrow; have HB4 := mkHid (HB3.out.next' hown rfl hgrow); clear hown hgrow; have e3 := HB4.out.c3 HCS.out)
    | (at_builtin; refine wpList_append_bytes rfl (.tmp 59) (.tmp 64) rfl (w.heap.size + 2) i0 Tryd.underlying22 hi hz0 hz1 hz2 v2 _ _ rfl (HB4.out.own.alloc _) (some ⟨w4.heap.size, 0, none⟩) 1 1 [UInt8.ofNat S.length] rfl rfl (fun h => by cases h) (Sl_newb w4 _ _ HB2.out) (by simp [be_length]; omega) (by have := HB4.out.size; simp; omega) ?_; intro v3 w5 hown hgrow; have HB5 := mkHid (HB4.out.next (Y := [UInt8.ofNat S.length]) hown rfl hgrow); clear hown hgrow; have e4 := HB5.out.c3 HCS.out)
    | (at_builtin; refine wpList_append_bytes rfl (.tmp 66) (.tmp 68) rfl (w.heap.size + 2) i0 Tryd.underlying22 hi hz0 hz1 hz2 v3 _ _ rfl HB5.out.own sa S.length sc S rfl rfl HSn.out (Sl_below HS.out HB5.out.below) (by simp [be_length]; omega) HB5.out.size ?_; intro v4 w6 hown hgrow; have HB6 := mkHid (HB5.out.next' hown rfl hgrow); clear hown hgrow))
  go_ret
  exact ⟨v4, rfl, By.mono (B := w.heap.size + 2) HB6.out.own (by omega), HB6.out.below⟩


set_option maxRecDepth 10000 in
set_option maxHeartbeats 1000000 in
theorem beg_3 (cs : Array Value) (ver len n : Int) (da sa : Option Addr) (dc sc : Nat) (D S : List UInt8) (t lv : Value) (ph : Bool) (tg : List Value) (w : World)
    (hcs : cs = (hc 3 ver (.slice da D.length dc) (.slice sa S.length sc) t len ph lv tg).toArray) (hD : Sl w da D) (hS : Sl w sa S) (hd : D.length ≤ 20) (hs : S.length ≤ 20) (hdn : da = none → D.length = 0 ∧ dc = 0) (hsn : sa = none → S.length = 0 ∧ sc = 0) :
    Calls Tryd.prog 19 #[.agg cs, .int .i64 n] w fun e w' => ∃ v, e = .returned v ∧ By (w.heap.size + 1) w' v (longB (UInt8.ofNat (240 : Int).toNat) 1 D S) ∧ Below w.heap.size w w' := by
  obtain ⟨i0, hi, hz0, hz1, hz2⟩ := info_parts info5
  have hrow := heap_alloc_new w (.cells cs 26)
  have c0 : (w.alloc (.cells cs 26)).cell? ⟨w.heap.size, 0, none⟩ = some (.int .i64 3) := by unfold World.cell?; rw [hrow, hcs]; rfl
  have a2 : bits BinOp.or IntKind.u8 192 48 = 240 := by decide
  obtain ⟨F, hF⟩ : ∃ F : UInt8, UInt8.ofNat (240 : Int).toNat = F := ⟨_, rfl⟩
  have hFv : Value.int .u8 (240 : Int) = Value.int .u8 (F.toNat : Int) := by rw [← hF, UInt8.toNat_ofNat']; congr 1
  rw [hF]
  have HF := mkHid hFv
  have HD := mkHid hD
  have HS := mkHid hS
  have HDn := mkHid hdn
  have HSn := mkHid hsn
  have HCS := mkHid hcs
  clear hrow hcs hD hS hdn hsn hFv hF
  go_enter Tryd.func19, Tryd.ntmps19
  go_wp2_with fail
  refine (put_yes (some ⟨w.heap.size + 1, 0, none⟩) [F] 1 1 4 _ ?_ (by simp) (by decide) (by decide) (by decide) (by decide)).mono ?_
  · have q := Sl_newb (w.alloc (.cells cs 26)) _ F HF.out
    rw [show (w.alloc (.cells cs 26)).heap.size = w.heap.size + 1 by simp] at q
    exact q
  rintro e w2 ⟨x, rfl, hres, hB⟩
  have HB0 : Hid (BR w w2 (w.heap.size + 2) cs x ([F] ++ be 4 1)) := by
    refine ⟨(((Below.refl w.heap.size w).alloc (Nat.le_refl _) (.cells cs 26)).alloc (by simp) (.cells #[.int .u8 (240 : Int)] 5)).trans (hB.mono (by simp; omega)), ?_, ?_, by omega, by have := hB.size; simp at this; omega⟩
    · refine (hB.block w.heap.size (by simp; omega)).trans ?_
      rw [Below.heap_alloc _ _ _ (by simp)]
      exact heap_alloc_new w _
    · have := Res_own hres
      simpa using this
  clear hres hB
  have d2 := HB0.out.c2 HCS.out
  have hb1 := bc_byte D.length hd
  have hb2 := bc_byte S.length hs
  have HB1 := mkHid hb1
  have HB2 := mkHid hb2
  clear hb1 hb2
  have hxs : ([F] ++ be 4 1).length = 5 := by simp [be_length]
  go_wp2_with (first
    | (at_builtin; refine wpList_append_bytes rfl (.tmp 48) (.tmp 53) rfl (w.heap.size + 2) i0 Tryd.underlying22 hi hz0 hz1 hz2 x _ _ rfl (HB0.out.own.alloc _) (some ⟨w2.heap.size, 0, none⟩) 1 1 [UInt8.ofNat D.length] rfl rfl (fun h => by cases h) (Sl_newb w2 _ _ HB1.out) (by rw [hxs]; omega) (by have := HB0.out.size; simp; omega) ?_; intro v1 w3 hown hgrow; have HB3 := mkHid (HB0.out.next (Y := [UInt8.ofNat D.length]) hown rfl hgrow); clear hown hgrow; have e2 := HB3.out.c2 HCS.out)
    | (at_builtin; refine wpList_append_bytes rfl (.tmp 55) (.tmp 57) rfl (w.heap.size + 2) i0 Tryd.underlying22 hi hz0 hz1 hz2 v1 _ _ rfl HB3.out.own da D.length dc D rfl rfl HDn.out (Sl_below HD.out HB3.out.below) (by simp [be_length]; omega) HB3.out.size ?_; intro v2 w4 hown hgrow; have HB4 := mkHid (HB3.out.next' hown rfl hgrow); clear hown hgrow; have e3 := HB4.out.c3 HCS.out)
    | (at_builtin; refine wpList_append_bytes rfl (.tmp 59) (.tmp 64) rfl (w.heap.size + 2) i0 Tryd.underlying22 hi hz0 hz1 hz2 v2 _ _ rfl (HB4.out.own.alloc _) (some ⟨w4.heap.size, 0, none⟩) 1 1 [UInt8.ofNat S.length] rfl rfl (fun h => by cases h) (Sl_newb w4 _ _ HB2.out) (by simp [be_length]; omega) (by have := HB4.out.size; simp; omega) ?_; intro v3 w5 hown hgrow; have HB5 := mkHid (HB4.out.next (Y := [UInt8.ofNat S.length]) hown rfl hgrow); clear hown hgrow; have e4 := HB5.out.c3 HCS.out)
    | (at_builtin; refine wpList_append_bytes rfl (.tmp 66) (.tmp 68) rfl (w.heap.size + 2) i0 Tryd.underlying22 hi hz0 hz1 hz2 v3 _ _ rfl HB5.out.own sa S.length sc S rfl rfl HSn.out (Sl_below HS.out HB5.out.below) (by simp [be_length]; omega) HB5.out.size ?_; intro v4 w6 hown hgrow; have HB6 := mkHid (HB5.out.next' hown rfl hgrow); clear hown hgrow))
  go_ret
  exact ⟨v4, rfl, By.mono (B := w.heap.size + 2) HB6.out.own (by omega), HB6.out.below⟩


set_option maxRecDepth 10000 in
set_option maxHeartbeats 1000000 in
theorem beg_4 (cs : Array Value) (ver len n : Int) (da sa : Option Addr) (dc sc : Nat) (D S : List UInt8) (t lv : Value) (ph : Bool) (tg : List Value) (w : World)
    (hcs : cs = (hc 4 ver (.slice da D.length dc) (.slice sa S.length sc) t len ph lv tg).toArray) (hD : Sl w da D) (hS : Sl w sa S) (hd : D.length ≤ 20) (hs : S.length ≤ 20) (hdn : da = none → D.length = 0 ∧ dc = 0) (hsn : sa = none → S.length = 0 ∧ sc = 0) :
    Calls Tryd.prog 19 #[.agg cs, .int .i64 n] w fun e w' => ∃ v, e = .returned v ∧ By (w.heap.size + 1) w' v (longB (UInt8.ofNat (192 : Int).toNat) 0 D S) ∧ Below w.heap.size w w' := by
  obtain ⟨i0, hi, hz0, hz1, hz2⟩ := info_parts info5
  have hrow := heap_alloc_new w (.cells cs 26)
  have c0 : (w.alloc (.cells cs 26)).cell? ⟨w.heap.size, 0, none⟩ = some (.int .i64 4) := by unfold World.cell?; rw [hrow, hcs]; rfl
  obtain ⟨F, hF⟩ : ∃ F : UInt8, UInt8.ofNat (192 : Int).toNat = F := ⟨_, rfl⟩
  have hFv : Value.int .u8 (192 : Int) = Value.int .u8 (F.toNat : Int) := by rw [← hF, UInt8.toNat_ofNat']; congr 1
  rw [hF]
  have HF := mkHid hFv
  have HD := mkHid hD
  have HS := mkHid hS
  have HDn := mkHid hdn
  have HSn := mkHid hsn
  have HCS := mkHid hcs
  clear hrow hcs hD hS hdn hsn hFv hF
  go_enter Tryd.func19, Tryd.ntmps19
  go_wp2_with fail
  refine (put_yes (some ⟨w.heap.size + 1, 0, none⟩) [F] 1 0 4 _ ?_ (by simp) (by decide) (by decide) (by decide) (by decide)).mono ?_
  · have q := Sl_newb (w.alloc (.cells cs 26)) _ F HF.out
    rw [show (w.alloc (.cells cs 26)).heap.size = w.heap.size + 1 by simp] at q
    exact q
  rintro e w2 ⟨x, rfl, hres, hB⟩
  have HB0 : Hid (BR w w2 (w.heap.size + 2) cs x ([F] ++ be 4 0)) := by
    refine ⟨(((Below.refl w.heap.size w).alloc (Nat.le_refl _) (.cells cs 26)).alloc (by simp) (.cells #[.int .u8 (192 : Int)] 5)).trans (hB.mono (by simp; omega)), ?_, ?_, by omega, by have := hB.size; simp at this; omega⟩
    · refine (hB.block w.heap.size (by simp; omega)).trans ?_
      rw [Below.heap_alloc _ _ _ (by simp)]
      exact heap_alloc_new w _
    · have := Res_own hres
      simpa using this
  clear hres hB
  have d2 := HB0.out.c2 HCS.out
  have hb1 := bc_byte D.length hd
  have hb2 := bc_byte S.length hs
  have HB1 := mkHid hb1
  have HB2 := mkHid hb2
  clear hb1 hb2
  have hxs : ([F] ++ be 4 0).length = 5 := by simp [be_length]
  go_wp2_with (first
    | (at_builtin; refine wpList_append_bytes rfl (.tmp 48) (.tmp 53) rfl (w.heap.size + 2) i0 Tryd.underlying22 hi hz0 hz1 hz2 x _ _ rfl (HB0.out.own.alloc _) (some ⟨w2.heap.size, 0, none⟩) 1 1 [UInt8.ofNat D.length] rfl rfl (fun h => by cases h) (Sl_newb w2 _ _ HB1.out) (by rw [hxs]; omega) (by have := HB0.out.size; simp; omega) ?_; intro v1 w3 hown hgrow; have HB3 := mkHid (HB0.out.next (Y := [UInt8.ofNat D.length]) hown rfl hgrow); clear hown hgrow; have e2 := HB3.out.c2 HCS.out)
    | (at_builtin; refine wpList_append_bytes rfl (.tmp 55) (.tmp 57) rfl (w.heap.size + 2) i0 Tryd.underlying22 hi hz0 hz1 hz2 v1 _ _ rfl HB3.out.own da D.length dc D rfl rfl HDn.out (Sl_below HD.out HB3.out.below) (by simp [be_length]; omega) HB3.out.size ?_; intro v2 w4 hown hgrow; have HB4 := mkHid (HB3.out.next' hown rfl hgrow); clear hown hgrow; have e3 := HB4.out.c3 HCS.out)
    | (at_builtin; refine wpList_append_bytes rfl (.tmp 59) (.tmp 64) rfl (w.heap.size + 2) i0 Tryd.underlying22 hi hz0 hz1 hz2 v2 _ _ rfl (HB4.out.own.alloc _) (some ⟨w4.heap.size, 0, none⟩) 1 1 [UInt8.ofNat S.length] rfl rfl (fun h => by cases h) (Sl_newb w4 _ _ HB2.out) (by simp [be_length]; omega) (by have := HB4.out.size; simp; omega) ?_; intro v3 w5 hown hgrow; have HB5 := mkHid (HB4.out.next (Y := [UInt8.ofNat S.length]) hown rfl hgrow); clear hown hgrow; have e4 := HB5.out.c3 HCS.out)
    | (at_builtin; refine wpList_append_bytes rfl (.tmp 66) (.tmp 68) rfl (w.heap.size + 2) i0 Tryd.underlying22 hi hz0 hz1 hz2 v3 _ _ rfl HB5.out.own sa S.length sc S rfl rfl HSn.out (Sl_below HS.out HB5.out.below) (by simp [be_length]; omega) HB5.out.size ?_; intro v4 w6 hown hgrow; have HB6 := mkHid (HB5.out.next' hown rfl hgrow); clear hown hgrow))
  go_ret
  exact ⟨v4, rfl, By.mono (B := w.heap.size + 2) HB6.out.own (by omega), HB6.out.below⟩

end Go.Proofs.YtlllejgpmdeeiaaDoor
