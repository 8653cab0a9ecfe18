/- What header.Put answers where it puts: contracts, a kind each. -/
import Derived.Test.YtlllejgpmdeeiaaDoorPutV
import Derived.Test.YtlllejgpmdeeiaaDoorBegShort
namespace Go.Proofs.YtlllejgpmdeeiaaDoor
open Go.ChangeShapes Go.WideShapes Go.ChangeAt Go.RowKit
set_option linter.unusedVariables false

theorem wiE_2 (v : Int) (h0 : 0 ≤ v) (h1 : v ≤ 16383) : wiE v 2 = 0 := wiE_ok (by rintro (h | h | h) <;> first | omega | (revert h; decide)) (by rw [show lim 2 = 16384 by decide]; omega)
theorem row_c {W : World} {g : Nat} {cs : Array Value} {k ver : Int} {d s t : Value} {len : Int} {ph : Bool} {lv : Value} {tg : List Value} (h : W.heap[g]? = some (.cells cs 26 (0, 0))) (hcs : cs = (hc k ver d s t len ph lv tg).toArray) : W.cell? ⟨g, 0, none⟩ = some (.int .i64 k) ∧ W.cell? ⟨g, 4, none⟩ = some t ∧ W.cell? ⟨g, 5, none⟩ = some (.int .i64 len) ∧ W.cell? ⟨g, 7, none⟩ = some lv := by
  refine ⟨?_, ?_, ?_, ?_⟩ <;> (unfold World.cell?; rw [h, hcs]; rfl)
theorem hc_size' {k ver : Int} {d s t : Value} {len : Int} {ph : Bool} {lv : Value} {tg : List Value} {cs : Array Value} (hcs : cs = (hc k ver d s t len ph lv tg).toArray) (h : tg.length = 16) : cs.size = 24 := by rw [hcs]; exact hc_size h


set_option maxRecDepth 10000 in
set_option maxHeartbeats 1000000 in
theorem put_1 (cs : Array Value) (ver len n : Int) (low : Int) (da sa ta la : Option Addr) (dc sc tc lc : Nat) (D S T : List UInt8) (lst : List Int) (ph : Bool) (tg : List Value) (w : World)
    (hcs : cs = (hc 1 ver (.slice da D.length dc) (.slice sa S.length sc) (.slice ta T.length tc) len ph (.slice la lst.length lc) tg).toArray) (htg : tg.length = 16) (ht : Tb w) (hD : Sl w da D) (hS : Sl w sa S) (hT : Sl w ta T) (hil : Il w la lst)
    (hdn : da = none → D.length = 0 ∧ dc = 0) (hsn : sa = none → S.length = 0 ∧ sc = 0) (htn : ta = none → T.length = 0 ∧ tc = 0) (hTl : T.length ≤ 140737488355328) (hSl : S.length ≤ 140737488355328) (hll : lst.length ≤ 17592186044416) (hlow0 : 0 ≤ low) (hlow1 : low < 18446744073709551616)
    (hmay : mayP 1 len n D.length S.length T.length lst) :
    Calls Tryd.prog 8 #[.agg cs, .int .u64 low, .int .i64 n] w fun e w' => ∃ y, e = .returned (.tuple #[y, .int .i64 ((longB (UInt8.ofNat (207 + n).toNat) 1 D S ++ enc 2 len).length : Nat), .int .i64 0]) ∧ By (w.heap.size + 1) w' y (longB (UInt8.ofNat (207 + n).toNat) 1 D S ++ enc 2 len ++ be n.toNat low.toNat) ∧ Below w.heap.size w w' := by
  have hq : D.length ≤ 20 ∧ S.length ≤ 20 ∧ n ≤ len ∧ len ≤ 16383 ∧ 1 ≤ n ∧ n ≤ 4 := by unfold mayP mayK at hmay; omega
  obtain ⟨q1, q2, q3, q4, q5, q6⟩ := hq
  obtain ⟨X, hX⟩ : ∃ X, longB (UInt8.ofNat (207 + n).toNat) 1 D S = X := ⟨_, rfl⟩
  have hXl : X.length ≤ 64 := by rw [← hX]; simp [longB, be_length]; omega
  obtain ⟨Y, hY⟩ : ∃ Y, X ++ enc 2 len = Y := ⟨_, rfl⟩
  have hel : Y.length ≤ 66 := by rw [← hY, List.length_append, enc_length]; simp; omega
  rw [hX, hY]
  have HX := mkHid hX
  have HY := mkHid hY
  clear hX hY
  obtain ⟨d26, hd26⟩ := hu26
  have HZ := mkHid (hc_size' hcs htg)
  have HM := mkHid hmay
  have HCS := mkHid hcs
  have HT := mkHid ht
  have HD := mkHid hD
  have HS := mkHid hS
  have HTT := mkHid hT
  have HIL := mkHid hil
  have HDn := mkHid hdn
  have HSn := mkHid hsn
  have HTn := mkHid htn
  clear hcs ht hD hS hT hil hdn hsn htn hmay
  have HW1 : Hid (Below w.heap.size w (w.alloc (.cells cs 26))) := (Below.refl w.heap.size w).alloc (Nat.le_refl _) _
  go_enter Tryd.func8, Tryd.ntmps8
  go_wp2_with ((refine wpList_load_row rfl 26 (.tmp 3) rfl w.heap.size rfl 26 cs (0, 0) (.struct d26) (heap_alloc_new w (.cells cs 26)) hd26 rfl (by rw [HZ.out]; exact sz26) ?_))
  refine (may_any 1 cs ver len n da sa ta la D.length dc S.length sc T.length tc lc lst ph tg (w.alloc (.cells cs 26)) HCS.out (by omega) (by omega) (by omega) (by omega) ?_ true (iff_of_true rfl HM.out)).mono ?_
  · intro j hj
    obtain ⟨b, off, he, hc⟩ := HIL.out j hj
    exact ⟨b, off, he, (HW1.out.cell (p := ⟨b, off + j, none⟩) (World.block_lt_of_cell? w _ hc)).trans hc⟩
  rintro e w2 ⟨rfl, hB2⟩
  have HR2 : Hid (w2.heap[w.heap.size]? = some (.cells cs 26 (0, 0))) := (hB2.block w.heap.size (by simp)).trans (heap_alloc_new w _)
  have HB2 : Hid (Below w.heap.size w w2) := HW1.out.trans (hB2.mono (by simp))
  have hlt2 : w.heap.size < w2.heap.size := by have := hB2.size; simp at this; omega
  clear hB2
  go_wp2_with ((refine wpList_load_row rfl 26 (.tmp 3) rfl w.heap.size rfl 26 cs (0, 0) (.struct d26) HR2.out hd26 rfl (by rw [HZ.out]; exact sz26) ?_))
  refine (beg_1 cs ver len n da sa dc sc D S _ _ ph tg w2 HCS.out (Sl_below HD.out HB2.out) (Sl_below HS.out HB2.out) q1 q2 HDn.out HSn.out q5 q6).mono ?_
  rintro e w3 ⟨v, rfl, hby, hB3⟩
  rw [HX.out] at hby
  obtain ⟨ao, cp, rfl, han, hsl, hcp1, hcp2, _⟩ := hby.parts
  have HSL := mkHid hsl
  have HBY := mkHid hby
  have HR3 : Hid (w3.heap[w.heap.size]? = some (.cells cs 26 (0, 0))) := (hB3.block w.heap.size hlt2).trans HR2.out
  have HB3 : Hid (Below w.heap.size w w3) := HB2.out.trans (hB3.mono (by omega))
  have hlt3 : w.heap.size < w3.heap.size := by have := hB3.size; omega
  obtain ⟨c0, c4, c5, c7⟩ := row_c HR3.out HCS.out
  have HT3 := mkHid (Tb_below HT.out HB3.out (Tb_pos HT.out))
  clear hby hsl hB3
  go_wp2_with fail
  refine (putw_any ao X cp len 2 w3 HT3.out HSL.out (by omega)).mono ?_
  rintro e w4 ⟨x, rfl, hres, hB4⟩
  rw [wiE_2 len (by omega) q4] at hres ⊢
  obtain ⟨g4, cp4, cur4, rfl, hg4, hblk, hroom, hsz, hcur⟩ := Res_ok hres
  rw [HY.out] at hroom hcur ⊢
  have HS4 : Hid (Sl w4 (some ⟨g4, 0, none⟩) Y) := Sl_own hblk hcur
  have HB4 : Hid (Below w.heap.size w w4) := HB3.out.trans (hB4.mono (by omega))
  have hlt4 : w.heap.size < w4.heap.size := by have := hB4.size; omega
  clear hres hB4 hblk hcur hsz
  go_wp2_with fail
  refine (put_yes (some ⟨g4, 0, none⟩) Y cp4 low n w4 HS4.out (by omega) hlow0 hlow1 q5 (by omega)).mono ?_
  rintro e w5 ⟨y, rfl, hres, hB5⟩
  have HY5 := mkHid (Res_own hres)
  have HB5 : Hid (Below w.heap.size w w5) := HB4.out.trans (hB5.mono (by omega))
  clear hres hB5
  go_wp2
  go_ret3
  exact ⟨y, rfl, By.mono (B := w4.heap.size) HY5.out (by omega), HB5.out⟩


set_option maxRecDepth 10000 in
set_option maxHeartbeats 1000000 in
theorem put_2 (cs : Array Value) (ver len n : Int) (low : Int) (da sa ta la : Option Addr) (dc sc tc lc : Nat) (D S T : List UInt8) (lst : List Int) (ph : Bool) (tg : List Value) (w : World)
    (hcs : cs = (hc 2 ver (.slice da D.length dc) (.slice sa S.length sc) (.slice ta T.length tc) len ph (.slice la lst.length lc) tg).toArray) (htg : tg.length = 16) (ht : Tb w) (hD : Sl w da D) (hS : Sl w sa S) (hT : Sl w ta T) (hil : Il w la lst)
    (hdn : da = none → D.length = 0 ∧ dc = 0) (hsn : sa = none → S.length = 0 ∧ sc = 0) (htn : ta = none → T.length = 0 ∧ tc = 0) (hTl : T.length ≤ 140737488355328) (hSl : S.length ≤ 140737488355328) (hll : lst.length ≤ 17592186044416) (hlow0 : 0 ≤ low) (hlow1 : low < 18446744073709551616)
    (hmay : mayP 2 len n D.length S.length T.length lst) :
    Calls Tryd.prog 8 #[.agg cs, .int .u64 low, .int .i64 n] w fun e w' => ∃ y, e = .returned (.tuple #[y, .int .i64 ((longB (UInt8.ofNat (223 + n).toNat) 1 D S ++ enc 2 len).length : Nat), .int .i64 0]) ∧ By (w.heap.size + 1) w' y (longB (UInt8.ofNat (223 + n).toNat) 1 D S ++ enc 2 len ++ be n.toNat low.toNat) ∧ Below w.heap.size w w' := by
  have hq : D.length ≤ 20 ∧ S.length ≤ 20 ∧ n ≤ len ∧ len ≤ 16383 ∧ 1 ≤ n ∧ n ≤ 4 := by unfold mayP mayK at hmay; omega
  obtain ⟨q1, q2, q3, q4, q5, q6⟩ := hq
  obtain ⟨X, hX⟩ : ∃ X, longB (UInt8.ofNat (223 + n).toNat) 1 D S = X := ⟨_, rfl⟩
  have hXl : X.length ≤ 64 := by rw [← hX]; simp [longB, be_length]; omega
  obtain ⟨Y, hY⟩ : ∃ Y, X ++ enc 2 len = Y := ⟨_, rfl⟩
  have hel : Y.length ≤ 66 := by rw [← hY, List.length_append, enc_length]; simp; omega
  rw [hX, hY]
  have HX := mkHid hX
  have HY := mkHid hY
  clear hX hY
  obtain ⟨d26, hd26⟩ := hu26
  have HZ := mkHid (hc_size' hcs htg)
  have HM := mkHid hmay
  have HCS := mkHid hcs
  have HT := mkHid ht
  have HD := mkHid hD
  have HS := mkHid hS
  have HTT := mkHid hT
  have HIL := mkHid hil
  have HDn := mkHid hdn
  have HSn := mkHid hsn
  have HTn := mkHid htn
  clear hcs ht hD hS hT hil hdn hsn htn hmay
  have HW1 : Hid (Below w.heap.size w (w.alloc (.cells cs 26))) := (Below.refl w.heap.size w).alloc (Nat.le_refl _) _
  go_enter Tryd.func8, Tryd.ntmps8
  go_wp2_with ((refine wpList_load_row rfl 26 (.tmp 3) rfl w.heap.size rfl 26 cs (0, 0) (.struct d26) (heap_alloc_new w (.cells cs 26)) hd26 rfl (by rw [HZ.out]; exact sz26) ?_))
  refine (may_any 2 cs ver len n da sa ta la D.length dc S.length sc T.length tc lc lst ph tg (w.alloc (.cells cs 26)) HCS.out (by omega) (by omega) (by omega) (by omega) ?_ true (iff_of_true rfl HM.out)).mono ?_
  · intro j hj
    obtain ⟨b, off, he, hc⟩ := HIL.out j hj
    exact ⟨b, off, he, (HW1.out.cell (p := ⟨b, off + j, none⟩) (World.block_lt_of_cell? w _ hc)).trans hc⟩
  rintro e w2 ⟨rfl, hB2⟩
  have HR2 : Hid (w2.heap[w.heap.size]? = some (.cells cs 26 (0, 0))) := (hB2.block w.heap.size (by simp)).trans (heap_alloc_new w _)
  have HB2 : Hid (Below w.heap.size w w2) := HW1.out.trans (hB2.mono (by simp))
  have hlt2 : w.heap.size < w2.heap.size := by have := hB2.size; simp at this; omega
  clear hB2
  go_wp2_with ((refine wpList_load_row rfl 26 (.tmp 3) rfl w.heap.size rfl 26 cs (0, 0) (.struct d26) HR2.out hd26 rfl (by rw [HZ.out]; exact sz26) ?_))
  refine (beg_2 cs ver len n da sa dc sc D S _ _ ph tg w2 HCS.out (Sl_below HD.out HB2.out) (Sl_below HS.out HB2.out) q1 q2 HDn.out HSn.out q5 q6).mono ?_
  rintro e w3 ⟨v, rfl, hby, hB3⟩
  rw [HX.out] at hby
  obtain ⟨ao, cp, rfl, han, hsl, hcp1, hcp2, _⟩ := hby.parts
  have HSL := mkHid hsl
  have HBY := mkHid hby
  have HR3 : Hid (w3.heap[w.heap.size]? = some (.cells cs 26 (0, 0))) := (hB3.block w.heap.size hlt2).trans HR2.out
  have HB3 : Hid (Below w.heap.size w w3) := HB2.out.trans (hB3.mono (by omega))
  have hlt3 : w.heap.size < w3.heap.size := by have := hB3.size; omega
  obtain ⟨c0, c4, c5, c7⟩ := row_c HR3.out HCS.out
  have HT3 := mkHid (Tb_below HT.out HB3.out (Tb_pos HT.out))
  clear hby hsl hB3
  go_wp2_with fail
  refine (putw_any ao X cp len 2 w3 HT3.out HSL.out (by omega)).mono ?_
  rintro e w4 ⟨x, rfl, hres, hB4⟩
  rw [wiE_2 len (by omega) q4] at hres ⊢
  obtain ⟨g4, cp4, cur4, rfl, hg4, hblk, hroom, hsz, hcur⟩ := Res_ok hres
  rw [HY.out] at hroom hcur ⊢
  have HS4 : Hid (Sl w4 (some ⟨g4, 0, none⟩) Y) := Sl_own hblk hcur
  have HB4 : Hid (Below w.heap.size w w4) := HB3.out.trans (hB4.mono (by omega))
  have hlt4 : w.heap.size < w4.heap.size := by have := hB4.size; omega
  clear hres hB4 hblk hcur hsz
  go_wp2_with fail
  refine (put_yes (some ⟨g4, 0, none⟩) Y cp4 low n w4 HS4.out (by omega) hlow0 hlow1 q5 (by omega)).mono ?_
  rintro e w5 ⟨y, rfl, hres, hB5⟩
  have HY5 := mkHid (Res_own hres)
  have HB5 : Hid (Below w.heap.size w w5) := HB4.out.trans (hB5.mono (by omega))
  clear hres hB5
  go_wp2
  go_ret3
  exact ⟨y, rfl, By.mono (B := w4.heap.size) HY5.out (by omega), HB5.out⟩


set_option maxRecDepth 10000 in
set_option maxHeartbeats 1000000 in
theorem put_5 (cs : Array Value) (ver len n : Int) (low : Int) (da sa ta la : Option Addr) (dc sc tc lc : Nat) (D S T : List UInt8) (lst : List Int) (ph : Bool) (tg : List Value) (w : World)
    (hcs : cs = (hc 5 ver (.slice da D.length dc) (.slice sa S.length sc) (.slice ta T.length tc) len ph (.slice la lst.length lc) tg).toArray) (htg : tg.length = 16) (ht : Tb w) (hD : Sl w da D) (hS : Sl w sa S) (hT : Sl w ta T) (hil : Il w la lst)
    (hdn : da = none → D.length = 0 ∧ dc = 0) (hsn : sa = none → S.length = 0 ∧ sc = 0) (htn : ta = none → T.length = 0 ∧ tc = 0) (hTl : T.length ≤ 140737488355328) (hSl : S.length ≤ 140737488355328) (hll : lst.length ≤ 17592186044416) (hlow0 : 0 ≤ low) (hlow1 : low < 18446744073709551616)
    (hmay : mayP 5 len n D.length S.length T.length lst) :
    Calls Tryd.prog 8 #[.agg cs, .int .u64 low, .int .i64 n] w fun e w' => ∃ y, e = .returned (.tuple #[y, .int .i64 (([UInt8.ofNat (sB ph n).toNat] ++ D).length : Nat), .int .i64 0]) ∧ By (w.heap.size + 1) w' y ([UInt8.ofNat (sB ph n).toNat] ++ D ++ be n.toNat low.toNat) ∧ Below w.heap.size w w' := by
  have hq : D.length ≤ 20 ∧ 1 ≤ n ∧ n ≤ 4 := by unfold mayP mayK at hmay; omega
  obtain ⟨q1, q5, q6⟩ := hq
  obtain ⟨X, hX⟩ : ∃ X, [UInt8.ofNat (sB ph n).toNat] ++ D = X := ⟨_, rfl⟩
  have hXl : X.length ≤ 64 := by rw [← hX]; simp; omega
  rw [hX]
  have HX := mkHid hX
  clear hX
  obtain ⟨d26, hd26⟩ := hu26
  have HZ := mkHid (hc_size' hcs htg)
  have HM := mkHid hmay
  have HCS := mkHid hcs
  have HT := mkHid ht
  have HD := mkHid hD
  have HS := mkHid hS
  have HTT := mkHid hT
  have HIL := mkHid hil
  have HDn := mkHid hdn
  have HSn := mkHid hsn
  have HTn := mkHid htn
  clear hcs ht hD hS hT hil hdn hsn htn hmay
  have HW1 : Hid (Below w.heap.size w (w.alloc (.cells cs 26))) := (Below.refl w.heap.size w).alloc (Nat.le_refl _) _
  go_enter Tryd.func8, Tryd.ntmps8
  go_wp2_with ((refine wpList_load_row rfl 26 (.tmp 3) rfl w.heap.size rfl 26 cs (0, 0) (.struct d26) (heap_alloc_new w (.cells cs 26)) hd26 rfl (by rw [HZ.out]; exact sz26) ?_))
  refine (may_any 5 cs ver len n da sa ta la D.length dc S.length sc T.length tc lc lst ph tg (w.alloc (.cells cs 26)) HCS.out (by omega) (by omega) (by omega) (by omega) ?_ true (iff_of_true rfl HM.out)).mono ?_
  · intro j hj
    obtain ⟨b, off, he, hc⟩ := HIL.out j hj
    exact ⟨b, off, he, (HW1.out.cell (p := ⟨b, off + j, none⟩) (World.block_lt_of_cell? w _ hc)).trans hc⟩
  rintro e w2 ⟨rfl, hB2⟩
  have HR2 : Hid (w2.heap[w.heap.size]? = some (.cells cs 26 (0, 0))) := (hB2.block w.heap.size (by simp)).trans (heap_alloc_new w _)
  have HB2 : Hid (Below w.heap.size w w2) := HW1.out.trans (hB2.mono (by simp))
  have hlt2 : w.heap.size < w2.heap.size := by have := hB2.size; simp at this; omega
  clear hB2
  go_wp2_with ((refine wpList_load_row rfl 26 (.tmp 3) rfl w.heap.size rfl 26 cs (0, 0) (.struct d26) HR2.out hd26 rfl (by rw [HZ.out]; exact sz26) ?_))
  refine (beg_5 cs ver len n da dc D _ _ _ ph tg w2 HCS.out (Sl_below HD.out HB2.out) q1 HDn.out q5 q6).mono ?_
  rintro e w3 ⟨v, rfl, hby, hB3⟩
  rw [HX.out] at hby
  obtain ⟨ao, cp, rfl, han, hsl, hcp1, hcp2, _⟩ := hby.parts
  have HSL := mkHid hsl
  have HBY := mkHid hby
  have HR3 : Hid (w3.heap[w.heap.size]? = some (.cells cs 26 (0, 0))) := (hB3.block w.heap.size hlt2).trans HR2.out
  have HB3 : Hid (Below w.heap.size w w3) := HB2.out.trans (hB3.mono (by omega))
  have hlt3 : w.heap.size < w3.heap.size := by have := hB3.size; omega
  obtain ⟨c0, c4, c5, c7⟩ := row_c HR3.out HCS.out
  have HT3 := mkHid (Tb_below HT.out HB3.out (Tb_pos HT.out))
  clear hby hsl hB3
  go_wp2_with fail
  refine (put_yes ao X cp low n w3 HSL.out (by omega) hlow0 hlow1 q5 (by omega)).mono ?_
  rintro e w5 ⟨y, rfl, hres, hB5⟩
  have HY5 := mkHid (Res_own hres)
  have HB5 : Hid (Below w.heap.size w w5) := HB3.out.trans (hB5.mono (by omega))
  clear hres hB5
  go_wp2
  go_ret3
  exact ⟨y, rfl, By.mono (B := w3.heap.size) HY5.out (by omega), HB5.out⟩


theorem vaE_0 (v : Int) (h0 : 0 ≤ v) (h1 : v ≤ 512) : vaE v = 0 := vaE_ok (by omega)
set_option maxRecDepth 10000 in
set_option maxHeartbeats 1000000 in
theorem put_0 (cs : Array Value) (ver len n : Int) (low : Int) (da sa ta la : Option Addr) (dc sc tc lc : Nat) (D S T : List UInt8) (lst : List Int) (ph : Bool) (tg : List Value) (w : World)
    (hcs : cs = (hc 0 ver (.slice da D.length dc) (.slice sa S.length sc) (.slice ta T.length tc) len ph (.slice la lst.length lc) tg).toArray) (htg : tg.length = 16) (ht : Tb w) (hD : Sl w da D) (hS : Sl w sa S) (hT : Sl w ta T) (hil : Il w la lst)
    (hdn : da = none → D.length = 0 ∧ dc = 0) (hsn : sa = none → S.length = 0 ∧ sc = 0) (htn : ta = none → T.length = 0 ∧ tc = 0) (hTl : T.length ≤ 140737488355328) (hSl : S.length ≤ 140737488355328) (hll : lst.length ≤ 17592186044416) (hlow0 : 0 ≤ low) (hlow1 : low < 18446744073709551616)
    (hmay : mayP 0 len n D.length S.length T.length lst) :
    Calls Tryd.prog 8 #[.agg cs, .int .u64 low, .int .i64 n] w fun e w' => ∃ y, e = .returned (.tuple #[y, .int .i64 ((longB (UInt8.ofNat (191 + n).toNat) 1 D S ++ enc (szN T.length) T.length ++ T ++ enc 2 len).length : Nat), .int .i64 0]) ∧ By (w.heap.size + 1) w' y (longB (UInt8.ofNat (191 + n).toNat) 1 D S ++ enc (szN T.length) T.length ++ T ++ enc 2 len ++ be n.toNat low.toNat) ∧ Below w.heap.size w w' := by
  obtain ⟨i0, hi, hz0, hz1, hz2⟩ := info_parts info5
  have hq : D.length ≤ 20 ∧ S.length ≤ 20 ∧ T.length ≤ 512 ∧ n ≤ len ∧ len ≤ 16383 ∧ 1 ≤ n ∧ n ≤ 4 := by unfold mayP mayK at hmay; omega
  obtain ⟨q1, q2, q7, q3, q4, q5, q6⟩ := hq
  obtain ⟨X, hX⟩ : ∃ X, longB (UInt8.ofNat (191 + n).toNat) 1 D S = X := ⟨_, rfl⟩
  have hXl : X.length ≤ 64 := by rw [← hX]; simp [longB, be_length]; omega
  have hsz8 := szN_le (T.length : Int)
  obtain ⟨X1, hX1⟩ : ∃ X1, X ++ enc (szN T.length) T.length = X1 := ⟨_, rfl⟩
  have hX1l : X1.length ≤ 72 := by rw [← hX1, List.length_append, enc_length]; omega
  obtain ⟨X2, hX2⟩ : ∃ X2, X1 ++ T = X2 := ⟨_, rfl⟩
  have hX2l : X2.length = X1.length + T.length := by rw [← hX2, List.length_append]
  obtain ⟨Y, hY⟩ : ∃ Y, X2 ++ enc 2 len = Y := ⟨_, rfl⟩
  have hel : Y.length ≤ 600 := by rw [← hY, List.length_append, enc_length]; simp; omega
  rw [hX, hX1, hX2, hY]
  have HX := mkHid hX
  have HX1 := mkHid hX1
  have HX2 := mkHid hX2
  have HX2l := mkHid hX2l
  have HY := mkHid hY
  clear hX hX1 hX2 hY hX2l hsz8
  obtain ⟨d26, hd26⟩ := hu26
  have HZ := mkHid (hc_size' hcs htg)
  have HM := mkHid hmay
  have HCS := mkHid hcs
  have HT := mkHid ht
  have HD := mkHid hD
  have HS := mkHid hS
  have HTT := mkHid hT
  have HIL := mkHid hil
  have HDn := mkHid hdn
  have HSn := mkHid hsn
  have HTn := mkHid htn
  clear hcs ht hD hS hT hil hdn hsn htn hmay
  have HW1 : Hid (Below w.heap.size w (w.alloc (.cells cs 26))) := (Below.refl w.heap.size w).alloc (Nat.le_refl _) _
  go_enter Tryd.func8, Tryd.ntmps8
  go_wp2_with ((refine wpList_load_row rfl 26 (.tmp 3) rfl w.heap.size rfl 26 cs (0, 0) (.struct d26) (heap_alloc_new w (.cells cs 26)) hd26 rfl (by rw [HZ.out]; exact sz26) ?_))
  refine (may_any 0 cs ver len n da sa ta la D.length dc S.length sc T.length tc lc lst ph tg (w.alloc (.cells cs 26)) HCS.out (by omega) (by omega) (by omega) (by omega) ?_ true (iff_of_true rfl HM.out)).mono ?_
  · intro j hj
    obtain ⟨b, off, he, hc⟩ := HIL.out j hj
    exact ⟨b, off, he, (HW1.out.cell (p := ⟨b, off + j, none⟩) (World.block_lt_of_cell? w _ hc)).trans hc⟩
  rintro e w2 ⟨rfl, hB2⟩
  have HR2 : Hid (w2.heap[w.heap.size]? = some (.cells cs 26 (0, 0))) := (hB2.block w.heap.size (by simp)).trans (heap_alloc_new w _)
  have HB2 : Hid (Below w.heap.size w w2) := HW1.out.trans (hB2.mono (by simp))
  have hlt2 : w.heap.size < w2.heap.size := by have := hB2.size; simp at this; omega
  clear hB2
  go_wp2_with ((refine wpList_load_row rfl 26 (.tmp 3) rfl w.heap.size rfl 26 cs (0, 0) (.struct d26) HR2.out hd26 rfl (by rw [HZ.out]; exact sz26) ?_))
  refine (beg_0 cs ver len n da sa dc sc D S _ _ ph tg w2 HCS.out (Sl_below HD.out HB2.out) (Sl_below HS.out HB2.out) q1 q2 HDn.out HSn.out q5 q6).mono ?_
  rintro e w3 ⟨v, rfl, hby, hB3⟩
  rw [HX.out] at hby
  obtain ⟨ao, cp, rfl, han, hsl, hcp1, hcp2, _⟩ := hby.parts
  have HSL := mkHid hsl
  have HBY := mkHid hby
  have HR3 : Hid (w3.heap[w.heap.size]? = some (.cells cs 26 (0, 0))) := (hB3.block w.heap.size hlt2).trans HR2.out
  have HB3 : Hid (Below w.heap.size w w3) := HB2.out.trans (hB3.mono (by omega))
  have hlt3 : w.heap.size < w3.heap.size := by have := hB3.size; omega
  obtain ⟨c0, c4, c5, c7⟩ := row_c HR3.out HCS.out
  have HT3 := mkHid (Tb_below HT.out HB3.out (Tb_pos HT.out))
  clear hby hsl hB3
  go_wp2_with fail
  refine (putv_any ao X cp T.length w3 HT3.out HSL.out (by omega)).mono ?_
  rintro e w4 ⟨x, rfl, hres, hB4⟩
  rw [vaE_0 T.length (by omega) (by omega)] at hres ⊢
  rw [HX1.out] at hres
  have hown4 := Res_own hres
  have h0x : 0 < X1.length := by rw [← HX1.out, List.length_append, ← HX.out]; simp [longB]; omega
  have HO4 := mkHid hown4
  have HR4 : Hid (w4.heap[w.heap.size]? = some (.cells cs 26 (0, 0))) := (hB4.block w.heap.size hlt3).trans HR3.out
  have HB4 : Hid (Below w.heap.size w w4) := HB3.out.trans (hB4.mono (by omega))
  have hs34 := hB4.size
  obtain ⟨e0, e4, e5, e7⟩ := row_c HR4.out HCS.out
  have HT4 := mkHid (Sl_below HTT.out HB4.out)
  clear hres hB4 hown4
  go_wp2_with ((at_builtin; refine wpList_append_bytes rfl (.tmp 37) (.tmp 39) rfl w3.heap.size i0 Tryd.underlying22 hi hz0 hz1 hz2 x X1.length (bc X1) rfl HO4.out ta T.length tc T rfl rfl HTn.out HT4.out (by omega) hs34 ?_; intro v5 w5 hown hgrow; have HO5 := mkHid hown; have HG5 := mkHid hgrow; clear hown hgrow; obtain ⟨g5, cp5, cur5, hv5, hg5, hblk5, hroom5, _, hsz5, hcur5⟩ := own_shape HO5.out (by omega); rw [← HX2l.out] at hv5 hcur5; subst hv5; have HSL5 : Hid (Sl w5 (some ⟨g5, 0, none⟩) X2) := (by refine Sl_own hblk5 ?_; rw [hcur5, ← bc_append, HX2.out]); have HR5 : Hid (w5.heap[w.heap.size]? = some (.cells cs 26 (0, 0))) := (HG5.out.block w.heap.size (by omega) (fun e => by have := (HO4.out.lt _ e.symm).1; omega)).trans HR4.out; have HB5 : Hid (Below w.heap.size w w5) := HB4.out.grown HG5.out (by omega) (fun k hk => by have := (HO4.out.lt k hk).1; omega); have hs45 := HG5.out.size; obtain ⟨f0, f4, f5, f7⟩ := row_c HR5.out HCS.out; clear hblk5 hcur5 hsz5))
  refine (putw_any (some ⟨g5, 0, none⟩) X2 cp5 len 2 w5 (Tb_below HT.out HB5.out (Tb_pos HT.out)) HSL5.out (by have := HX2l.out; omega)).mono ?_
  rintro e w6 ⟨x6, rfl, hres, hB6⟩
  rw [wiE_2 len (by omega) q4] at hres ⊢
  obtain ⟨g6, cp6, cur6, rfl, hg6, hblk, hroom, hsz, hcur⟩ := Res_ok hres
  rw [HY.out] at hroom hcur ⊢
  have HS6 : Hid (Sl w6 (some ⟨g6, 0, none⟩) Y) := Sl_own hblk hcur
  have HB6 : Hid (Below w.heap.size w w6) := HB5.out.trans (hB6.mono (by omega))
  have hlt6 : w.heap.size < w6.heap.size := by have := hB6.size; omega
  clear hres hB6 hblk hcur hsz
  go_wp2_with fail
  refine (put_yes (some ⟨g6, 0, none⟩) Y cp6 low n w6 HS6.out (by omega) hlow0 hlow1 q5 (by omega)).mono ?_
  rintro e w7 ⟨y, rfl, hres, hB7⟩
  have HY7 := mkHid (Res_own hres)
  have HB7 : Hid (Below w.heap.size w w7) := HB6.out.trans (hB7.mono (by omega))
  clear hres hB7
  go_wp2
  go_ret3
  exact ⟨y, rfl, By.mono (B := w6.heap.size) HY7.out (by omega), HB7.out⟩


theorem tag_sl {W : World} {g : Nat} {cs : Array Value} {k ver : Int} {d s t : Value} {len : Int} {ph : Bool} {lv : Value} {tag : List UInt8} (h : W.heap[g]? = some (.cells cs 26 (0, 0))) (hcs : cs = (hc k ver d s t len ph lv (bc tag)).toArray) : Sl W (some ⟨g, 8, none⟩) tag := by
  intro j hj
  refine ⟨g, 8, rfl, ?_⟩
  unfold World.cell?
  rw [h, hcs]
  unfold hc
  have e : ([.int .i64 k, .int .i64 ver, d, s, t, .int .i64 len, .bool ph, lv] ++ bc tag)[8 + j]? = some (.int .u8 (tag[j].toNat)) := by
    rw [List.getElem?_append_right (by simp)]
    simp [bc, hj]
  simpa using e
set_option maxRecDepth 10000 in
set_option maxHeartbeats 1000000 in
theorem put_3 (tag : List UInt8) (cs : Array Value) (ver len n : Int) (low : Int) (da sa ta la : Option Addr) (dc sc tc lc : Nat) (D S T : List UInt8) (lst : List Int) (ph : Bool) (tg : List Value) (w : World)
    (hcs : cs = (hc 3 ver (.slice da D.length dc) (.slice sa S.length sc) (.slice ta T.length tc) len ph (.slice la lst.length lc) tg).toArray) (htg : tg.length = 16) (ht : Tb w) (hD : Sl w da D) (hS : Sl w sa S) (hT : Sl w ta T) (hil : Il w la lst)
    (hdn : da = none → D.length = 0 ∧ dc = 0) (hsn : sa = none → S.length = 0 ∧ sc = 0) (htn : ta = none → T.length = 0 ∧ tc = 0) (hTl : T.length ≤ 140737488355328) (hSl : S.length ≤ 140737488355328) (hll : lst.length ≤ 17592186044416) (hlow0 : 0 ≤ low) (hlow1 : low < 18446744073709551616)
    (hmay : mayP 3 len n D.length S.length T.length lst) (htag : tg = bc tag) :
    Calls Tryd.prog 8 #[.agg cs, .int .u64 low, .int .i64 n] w fun e w' => ∃ y, e = .returned (.tuple #[y, .int .i64 ((longB (UInt8.ofNat (240 : Int).toNat) 1 D S ++ T ++ tag).length : Nat), .int .i64 0]) ∧ By (w.heap.size + 1) w' y (longB (UInt8.ofNat (240 : Int).toNat) 1 D S ++ T ++ tag) ∧ Below w.heap.size w w' := by
  obtain ⟨i0, hi, hz0, hz1, hz2⟩ := info_parts info5
  have hq : D.length ≤ 20 ∧ S.length ≤ 20 ∧ T.length ≤ 512 := by unfold mayP mayK at hmay; omega
  obtain ⟨q1, q2, q7⟩ := hq
  have htl : tag.length = 16 := by rw [htag, bc_length] at htg; exact htg
  obtain ⟨X, hX⟩ : ∃ X, longB (UInt8.ofNat (240 : Int).toNat) 1 D S = X := ⟨_, rfl⟩
  have hXl : X.length ≤ 64 := by rw [← hX]; simp [longB, be_length]; omega
  obtain ⟨X2, hX2⟩ : ∃ X2, X ++ T = X2 := ⟨_, rfl⟩
  have hX2l : X2.length = X.length + T.length := by rw [← hX2, List.length_append]
  obtain ⟨Y, hY⟩ : ∃ Y, X2 ++ tag = Y := ⟨_, rfl⟩
  have hYl : Y.length = X2.length + 16 := by rw [← hY, List.length_append, htl]
  rw [hX, hX2, hY]
  have HX := mkHid hX
  have HX2 := mkHid hX2
  have HX2l := mkHid hX2l
  have HY := mkHid hY
  have HYl := mkHid hYl
  have HTAG := mkHid htag
  clear hX hX2 hY hX2l hYl htag
  obtain ⟨d26, hd26⟩ := hu26
  have HZ := mkHid (hc_size' hcs htg)
  have HM := mkHid hmay
  have HCS := mkHid hcs
  have HT := mkHid ht
  have HD := mkHid hD
  have HS := mkHid hS
  have HTT := mkHid hT
  have HIL := mkHid hil
  have HDn := mkHid hdn
  have HSn := mkHid hsn
  have HTn := mkHid htn
  clear hcs ht hD hS hT hil hdn hsn htn hmay
  have HW1 : Hid (Below w.heap.size w (w.alloc (.cells cs 26))) := (Below.refl w.heap.size w).alloc (Nat.le_refl _) _
  go_enter Tryd.func8, Tryd.ntmps8
  go_wp2_with ((refine wpList_load_row rfl 26 (.tmp 3) rfl w.heap.size rfl 26 cs (0, 0) (.struct d26) (heap_alloc_new w (.cells cs 26)) hd26 rfl (by rw [HZ.out]; exact sz26) ?_))
  refine (may_any 3 cs ver len n da sa ta la D.length dc S.length sc T.length tc lc lst ph tg (w.alloc (.cells cs 26)) HCS.out (by omega) (by omega) (by omega) (by omega) ?_ true (iff_of_true rfl HM.out)).mono ?_
  · intro j hj
    obtain ⟨b, off, he, hc⟩ := HIL.out j hj
    exact ⟨b, off, he, (HW1.out.cell (p := ⟨b, off + j, none⟩) (World.block_lt_of_cell? w _ hc)).trans hc⟩
  rintro e w2 ⟨rfl, hB2⟩
  have HR2 : Hid (w2.heap[w.heap.size]? = some (.cells cs 26 (0, 0))) := (hB2.block w.heap.size (by simp)).trans (heap_alloc_new w _)
  have HB2 : Hid (Below w.heap.size w w2) := HW1.out.trans (hB2.mono (by simp))
  have hlt2 : w.heap.size < w2.heap.size := by have := hB2.size; simp at this; omega
  clear hB2
  go_wp2_with ((refine wpList_load_row rfl 26 (.tmp 3) rfl w.heap.size rfl 26 cs (0, 0) (.struct d26) HR2.out hd26 rfl (by rw [HZ.out]; exact sz26) ?_))
  refine (beg_3 cs ver len n da sa dc sc D S _ _ ph tg w2 HCS.out (Sl_below HD.out HB2.out) (Sl_below HS.out HB2.out) q1 q2 HDn.out HSn.out).mono ?_
  rintro e w3 ⟨v, rfl, hby, hB3⟩
  rw [HX.out] at hby
  obtain ⟨ao, cp, rfl, han, hsl, hcp1, hcp2, _⟩ := hby.parts
  have HSL := mkHid hsl
  have HBY := mkHid hby
  have HR3 : Hid (w3.heap[w.heap.size]? = some (.cells cs 26 (0, 0))) := (hB3.block w.heap.size hlt2).trans HR2.out
  have HB3 : Hid (Below w.heap.size w w3) := HB2.out.trans (hB3.mono (by omega))
  have hlt3 : w.heap.size < w3.heap.size := by have := hB3.size; omega
  obtain ⟨c0, c4, c5, c7⟩ := row_c HR3.out HCS.out
  have HT3 := mkHid (Tb_below HT.out HB3.out (Tb_pos HT.out))
  clear hby hsl hB3
  have h0x : 0 < X.length := by rw [← HX.out]; simp [longB]
  have HTs3 := mkHid (Sl_below HTT.out HB3.out)
  have hbs : w2.heap.size + 1 ≤ w3.heap.size := by
    obtain ⟨hl', ⟨_, h'⟩ | ⟨g', c', u', he', k1, k2, _⟩⟩ := HBY.out
    · omega
    · have := lt_block k2; omega
  go_wp2_with (first
    | (at_builtin; refine wpList_append_bytes rfl (.tmp 59) (.tmp 61) rfl (w2.heap.size + 1) i0 Tryd.underlying22 hi hz0 hz1 hz2 (.slice ao X.length cp) X.length (bc X) rfl HBY.out ta T.length tc T rfl rfl HTn.out HTs3.out (by omega) hbs ?_; intro v5 w5 hown hgrow; have HO5 := mkHid hown; have HG5 := mkHid hgrow; clear hown hgrow; have HR5 : Hid (w5.heap[w.heap.size]? = some (.cells cs 26 (0, 0))) := (HG5.out.block w.heap.size (by omega) (fun e => by have := (HBY.out.lt _ e.symm).1; omega)).trans HR3.out; have HB5 : Hid (Below w.heap.size w w5) := HB3.out.grown HG5.out (by omega) (fun k hk => by have := (HBY.out.lt k hk).1; omega); have hs45 := HG5.out.size)
    | (at_builtin; refine wpList_append_bytes rfl (.tmp 63) (.tmp 65) rfl (w2.heap.size + 1) i0 Tryd.underlying22 hi hz0 hz1 hz2 v5 (X.length + T.length) (bc X ++ bc T) rfl HO5.out (some ⟨w.heap.size, 8, none⟩) 16 16 tag rfl htl (fun h => by cases h) (tag_sl HR5.out (by rw [← HTAG.out]; exact HCS.out)) (by omega) (by omega) ?_; intro v6 w6 hown hgrow; have HO6 := mkHid hown; have HG6 := mkHid hgrow; clear hown hgrow; have HB6 : Hid (Below w.heap.size w w6) := HB5.out.grown HG6.out (by omega) (fun k hk => by have := (HO5.out.lt k hk).1; omega); obtain ⟨g6, cp6, cur6, hv6, _⟩ := own_shape HO6.out (by omega); rw [← HX2l.out, ← HYl.out] at hv6; subst hv6))
  go_ret3
  refine ⟨_, rfl, ?_, HB6.out⟩
  have ho := HO6.out
  rw [← bc_append, HX2.out, ← bc_append, HY.out, ← HX2l.out, ← HYl.out] at ho
  exact By.mono (B := w2.heap.size + 1) ho (by omega)


set_option maxRecDepth 10000 in
set_option maxHeartbeats 1000000 in
theorem put_4 (cs : Array Value) (ver len n : Int) (low : Int) (da sa ta la : Option Addr) (dc sc tc lc : Nat) (D S T : List UInt8) (lst : List Int) (ph : Bool) (tg : List Value) (w : World)
    (hcs : cs = (hc 4 ver (.slice da D.length dc) (.slice sa S.length sc) (.slice ta T.length tc) len ph (.slice la lst.length lc) tg).toArray) (htg : tg.length = 16) (ht : Tb w) (hD : Sl w da D) (hS : Sl w sa S) (hT : Sl w ta T) (hil : Il w la lst)
    (hdn : da = none → D.length = 0 ∧ dc = 0) (hsn : sa = none → S.length = 0 ∧ sc = 0) (htn : ta = none → T.length = 0 ∧ tc = 0) (hTl : T.length ≤ 140737488355328) (hSl : S.length ≤ 140737488355328) (hll : lst.length ≤ 17592186044416) (hlow0 : 0 ≤ low) (hlow1 : low < 18446744073709551616)
    (hmay : mayP 4 len n D.length S.length T.length lst) (hla : ∀ ad, la = some ad → ad.block < w.heap.size) :
    Calls Tryd.prog 8 #[.agg cs, .int .u64 low, .int .i64 n] w fun e w' => ∃ y, e = .returned (.tuple #[y, .int .i64 ((longB (UInt8.ofNat (192 : Int).toNat) 0 D S ++ vB lst).length : Nat), .int .i64 0]) ∧ By (w.heap.size + 1) w' y (longB (UInt8.ofNat (192 : Int).toNat) 0 D S ++ vB lst) ∧ Below w.heap.size w w' := by
  have hq : D.length ≤ 20 ∧ S.length ≤ 20 ∧ 0 < lst.length ∧ lst.any noV = false := by
    obtain ⟨m1, m2, m3⟩ := hmay
    rcases m3 with ⟨h, _⟩ | ⟨h, _⟩ | ⟨h, _⟩ | ⟨h, _⟩ | ⟨_, h1, h2⟩
    · cases h
    · rcases h with h | h <;> cases h
    · cases h
    · cases h
    · refine ⟨m1, ?_, h1, h2⟩
      rcases m2 with h | h
      · cases h
      · exact h
  obtain ⟨q1, q2, q7, q8⟩ := hq
  obtain ⟨X, hX⟩ : ∃ X, longB (UInt8.ofNat (192 : Int).toNat) 0 D S = X := ⟨_, rfl⟩
  have hXl : X.length ≤ 64 := by rw [← hX]; simp [longB, be_length]; omega
  rw [hX]
  obtain ⟨Y, hY⟩ : ∃ Y, X ++ vB lst = Y := ⟨_, rfl⟩
  have hYl : Y.length ≤ 70368744177728 ∧ 0 < Y.length := by rw [← hY, List.length_append, vB_length]; omega
  rw [hY]
  have HX := mkHid hX
  have HY := mkHid hY
  have HLA := mkHid hla
  have HQ8 := mkHid q8
  clear hX hla q8 hY
  obtain ⟨d26, hd26⟩ := hu26
  have HZ := mkHid (hc_size' hcs htg)
  have HM := mkHid hmay
  have HCS := mkHid hcs
  have HT := mkHid ht
  have HD := mkHid hD
  have HS := mkHid hS
  have HTT := mkHid hT
  have HIL := mkHid hil
  have HDn := mkHid hdn
  have HSn := mkHid hsn
  have HTn := mkHid htn
  clear hcs ht hD hS hT hil hdn hsn htn hmay
  have HW1 : Hid (Below w.heap.size w (w.alloc (.cells cs 26))) := (Below.refl w.heap.size w).alloc (Nat.le_refl _) _
  go_enter Tryd.func8, Tryd.ntmps8
  go_wp2_with ((refine wpList_load_row rfl 26 (.tmp 3) rfl w.heap.size rfl 26 cs (0, 0) (.struct d26) (heap_alloc_new w (.cells cs 26)) hd26 rfl (by rw [HZ.out]; exact sz26) ?_))
  refine (may_any 4 cs ver len n da sa ta la D.length dc S.length sc T.length tc lc lst ph tg (w.alloc (.cells cs 26)) HCS.out (by omega) (by omega) (by omega) (by omega) ?_ true (iff_of_true rfl HM.out)).mono ?_
  · intro j hj
    obtain ⟨b, off, he, hc⟩ := HIL.out j hj
    exact ⟨b, off, he, (HW1.out.cell (p := ⟨b, off + j, none⟩) (World.block_lt_of_cell? w _ hc)).trans hc⟩
  rintro e w2 ⟨rfl, hB2⟩
  have HR2 : Hid (w2.heap[w.heap.size]? = some (.cells cs 26 (0, 0))) := (hB2.block w.heap.size (by simp)).trans (heap_alloc_new w _)
  have HB2 : Hid (Below w.heap.size w w2) := HW1.out.trans (hB2.mono (by simp))
  have hlt2 : w.heap.size < w2.heap.size := by have := hB2.size; simp at this; omega
  clear hB2
  go_wp2_with ((refine wpList_load_row rfl 26 (.tmp 3) rfl w.heap.size rfl 26 cs (0, 0) (.struct d26) HR2.out hd26 rfl (by rw [HZ.out]; exact sz26) ?_))
  refine (beg_4 cs ver len n da sa dc sc D S _ _ ph tg w2 HCS.out (Sl_below HD.out HB2.out) (Sl_below HS.out HB2.out) q1 q2 HDn.out HSn.out).mono ?_
  rintro e w3 ⟨v, rfl, hby, hB3⟩
  rw [HX.out] at hby
  obtain ⟨ao, cp, rfl, han, hsl, hcp1, hcp2, _⟩ := hby.parts
  have HSL := mkHid hsl
  have HBY := mkHid hby
  have HR3 : Hid (w3.heap[w.heap.size]? = some (.cells cs 26 (0, 0))) := (hB3.block w.heap.size hlt2).trans HR2.out
  have HB3 : Hid (Below w.heap.size w w3) := HB2.out.trans (hB3.mono (by omega))
  have hlt3 : w.heap.size < w3.heap.size := by have := hB3.size; omega
  obtain ⟨c0, c4, c5, c7⟩ := row_c HR3.out HCS.out
  have HT3 := mkHid (Tb_below HT.out HB3.out (Tb_pos HT.out))
  clear hby hsl hB3
  have h0x : 0 < X.length := by rw [← HX.out]; simp [longB]
  have hbs : w2.heap.size + 1 ≤ w3.heap.size := by
    obtain ⟨hl', ⟨_, h'⟩ | ⟨g', c', u', he', k1, k2, _⟩⟩ := HBY.out
    · omega
    · have := lt_block k2; omega
  go_wp2_with fail
  refine (putVersions_any (w2.heap.size + 1) _ X la lst lc w3 HBY.out hbs ?_ (fun ad h => by have := HLA.out ad h; omega) HQ8.out (by omega) (by omega)).mono ?_
  · intro j hj
    obtain ⟨b, off, he, hc⟩ := HIL.out j hj
    exact ⟨b, off, he, (HB3.out.cell (p := ⟨b, off + j, none⟩) (World.block_lt_of_cell? w _ hc)).trans hc⟩
  rintro e w4 ⟨y, rfl, hby4, hB4⟩
  rw [HY.out] at hby4
  have HB4 : Hid (Below w.heap.size w w4) := HB3.out.trans (hB4.mono (by omega))
  obtain ⟨oy, cy, rfl, _⟩ := hby4.parts
  have HBY4 := mkHid hby4
  clear hby4 hB4
  go_wp2
  go_ret3
  exact ⟨_, rfl, By.mono (B := w2.heap.size + 1) HBY4.out (by omega), HB4.out⟩


set_option maxRecDepth 10000 in
set_option maxHeartbeats 1000000 in
theorem put_not (k : Int) (cs : Array Value) (ver len n : Int) (low : Int) (da sa ta la : Option Addr) (dc sc tc lc : Nat) (D S T : List UInt8) (lst : List Int) (ph : Bool) (tg : List Value) (w : World)
    (hcs : cs = (hc k ver (.slice da D.length dc) (.slice sa S.length sc) (.slice ta T.length tc) len ph (.slice la lst.length lc) tg).toArray) (htg : tg.length = 16) (ht : Tb w) (hD : Sl w da D) (hS : Sl w sa S) (hT : Sl w ta T) (hil : Il w la lst)
    (hdn : da = none → D.length = 0 ∧ dc = 0) (hsn : sa = none → S.length = 0 ∧ sc = 0) (htn : ta = none → T.length = 0 ∧ tc = 0) (hDbound : D.length ≤ 9223372036854775000) (hTl : T.length ≤ 140737488355328) (hSl : S.length ≤ 140737488355328) (hll : lst.length ≤ 17592186044416) (hlow0 : 0 ≤ low) (hlow1 : low < 18446744073709551616)
    (hmay : ¬ mayP k len n D.length S.length T.length lst) :
    Calls Tryd.prog 8 #[.agg cs, .int .u64 low, .int .i64 n] w fun e w' => e = .returned (.tuple #[.slice none 0 0, .int .i64 0, .int .i64 2]) ∧ Below w.heap.size w w' := by
  obtain ⟨d26, hd26⟩ := hu26
  by_cases hDl : D.length ≤ 9223372036854775000
  · have HZ := mkHid (hc_size' hcs htg)
    have HM := mkHid hmay
    have HCS := mkHid hcs
    have HIL := mkHid hil
    clear hcs ht hD hS hT hil hdn hsn htn hmay
    have HW1 : Hid (Below w.heap.size w (w.alloc (.cells cs 26))) := (Below.refl w.heap.size w).alloc (Nat.le_refl _) _
    go_enter Tryd.func8, Tryd.ntmps8
    go_wp2_with ((refine wpList_load_row rfl 26 (.tmp 3) rfl w.heap.size rfl 26 cs (0, 0) (.struct d26) (heap_alloc_new w (.cells cs 26)) hd26 rfl (by rw [HZ.out]; exact sz26) ?_))
    refine (may_any k cs ver len n da sa ta la D.length dc S.length sc T.length tc lc lst ph tg (w.alloc (.cells cs 26)) HCS.out hDl (by omega) (by omega) (by omega) ?_ false (iff_of_false (by decide) HM.out)).mono ?_
    · intro j hj
      obtain ⟨b, off, he, hc⟩ := HIL.out j hj
      exact ⟨b, off, he, (HW1.out.cell (p := ⟨b, off + j, none⟩) (World.block_lt_of_cell? w _ hc)).trans hc⟩
    rintro e w2 ⟨rfl, hB2⟩
    have HB2 : Hid (Below w.heap.size w w2) := HW1.out.trans (hB2.mono (by simp))
    clear hB2
    go_wp2
    go_ret3
    exact ⟨rfl, HB2.out⟩
  · exact absurd hDbound hDl

end Go.Proofs.YtlllejgpmdeeiaaDoor
