/- What caravelref02.Put answers where it puts, kinds 3 to 5: contracts. -/
import Derived.Test.YtlllejgpmdeeiaaDoorRefPutA
namespace Go.Proofs.YtlllejgpmdeeiaaDoor
open Go.ChangeShapes Go.WideShapes Go.ChangeAt Go.RowKit
set_option linter.unusedVariables false

set_option maxRecDepth 10000 in
set_option maxHeartbeats 2000000 in
theorem rput_3 (cs : Array Value) (ver len n : Int) (low : Int) (da sa ta la : Option Addr) (dc sc tc lc : Nat) (D S T : List UInt8) (lst : List Int) (ph : Bool) (tag : List UInt8) (w : World)
    (hcs : cs = (hc 3 ver (.slice da D.length dc) (.slice sa S.length sc) (.slice ta T.length tc) len ph (.slice la lst.length lc) (bc tag)).toArray) (htag : tag.length = 16) (hD : Sl w da D) (hS : Sl w sa S) (hT : Sl w ta T) (hil : Il w la lst)
    (hdn : da = none → D.length = 0 ∧ dc = 0) (hsn : sa = none → S.length = 0 ∧ sc = 0) (htn : ta = none → T.length = 0 ∧ tc = 0) (hTl : T.length ≤ 140737488355328) (hSl : S.length ≤ 140737488355328) (hll : lst.length ≤ 17592186043904) (hlow0 : 0 ≤ low) (hlow1 : low < 18446744073709551616)
    (hmay : mayP 3 len n D.length S.length T.length lst) :
    Calls Tryd.prog 9 #[.agg cs, .int .u64 low, .int .i64 n] w fun e w' => ∃ y, e = .returned (.tuple #[y, .int .i64 ((longB (UInt8.ofNat (240 : Int).toNat) 1 D S ++ T ++ tag).length : Nat), .int .i64 0]) ∧ By (w.heap.size + 1) w' y (longB (UInt8.ofNat (240 : Int).toNat) 1 D S ++ T ++ tag) ∧ Below w.heap.size w w' := by
  obtain ⟨i0, hi, hz0, hz1, hz2⟩ := info_parts info5
  obtain ⟨d33, hd33⟩ := hu33
  have htg : (bc tag).length = 16 := by rw [bc_length]; exact htag
  have hq : D.length ≤ 20 ∧ S.length ≤ 20 ∧ T.length ≤ 512 := by unfold mayP mayK at hmay; omega
  obtain ⟨q1, q2, q7⟩ := hq
  obtain ⟨F, hF⟩ : ∃ F : UInt8, UInt8.ofNat (240 : Int).toNat = F := ⟨_, rfl⟩
  have hFv : Value.int .u8 (240) = Value.int .u8 (F.toNat : Int) := by rw [← hF]; rfl
  rw [hF]
  obtain ⟨X2, hX2⟩ : ∃ X2, longB F 1 D S = X2 := ⟨_, rfl⟩
  have hX2l : X2.length = 7 + D.length + S.length := by rw [← hX2]; simp [longB, be_length]; omega
  rw [hX2]
  have HX2 := mkHid hX2
  have hX2b : X2.length ≤ 47 := by omega
  have hX20 : 0 < X2.length := by omega
  clear hX2 hX2l
  obtain ⟨X3, hX3⟩ : ∃ X3, X2 ++ T ++ tag = X3 := ⟨_, rfl⟩
  have hX3l : 0 < X3.length ∧ X3.length ≤ 70368745226240 := by rw [← hX3]; simp; omega
  obtain ⟨hX30, hX31⟩ := hX3l
  rw [hX3]
  have HX3 := mkHid hX3
  clear hX3
  have HF := mkHid hFv
  have HZ := mkHid (hc_size' hcs htg)
  have HM := mkHid hmay
  have HCS := mkHid hcs
  have HD := mkHid hD
  have HS := mkHid hS
  have HTT := mkHid hT
  have HIL := mkHid hil
  have HDn := mkHid hdn
  have HSn := mkHid hsn
  have HTn := mkHid htn
  clear hcs hD hS hT hil hdn hsn htn hmay hFv hF
  have HW1 : Hid (Below w.heap.size w (w.alloc (.cells cs 33))) := (Below.refl w.heap.size w).alloc (Nat.le_refl _) _
  go_enter Tryd.func9, Tryd.ntmps9
  go_wp2_with ((refine wpList_load_row rfl 33 (.tmp 3) rfl w.heap.size rfl 33 cs (0, 0) (.struct d33) (heap_alloc_new w (.cells cs 33)) hd33 rfl (by rw [HZ.out]; exact sz33) ?_))
  refine (rmay_any 3 cs ver len n da sa ta la D.length dc S.length sc T.length tc lc lst ph (bc tag) (w.alloc (.cells cs 33)) HCS.out (by omega) (by omega) (by omega) (by omega) ?_ true (iff_of_true rfl HM.out)).mono ?_
  · intro j hj
    obtain ⟨b, off, he, hc⟩ := HIL.out j hj
    exact ⟨b, off, he, (HW1.out.cell (p := ⟨b, off + j, none⟩) (World.block_lt_of_cell? w _ hc)).trans hc⟩
  rintro e w2 ⟨rfl, hB2⟩
  have HR2 : Hid (w2.heap[w.heap.size]? = some (.cells cs 33 (0, 0))) := (hB2.block w.heap.size (by simp)).trans (heap_alloc_new w _)
  have HB2 : Hid (Below w.heap.size w w2) := HW1.out.trans (hB2.mono (by simp))
  have hlt2 : w.heap.size + 1 ≤ w2.heap.size := by have := hB2.size; simp at this; omega
  clear hB2
  have HQ2 : Hid (BQ w (w2.alloc (.cells #[.int .u8 (240)] 5)) (w.heap.size + 1) cs (.slice (some ⟨w2.heap.size, 0, none⟩) 1 1) [F]) :=
    ⟨HB2.out.alloc HB2.out.size _, by rw [Below.heap_alloc _ _ _ (by omega)]; exact HR2.out, by have q := own_one w2 (240); rw [HF.out] at q; rw [HF.out]; exact (By.mono (B := w2.heap.size) (X := [F]) q (by omega)), by omega, by simp; omega⟩
  have c0 : w2.cell? ⟨w.heap.size, 0, none⟩ = some (.int .i64 3) := by unfold World.cell?; rw [HR2.out, HCS.out]; rfl
  go_wp2_with fail
  refine (bytes_4 (V := 1) (by decide) (by decide)).mono ?_
  rintro e w3 ⟨g3, cp3, rfl, hsl3, hB3⟩
  have HSL3 := mkHid hsl3
  have HQ3 := mkHid (HQ2.out.on hB3)
  clear hsl3 hB3
  go_wp2_with ((at_builtin; refine wpList_append_bytes rfl (.tmp 65) (.tmp 68) rfl (w.heap.size + 1) i0 Tryd.underlying22 hi hz0 hz1 hz2 (.slice (some ⟨w2.heap.size, 0, none⟩) 1 1) 1 (bc [F]) rfl HQ3.out.own (some ⟨g3, 0, none⟩) 4 cp3 (be 4 1) rfl rfl (fun h => by cases h) HSL3.out (by omega) HQ3.out.size ?_; intro v4 w4 hown hgrow; have HQ4 := mkHid (HQ3.out.next (Y := be 4 1) hown rfl hgrow); clear hown hgrow; obtain ⟨f0, f2, f3, f4, f5, f7⟩ := HQ4.out.c HCS.out; refine Hid.out ?_))
  refine mkHid ?_
  have HB1 : Hid (Value.int .u8 (IntKind.u8.wrap D.length) = Value.int .u8 ((UInt8.ofNat D.length).toNat : Int)) := by rw [IntKind.wrap_u8, ← bc_byte D.length q1]; show _ = _; congr 1; omega
  have HB2' : Hid (Value.int .u8 (IntKind.u8.wrap S.length) = Value.int .u8 ((UInt8.ofNat S.length).toNat : Int)) := by rw [IntKind.wrap_u8, ← bc_byte S.length q2]; show _ = _; congr 1; omega
  obtain ⟨_, p2, _⟩ := (HQ4.out.alloc (.cells #[.int .u8 (IntKind.u8.wrap D.length)] 5)).c HCS.out
  go_wp2
  go_cut [13] from 70 to 79 (fun v wx => Hid (BQ w wx (w.heap.size + 1) cs v ([F] ++ be 4 1 ++ [UInt8.ofNat D.length] ++ D)))
  case first =>
    go_region_law ((first
      | (refine step_append_bytes rfl (.tmp 70) (.tmp 75) rfl (w.heap.size + 1) i0 Tryd.underlying22 hi hz0 hz1 hz2 v4 5 (bc ([F] ++ be 4 1)) (by first | rfl | (simp [Act.eval]; done)) (HQ4.out.own.alloc (.cells #[.int .u8 (IntKind.u8.wrap D.length)] 5)) (some ⟨w4.heap.size, 0, none⟩) 1 1 [UInt8.ofNat D.length] (by first | rfl | (simp [Act.eval]; done)) rfl (fun h => by cases h) (Sl_newb w4 _ _ HB1.out) (by omega) (by have := HQ4.out.size; simp; omega) ?_; intro v5 w5 hown hgrow; have HQ5 : Hid (BQ w w5 (w.heap.size + 1) cs v5 ([F] ++ be 4 1 ++ [UInt8.ofNat D.length])) := (HQ4.out.alloc (.cells #[.int .u8 (IntKind.u8.wrap D.length)] 5)).next (n := 1) hown rfl ⟨hgrow.os, hgrow.tape, hgrow.output, hgrow.size, hgrow.block⟩; clear hown hgrow; obtain ⟨g0, g2, g3', g4, g5, g7⟩ := HQ5.out.c HCS.out)
      | (refine step_append_bytes rfl (.tmp 76) (.tmp 78) rfl (w.heap.size + 1) i0 Tryd.underlying22 hi hz0 hz1 hz2 v5 6 (bc ([F] ++ be 4 1 ++ [UInt8.ofNat D.length])) (by first | rfl | (simp [Act.eval]; done)) HQ5.out.own da D.length dc D (by first | rfl | (simp [Act.eval]; done)) rfl HDn.out (Sl_below HD.out HQ5.out.below) (by omega) HQ5.out.size ?_; intro v6 w6 hown hgrow; have HQ6 : Hid (BQ w w6 (w.heap.size + 1) cs v6 ([F] ++ be 4 1 ++ [UInt8.ofNat D.length] ++ D)) := HQ5.out.next hown rfl ⟨hgrow.os, hgrow.tape, hgrow.output, hgrow.size, hgrow.block⟩; clear hown hgrow; obtain ⟨k0, k2, k3, k4, k5, k7⟩ := HQ6.out.c HCS.out)))
    all_goals
      go_wp2_with fail
      go_meet
      exact HQ6
  case rest =>
  clear p2 f0 f2 f3 f4 f5 f7 HQ4 HQ3 HSL3 HQ2
  obtain ⟨X1, hX1⟩ : ∃ X1, [F] ++ be 4 1 ++ [UInt8.ofNat D.length] ++ D = X1 := ⟨_, rfl⟩
  have hX1l : X1.length ≤ 26 := by rw [← hX1]; simp [be_length]; omega
  have HL1 : Hid (X1 ++ [UInt8.ofNat S.length] ++ S = X2) := by show _ = X2; rw [← hX1, ← HX2.out]; rfl
  rw [hX1] at hcut
  clear hX1
  obtain ⟨f0, f2, f3, f4, f5, f7⟩ := hcut.out.c HCS.out
  obtain ⟨_, _, p3, _⟩ := (hcut.out.alloc (.cells #[.int .u8 (IntKind.u8.wrap S.length)] 5)).c HCS.out
  go_wp2
  go_cut [13] from 80 to 89 (fun v wx => Hid (BQ w wx (w.heap.size + 1) cs v X2))
  case first =>
    go_region_law ((first
      | (refine step_append_bytes rfl (.tmp 80) (.tmp 85) rfl (w.heap.size + 1) i0 Tryd.underlying22 hi hz0 hz1 hz2 u13 X1.length (bc X1) (by first | rfl | (simp [Act.eval]; done)) (hcut.out.own.alloc (.cells #[.int .u8 (IntKind.u8.wrap S.length)] 5)) (some ⟨wc.heap.size, 0, none⟩) 1 1 [UInt8.ofNat S.length] (by first | rfl | (simp [Act.eval]; done)) rfl (fun h => by cases h) (Sl_newb wc _ _ HB2'.out) (by omega) (by have := hcut.out.size; simp; omega) ?_; intro v5 w5 hown hgrow; have HQ5 : Hid (BQ w w5 (w.heap.size + 1) cs v5 (X1 ++ [UInt8.ofNat S.length])) := (hcut.out.alloc (.cells #[.int .u8 (IntKind.u8.wrap S.length)] 5)).next (n := 1) hown rfl ⟨hgrow.os, hgrow.tape, hgrow.output, hgrow.size, hgrow.block⟩; clear hown hgrow; obtain ⟨g0, g2, g3', g4, g5, g7⟩ := HQ5.out.c HCS.out)
      | (refine step_append_bytes rfl (.tmp 86) (.tmp 88) rfl (w.heap.size + 1) i0 Tryd.underlying22 hi hz0 hz1 hz2 v5 (X1 ++ [UInt8.ofNat S.length]).length (bc (X1 ++ [UInt8.ofNat S.length])) (by first | rfl | (simp [Act.eval]; done)) HQ5.out.own sa S.length sc S (by first | rfl | (simp [Act.eval]; done)) rfl HSn.out (Sl_below HS.out HQ5.out.below) (by simp; omega) HQ5.out.size ?_; intro v6 w6 hown hgrow; have HQ6 : Hid (BQ w w6 (w.heap.size + 1) cs v6 (X1 ++ [UInt8.ofNat S.length] ++ S)) := HQ5.out.next hown rfl ⟨hgrow.os, hgrow.tape, hgrow.output, hgrow.size, hgrow.block⟩; clear hown hgrow; obtain ⟨k0, k2, k3, k4, k5, k7⟩ := HQ6.out.c HCS.out)))
    all_goals
      go_wp2_with fail
      go_meet
      rw [HL1.out] at HQ6
      exact HQ6
  case rest =>
  clear p3 f0 f2 f3 f4 f5 f7 HL1 hX1l
  obtain ⟨f0, f2, f3, f4, f5, f7⟩ := hcut.out.c HCS.out
  have HSLT : Hid (Sl wc ta T) := Sl_below HTT.out hcut.out.below
  go_wp2
  go_cut [13] from 94 to 100 (fun v wx => Hid (BQ w wx (w.heap.size + 1) cs v (X2 ++ T ++ tag)))
  case first =>
    go_region_law ((first
      | (refine step_append_bytes rfl (.tmp 94) (.tmp 96) rfl (w.heap.size + 1) i0 Tryd.underlying22 hi hz0 hz1 hz2 u13 X2.length (bc X2) (by first | rfl | (simp [Act.eval]; done)) hcut.out.own ta T.length tc T (by first | rfl | (simp [Act.eval]; done)) rfl HTn.out HSLT.out (by omega) hcut.out.size ?_; intro v5 w5 hown hgrow; have HQ5 : Hid (BQ w w5 (w.heap.size + 1) cs v5 (X2 ++ T)) := hcut.out.next hown rfl ⟨hgrow.os, hgrow.tape, hgrow.output, hgrow.size, hgrow.block⟩; clear hown hgrow; obtain ⟨g0, g2, g3', g4, g5, g7'⟩ := HQ5.out.c HCS.out)
      | (refine step_append_bytes rfl (.tmp 97) (.tmp 99) rfl (w.heap.size + 1) i0 Tryd.underlying22 hi hz0 hz1 hz2 v5 (X2 ++ T).length (bc (X2 ++ T)) (by first | rfl | (simp [Act.eval]; done)) HQ5.out.own (some ⟨w.heap.size, 8, none⟩) 16 16 tag (by first | rfl | (simp [Act.eval]; done)) htag (fun h => by cases h) (tag_sl33 HQ5.out.row HCS.out) (by simp; omega) HQ5.out.size ?_; intro v6 w6 hown hgrow; have HQ6 : Hid (BQ w w6 (w.heap.size + 1) cs v6 (X2 ++ T ++ tag)) := HQ5.out.next hown htag ⟨hgrow.os, hgrow.tape, hgrow.output, hgrow.size, hgrow.block⟩; clear hown hgrow; obtain ⟨k0, k2, k3, k4, k5, k7⟩ := HQ6.out.c HCS.out)))
    all_goals
      go_wp2_with fail
      go_meet
      exact HQ6
  case rest =>
  clear f0 f2 f3 f4 f5 f7
  rw [HX3.out] at hcut
  obtain ⟨g9, cp9, cur9, hv9, _⟩ := own_shape hcut.out.own hX30
  subst hv9
  go_wp2
  go_ret3
  exact ⟨_, rfl, hcut.out.own, hcut.out.below⟩

set_option maxRecDepth 10000 in
set_option maxHeartbeats 2000000 in
theorem rput_4 (cs : Array Value) (ver len n : Int) (low : Int) (da sa ta la : Option Addr) (dc sc tc lc : Nat) (D S T : List UInt8) (lst : List Int) (ph : Bool) (tag : List UInt8) (w : World)
    (hcs : cs = (hc 4 ver (.slice da D.length dc) (.slice sa S.length sc) (.slice ta T.length tc) len ph (.slice la lst.length lc) (bc tag)).toArray) (htag : tag.length = 16) (hD : Sl w da D) (hS : Sl w sa S) (hT : Sl w ta T) (hil : Il w la lst)
    (hdn : da = none → D.length = 0 ∧ dc = 0) (hsn : sa = none → S.length = 0 ∧ sc = 0) (htn : ta = none → T.length = 0 ∧ tc = 0) (hTl : T.length ≤ 140737488355328) (hSl : S.length ≤ 140737488355328) (hll : lst.length ≤ 17592186043904) (hlow0 : 0 ≤ low) (hlow1 : low < 18446744073709551616)
    (hmay : mayP 4 len n D.length S.length T.length lst) :
    Calls Tryd.prog 9 #[.agg cs, .int .u64 low, .int .i64 n] w fun e w' => ∃ y, e = .returned (.tuple #[y, .int .i64 ((longB (UInt8.ofNat (192 : Int).toNat) 0 D S ++ vB lst).length : Nat), .int .i64 0]) ∧ By (w.heap.size + 1) w' y (longB (UInt8.ofNat (192 : Int).toNat) 0 D S ++ vB lst) ∧ Below w.heap.size w w' := by
  obtain ⟨i0, hi, hz0, hz1, hz2⟩ := info_parts info5
  obtain ⟨d33, hd33⟩ := hu33
  have htg : (bc tag).length = 16 := by rw [bc_length]; exact htag
  have hq : D.length ≤ 20 ∧ S.length ≤ 20 ∧ 0 < lst.length ∧ lst.any noV = false := by
    obtain ⟨m1, m2, m3⟩ := hmay
    rcases m3 with ⟨h, _⟩ | ⟨h, _⟩ | ⟨h, _⟩ | ⟨h, _⟩ | ⟨_, h1, h2⟩
    · cases h
    · omega
    · cases h
    · cases h
    · exact ⟨m1, by omega, h1, h2⟩
  obtain ⟨q1, q2, q3, q4⟩ := hq
  obtain ⟨F, hF⟩ : ∃ F : UInt8, UInt8.ofNat (192 : Int).toNat = F := ⟨_, rfl⟩
  have hFv : Value.int .u8 (192) = Value.int .u8 (F.toNat : Int) := by rw [← hF]; rfl
  rw [hF]
  obtain ⟨X2, hX2⟩ : ∃ X2, longB F 0 D S = X2 := ⟨_, rfl⟩
  have hX2l : X2.length = 7 + D.length + S.length := by rw [← hX2]; simp [longB, be_length]; omega
  rw [hX2]
  have HX2 := mkHid hX2
  have hX2b : X2.length ≤ 47 := by omega
  have hX20 : 0 < X2.length := by omega
  clear hX2 hX2l
  obtain ⟨X3, hX3⟩ : ∃ X3, X2 ++ vB lst = X3 := ⟨_, rfl⟩
  have hX3l : 0 < X3.length ∧ X3.length ≤ 70368745226240 := by rw [← hX3]; simp [vB_length]; omega
  obtain ⟨hX30, hX31⟩ := hX3l
  rw [hX3]
  have HX3 := mkHid hX3
  clear hX3
  have HF := mkHid hFv
  have HZ := mkHid (hc_size' hcs htg)
  have HM := mkHid hmay
  have HCS := mkHid hcs
  have HD := mkHid hD
  have HS := mkHid hS
  have HTT := mkHid hT
  have HIL := mkHid hil
  have HDn := mkHid hdn
  have HSn := mkHid hsn
  have HTn := mkHid htn
  clear hcs hD hS hT hil hdn hsn htn hmay hFv hF
  have HW1 : Hid (Below w.heap.size w (w.alloc (.cells cs 33))) := (Below.refl w.heap.size w).alloc (Nat.le_refl _) _
  have HV := mkHid q4
  clear q4
  go_enter Tryd.func9, Tryd.ntmps9
  go_wp2_with ((refine wpList_load_row rfl 33 (.tmp 3) rfl w.heap.size rfl 33 cs (0, 0) (.struct d33) (heap_alloc_new w (.cells cs 33)) hd33 rfl (by rw [HZ.out]; exact sz33) ?_))
  refine (rmay_any 4 cs ver len n da sa ta la D.length dc S.length sc T.length tc lc lst ph (bc tag) (w.alloc (.cells cs 33)) HCS.out (by omega) (by omega) (by omega) (by omega) ?_ true (iff_of_true rfl HM.out)).mono ?_
  · intro j hj
    obtain ⟨b, off, he, hc⟩ := HIL.out j hj
    exact ⟨b, off, he, (HW1.out.cell (p := ⟨b, off + j, none⟩) (World.block_lt_of_cell? w _ hc)).trans hc⟩
  rintro e w2 ⟨rfl, hB2⟩
  have HR2 : Hid (w2.heap[w.heap.size]? = some (.cells cs 33 (0, 0))) := (hB2.block w.heap.size (by simp)).trans (heap_alloc_new w _)
  have HB2 : Hid (Below w.heap.size w w2) := HW1.out.trans (hB2.mono (by simp))
  have hlt2 : w.heap.size + 1 ≤ w2.heap.size := by have := hB2.size; simp at this; omega
  clear hB2
  have HQ2 : Hid (BQ w (w2.alloc (.cells #[.int .u8 (192)] 5)) (w.heap.size + 1) cs (.slice (some ⟨w2.heap.size, 0, none⟩) 1 1) [F]) :=
    ⟨HB2.out.alloc HB2.out.size _, by rw [Below.heap_alloc _ _ _ (by omega)]; exact HR2.out, by have q := own_one w2 (192); rw [HF.out] at q; rw [HF.out]; exact (By.mono (B := w2.heap.size) (X := [F]) q (by omega)), by omega, by simp; omega⟩
  have c0 : w2.cell? ⟨w.heap.size, 0, none⟩ = some (.int .i64 4) := by unfold World.cell?; rw [HR2.out, HCS.out]; rfl
  go_wp2_with fail
  refine (bytes_4 (V := 0) (by decide) (by decide)).mono ?_
  rintro e w3 ⟨g3, cp3, rfl, hsl3, hB3⟩
  have HSL3 := mkHid hsl3
  have HQ3 := mkHid (HQ2.out.on hB3)
  clear hsl3 hB3
  go_wp2_with ((at_builtin; refine wpList_append_bytes rfl (.tmp 65) (.tmp 68) rfl (w.heap.size + 1) i0 Tryd.underlying22 hi hz0 hz1 hz2 (.slice (some ⟨w2.heap.size, 0, none⟩) 1 1) 1 (bc [F]) rfl HQ3.out.own (some ⟨g3, 0, none⟩) 4 cp3 (be 4 0) rfl rfl (fun h => by cases h) HSL3.out (by omega) HQ3.out.size ?_; intro v4 w4 hown hgrow; have HQ4 := mkHid (HQ3.out.next (Y := be 4 0) hown rfl hgrow); clear hown hgrow; obtain ⟨f0, f2, f3, f4, f5, f7⟩ := HQ4.out.c HCS.out; refine Hid.out ?_))
  refine mkHid ?_
  have HB1 : Hid (Value.int .u8 (IntKind.u8.wrap D.length) = Value.int .u8 ((UInt8.ofNat D.length).toNat : Int)) := by rw [IntKind.wrap_u8, ← bc_byte D.length q1]; show _ = _; congr 1; omega
  have HB2' : Hid (Value.int .u8 (IntKind.u8.wrap S.length) = Value.int .u8 ((UInt8.ofNat S.length).toNat : Int)) := by rw [IntKind.wrap_u8, ← bc_byte S.length q2]; show _ = _; congr 1; omega
  obtain ⟨_, p2, _⟩ := (HQ4.out.alloc (.cells #[.int .u8 (IntKind.u8.wrap D.length)] 5)).c HCS.out
  go_wp2
  go_cut [13] from 70 to 79 (fun v wx => Hid (BQ w wx (w.heap.size + 1) cs v ([F] ++ be 4 0 ++ [UInt8.ofNat D.length] ++ D)))
  case first =>
    go_region_law ((first
      | (refine step_append_bytes rfl (.tmp 70) (.tmp 75) rfl (w.heap.size + 1) i0 Tryd.underlying22 hi hz0 hz1 hz2 v4 5 (bc ([F] ++ be 4 0)) (by first | rfl | (simp [Act.eval]; done)) (HQ4.out.own.alloc (.cells #[.int .u8 (IntKind.u8.wrap D.length)] 5)) (some ⟨w4.heap.size, 0, none⟩) 1 1 [UInt8.ofNat D.length] (by first | rfl | (simp [Act.eval]; done)) rfl (fun h => by cases h) (Sl_newb w4 _ _ HB1.out) (by omega) (by have := HQ4.out.size; simp; omega) ?_; intro v5 w5 hown hgrow; have HQ5 : Hid (BQ w w5 (w.heap.size + 1) cs v5 ([F] ++ be 4 0 ++ [UInt8.ofNat D.length])) := (HQ4.out.alloc (.cells #[.int .u8 (IntKind.u8.wrap D.length)] 5)).next (n := 1) hown rfl ⟨hgrow.os, hgrow.tape, hgrow.output, hgrow.size, hgrow.block⟩; clear hown hgrow; obtain ⟨g0, g2, g3', g4, g5, g7⟩ := HQ5.out.c HCS.out)
      | (refine step_append_bytes rfl (.tmp 76) (.tmp 78) rfl (w.heap.size + 1) i0 Tryd.underlying22 hi hz0 hz1 hz2 v5 6 (bc ([F] ++ be 4 0 ++ [UInt8.ofNat D.length])) (by first | rfl | (simp [Act.eval]; done)) HQ5.out.own da D.length dc D (by first | rfl | (simp [Act.eval]; done)) rfl HDn.out (Sl_below HD.out HQ5.out.below) (by omega) HQ5.out.size ?_; intro v6 w6 hown hgrow; have HQ6 : Hid (BQ w w6 (w.heap.size + 1) cs v6 ([F] ++ be 4 0 ++ [UInt8.ofNat D.length] ++ D)) := HQ5.out.next hown rfl ⟨hgrow.os, hgrow.tape, hgrow.output, hgrow.size, hgrow.block⟩; clear hown hgrow; obtain ⟨k0, k2, k3, k4, k5, k7⟩ := HQ6.out.c HCS.out)))
    all_goals
      go_wp2_with fail
      go_meet
      exact HQ6
  case rest =>
  clear p2 f0 f2 f3 f4 f5 f7 HQ4 HQ3 HSL3 HQ2
  obtain ⟨X1, hX1⟩ : ∃ X1, [F] ++ be 4 0 ++ [UInt8.ofNat D.length] ++ D = X1 := ⟨_, rfl⟩
  have hX1l : X1.length ≤ 26 := by rw [← hX1]; simp [be_length]; omega
  have HL1 : Hid (X1 ++ [UInt8.ofNat S.length] ++ S = X2) := by show _ = X2; rw [← hX1, ← HX2.out]; rfl
  rw [hX1] at hcut
  clear hX1
  obtain ⟨f0, f2, f3, f4, f5, f7⟩ := hcut.out.c HCS.out
  obtain ⟨_, _, p3, _⟩ := (hcut.out.alloc (.cells #[.int .u8 (IntKind.u8.wrap S.length)] 5)).c HCS.out
  go_wp2
  go_cut [13] from 80 to 89 (fun v wx => Hid (BQ w wx (w.heap.size + 1) cs v X2))
  case first =>
    go_region_law ((first
      | (refine step_append_bytes rfl (.tmp 80) (.tmp 85) rfl (w.heap.size + 1) i0 Tryd.underlying22 hi hz0 hz1 hz2 u13 X1.length (bc X1) (by first | rfl | (simp [Act.eval]; done)) (hcut.out.own.alloc (.cells #[.int .u8 (IntKind.u8.wrap S.length)] 5)) (some ⟨wc.heap.size, 0, none⟩) 1 1 [UInt8.ofNat S.length] (by first | rfl | (simp [Act.eval]; done)) rfl (fun h => by cases h) (Sl_newb wc _ _ HB2'.out) (by omega) (by have := hcut.out.size; simp; omega) ?_; intro v5 w5 hown hgrow; have HQ5 : Hid (BQ w w5 (w.heap.size + 1) cs v5 (X1 ++ [UInt8.ofNat S.length])) := (hcut.out.alloc (.cells #[.int .u8 (IntKind.u8.wrap S.length)] 5)).next (n := 1) hown rfl ⟨hgrow.os, hgrow.tape, hgrow.output, hgrow.size, hgrow.block⟩; clear hown hgrow; obtain ⟨g0, g2, g3', g4, g5, g7⟩ := HQ5.out.c HCS.out)
      | (refine step_append_bytes rfl (.tmp 86) (.tmp 88) rfl (w.heap.size + 1) i0 Tryd.underlying22 hi hz0 hz1 hz2 v5 (X1 ++ [UInt8.ofNat S.length]).length (bc (X1 ++ [UInt8.ofNat S.length])) (by first | rfl | (simp [Act.eval]; done)) HQ5.out.own sa S.length sc S (by first | rfl | (simp [Act.eval]; done)) rfl HSn.out (Sl_below HS.out HQ5.out.below) (by simp; omega) HQ5.out.size ?_; intro v6 w6 hown hgrow; have HQ6 : Hid (BQ w w6 (w.heap.size + 1) cs v6 (X1 ++ [UInt8.ofNat S.length] ++ S)) := HQ5.out.next hown rfl ⟨hgrow.os, hgrow.tape, hgrow.output, hgrow.size, hgrow.block⟩; clear hown hgrow; obtain ⟨k0, k2, k3, k4, k5, k7⟩ := HQ6.out.c HCS.out)))
    all_goals
      go_wp2_with fail
      go_meet
      rw [HL1.out] at HQ6
      exact HQ6
  case rest =>
  clear p3 f0 f2 f3 f4 f5 f7 HL1 hX1l
  obtain ⟨f0, f2, f3, f4, f5, f7⟩ := hcut.out.c HCS.out
  have H0 : Hid (BQ w wc (w.heap.size + 1) cs u13 (X2 ++ vB (lst.take 0))) := by show BQ _ _ _ _ _ _; simpa [vB] using hcut.out
  clear f2 f3 f4 f5
  go_wp2
  go_loopg [13, 14] (lst.length + 1) (fun g v i wr => ∃ k, k ≤ lst.length ∧ g = lst.length + 1 - k ∧ i = .int .i64 (k : Nat) ∧ Hid (BQ w wr (w.heap.size + 1) cs v (X2 ++ vB (lst.take k))))
  case atStart => exact ⟨0, by omega, by omega, rfl, H0⟩
  case round =>
    obtain ⟨k, hk, hg, rfl, HR⟩ := hrel
    clear H0 hcut f7 f0
    obtain ⟨_, _, _, _, _, f7⟩ := HR.out.c HCS.out
    by_cases hlt : k < lst.length
    · obtain ⟨b, off, rfl, hc⟩ := Il_addr HIL.out (by omega)
      have hcell : wr.cell? ⟨b, off + k, none⟩ = some (.int .i64 lst[k]) := (HR.out.below.cell (p := ⟨b, off + k, none⟩) (World.block_lt_of_cell? w _ (hc k hlt))).trans (hc k hlt)
      have hv : noV lst[k] = false := by
        have := HV.out
        rw [List.any_eq_false] at this
        simpa using this lst[k] (List.getElem_mem hlt)
      have htk : lst.take (k + 1) = lst.take k ++ [lst[k]] := List.take_succ_eq_append_getElem hlt
      obtain ⟨x, hx⟩ : ∃ x, lst[k] = x := ⟨_, rfl⟩
      rw [hx] at hcell hv htk
      have hx1 : 1 ≤ x ∧ x ≤ 4294967295 := by unfold noV at hv; simp at hv; omega
      obtain ⟨hx1, hx2⟩ := hx1
      have HTK := mkHid htk
      have hlen : (X2 ++ vB (lst.take k)).length ≤ 70368745226240 := by rw [List.length_append, vB_length]; simp; omega
      obtain ⟨Y, hY⟩ : ∃ Y, X2 ++ vB (lst.take k) = Y := ⟨_, rfl⟩
      rw [hY] at hlen HR
      have HY := mkHid hY
      clear hv htk hx hc hY
      have e64 : IntKind.u64.wrap x = x := by rw [IntKind.wrap_u64]; omega
      go_wp2_with fail
      refine (bytes_4 (V := x) (by omega) (by omega)).mono ?_
      rintro e w5 ⟨g5, cp5, rfl, hsl5, hB5⟩
      have HSL5 := mkHid hsl5
      have HQ5 := mkHid (HR.out.on hB5)
      clear hsl5 hB5
      go_wp2_with ((at_builtin; refine wpList_append_bytes rfl (.tmp 113) (.tmp 120) rfl (w.heap.size + 1) i0 Tryd.underlying22 hi hz0 hz1 hz2 u13 Y.length (bc Y) rfl HQ5.out.own (some ⟨g5, 0, none⟩) 4 cp5 (be 4 x.toNat) rfl (be_length _ _) (fun h => by cases h) HSL5.out (by omega) HQ5.out.size ?_; intro v6 w6 hown hgrow; have HQ6 := mkHid (HQ5.out.next (Y := be 4 x.toNat) hown (be_length _ _) hgrow); clear hown hgrow))
      go_roundg (lst.length + 1 - (k + 1))
      case measure => omega
      case rel =>
        refine ⟨k + 1, by omega, rfl, by go_num, ?_⟩
        rw [HTK.out, vB_snoc, ← List.append_assoc, HY.out]
        exact HQ6
    · obtain rfl : k = lst.length := by omega
      rw [List.take_length] at HR
      rw [HX3.out] at HR
      obtain ⟨g9, cp9, cur9, hv9, _⟩ := own_shape HR.out.own hX30
      subst hv9
      go_wp2
      go_ret3
      exact ⟨_, rfl, HR.out.own, HR.out.below⟩

set_option maxRecDepth 10000 in
set_option maxHeartbeats 2000000 in
theorem rput_5 (cs : Array Value) (ver len n : Int) (low : Int) (da sa ta la : Option Addr) (dc sc tc lc : Nat) (D S T : List UInt8) (lst : List Int) (ph : Bool) (tag : List UInt8) (w : World)
    (hcs : cs = (hc 5 ver (.slice da D.length dc) (.slice sa S.length sc) (.slice ta T.length tc) len ph (.slice la lst.length lc) (bc tag)).toArray) (htag : tag.length = 16) (hD : Sl w da D) (hS : Sl w sa S) (hT : Sl w ta T) (hil : Il w la lst)
    (hdn : da = none → D.length = 0 ∧ dc = 0) (hsn : sa = none → S.length = 0 ∧ sc = 0) (htn : ta = none → T.length = 0 ∧ tc = 0) (hTl : T.length ≤ 140737488355328) (hSl : S.length ≤ 140737488355328) (hll : lst.length ≤ 17592186043904) (hlow0 : 0 ≤ low) (hlow1 : low < 18446744073709551616)
    (hmay : mayP 5 len n D.length S.length T.length lst) :
    Calls Tryd.prog 9 #[.agg cs, .int .u64 low, .int .i64 n] w fun e w' => ∃ y, e = .returned (.tuple #[y, .int .i64 (([UInt8.ofNat (sB ph n).toNat] ++ D).length : Nat), .int .i64 0]) ∧ By (w.heap.size + 1) w' y ([UInt8.ofNat (sB ph n).toNat] ++ D ++ be n.toNat low.toNat) ∧ Below w.heap.size w w' := by
  obtain ⟨i0, hi, hz0, hz1, hz2⟩ := info_parts info5
  obtain ⟨d33, hd33⟩ := hu33
  have htg : (bc tag).length = 16 := by rw [bc_length]; exact htag
  have hq : D.length ≤ 20 ∧ 1 ≤ n ∧ n ≤ 4 := by unfold mayP mayK at hmay; omega
  obtain ⟨q1, q5, q6⟩ := hq
  have hFb : 0 ≤ sB ph n ∧ sB ph n < 256 := by unfold sB; cases ph <;> simp <;> omega
  obtain ⟨F, hF⟩ : ∃ F : UInt8, UInt8.ofNat (sB ph n).toNat = F := ⟨_, rfl⟩
  have hFv : Value.int .u8 (sB ph n) = Value.int .u8 (F.toNat : Int) := by rw [← hF, UInt8.toNat_ofNat']; congr 1; omega
  rw [hF]
  obtain ⟨X3, hX3⟩ : ∃ X3, [F] ++ D = X3 := ⟨_, rfl⟩
  have hX3l : X3.length = 1 + D.length := by rw [← hX3]; simp; omega
  rw [hX3]
  have HX3 := mkHid hX3
  have HX3l := mkHid hX3l
  have hX3b : X3.length ≤ 21 := by omega
  clear hX3 hX3l
  have HF := mkHid hFv
  have HZ := mkHid (hc_size' hcs htg)
  have HM := mkHid hmay
  have HCS := mkHid hcs
  have HD := mkHid hD
  have HS := mkHid hS
  have HTT := mkHid hT
  have HIL := mkHid hil
  have HDn := mkHid hdn
  have HSn := mkHid hsn
  have HTn := mkHid htn
  clear hcs hD hS hT hil hdn hsn htn hmay hFv
  have HW1 : Hid (Below w.heap.size w (w.alloc (.cells cs 33))) := (Below.refl w.heap.size w).alloc (Nat.le_refl _) _
  go_enter Tryd.func9, Tryd.ntmps9
  go_wp2_with ((refine wpList_load_row rfl 33 (.tmp 3) rfl w.heap.size rfl 33 cs (0, 0) (.struct d33) (heap_alloc_new w (.cells cs 33)) hd33 rfl (by rw [HZ.out]; exact sz33) ?_))
  refine (rmay_any 5 cs ver len n da sa ta la D.length dc S.length sc T.length tc lc lst ph (bc tag) (w.alloc (.cells cs 33)) HCS.out (by omega) (by omega) (by omega) (by omega) ?_ true (iff_of_true rfl HM.out)).mono ?_
  · intro j hj
    obtain ⟨b, off, he, hc⟩ := HIL.out j hj
    exact ⟨b, off, he, (HW1.out.cell (p := ⟨b, off + j, none⟩) (World.block_lt_of_cell? w _ hc)).trans hc⟩
  rintro e w2 ⟨rfl, hB2⟩
  have HR2 : Hid (w2.heap[w.heap.size]? = some (.cells cs 33 (0, 0))) := (hB2.block w.heap.size (by simp)).trans (heap_alloc_new w _)
  have HB2 : Hid (Below w.heap.size w w2) := HW1.out.trans (hB2.mono (by simp))
  have hlt2 : w.heap.size + 1 ≤ w2.heap.size := by have := hB2.size; simp at this; omega
  clear hB2
  have HQ2 : Hid (BQ w (w2.alloc (.cells #[.int .u8 (sB ph n)] 5)) (w.heap.size + 1) cs (.slice (some ⟨w2.heap.size, 0, none⟩) 1 1) [F]) :=
    ⟨HB2.out.alloc HB2.out.size _, by rw [Below.heap_alloc _ _ _ (by omega)]; exact HR2.out, by have q := own_one w2 (sB ph n); rw [HF.out] at q; rw [HF.out]; exact (By.mono (B := w2.heap.size) (X := [F]) q (by omega)), by omega, by simp; omega⟩
  have c0 : w2.cell? ⟨w.heap.size, 0, none⟩ = some (.int .i64 5) := by unfold World.cell?; rw [HR2.out, HCS.out]; rfl
  have c2 : w2.cell? ⟨w.heap.size, 2, none⟩ = some (.slice da D.length dc) := by unfold World.cell?; rw [HR2.out, HCS.out]; rfl
  have c6 : w2.cell? ⟨w.heap.size, 6, none⟩ = some (.bool ph) := by unfold World.cell?; rw [HR2.out, HCS.out]; rfl
  obtain ⟨_, p2, _⟩ := HQ2.out.c HCS.out
  have HFV : Hid (sB ph n = if ph = true then 64 + n - 1 + 4 else 64 + n - 1) := by show sB ph n = _; unfold sB; split <;> omega
  cases ph
  · rw [show sB false n = 64 + n - 1 from HFV.out] at HQ2 p2
    go_wp2_with ((at_builtin; refine wpList_append_bytes rfl (.tmp 35) (.tmp 37) rfl (w.heap.size + 1) i0 Tryd.underlying22 hi hz0 hz1 hz2 (.slice (some ⟨w2.heap.size, 0, none⟩) 1 1) 1 (bc [F]) rfl HQ2.out.own da D.length dc D rfl rfl HDn.out (Sl_below HD.out HQ2.out.below) (by omega) HQ2.out.size ?_; intro v4 w4 hown hgrow; have HQ4 := mkHid (HQ2.out.next (Y := D) hown rfl hgrow); obtain ⟨g4, cp4, cur4, hv4, _⟩ := own_shape hown (by omega); subst hv4; clear hown hgrow; refine Hid.out ?_))
    refine mkHid ?_
    clear p2
    rw [HX3.out] at HQ4
    go_wp2_with fail
    refine (bytes_by (V := low) (n := n) hlow0 hlow1 q5 (by omega)).mono ?_
    rintro e w5 ⟨g5, cp5, rfl, hsl5, hB5⟩
    have HSL5 := mkHid hsl5
    have HQ5 := mkHid (HQ4.out.on hB5)
    clear hsl5 hB5
    go_wp2_with ((at_builtin; refine wpList_append_bytes rfl (.tmp 39) (.tmp 42) rfl (w.heap.size + 1) i0 Tryd.underlying22 hi hz0 hz1 hz2 (.slice (some ⟨g4, 0, none⟩) (1 + D.length) cp4) X3.length (bc X3) rfl HQ5.out.own (some ⟨g5, 0, none⟩) n.toNat cp5 (be n.toNat low.toNat) rfl (be_length _ _) (fun h => by cases h) HSL5.out (by omega) HQ5.out.size ?_; intro v6 w6 hown hgrow; have HQ6 := mkHid (HQ5.out.next (Y := be n.toNat low.toNat) hown (be_length _ _) hgrow); clear hown hgrow; refine Hid.out ?_))
    refine mkHid ?_
    go_wp2
    go_ret3
    exact ⟨v6, by rw [HX3l.out]; rfl, HQ6.out.own, HQ6.out.below⟩
  · rw [show sB true n = 64 + n - 1 + 4 from HFV.out] at HQ2 p2
    go_wp2_with ((at_builtin; refine wpList_append_bytes rfl (.tmp 35) (.tmp 37) rfl (w.heap.size + 1) i0 Tryd.underlying22 hi hz0 hz1 hz2 (.slice (some ⟨w2.heap.size, 0, none⟩) 1 1) 1 (bc [F]) rfl HQ2.out.own da D.length dc D rfl rfl HDn.out (Sl_below HD.out HQ2.out.below) (by omega) HQ2.out.size ?_; intro v4 w4 hown hgrow; have HQ4 := mkHid (HQ2.out.next (Y := D) hown rfl hgrow); obtain ⟨g4, cp4, cur4, hv4, _⟩ := own_shape hown (by omega); subst hv4; clear hown hgrow; refine Hid.out ?_))
    refine mkHid ?_
    clear p2
    rw [HX3.out] at HQ4
    go_wp2_with fail
    refine (bytes_by (V := low) (n := n) hlow0 hlow1 q5 (by omega)).mono ?_
    rintro e w5 ⟨g5, cp5, rfl, hsl5, hB5⟩
    have HSL5 := mkHid hsl5
    have HQ5 := mkHid (HQ4.out.on hB5)
    clear hsl5 hB5
    go_wp2_with ((at_builtin; refine wpList_append_bytes rfl (.tmp 39) (.tmp 42) rfl (w.heap.size + 1) i0 Tryd.underlying22 hi hz0 hz1 hz2 (.slice (some ⟨g4, 0, none⟩) (1 + D.length) cp4) X3.length (bc X3) rfl HQ5.out.own (some ⟨g5, 0, none⟩) n.toNat cp5 (be n.toNat low.toNat) rfl (be_length _ _) (fun h => by cases h) HSL5.out (by omega) HQ5.out.size ?_; intro v6 w6 hown hgrow; have HQ6 := mkHid (HQ5.out.next (Y := be n.toNat low.toNat) hown (be_length _ _) hgrow); clear hown hgrow; refine Hid.out ?_))
    refine mkHid ?_
    go_wp2
    go_ret3
    exact ⟨v6, by rw [HX3l.out]; rfl, HQ6.out.own, HQ6.out.below⟩
end Go.Proofs.YtlllejgpmdeeiaaDoor
