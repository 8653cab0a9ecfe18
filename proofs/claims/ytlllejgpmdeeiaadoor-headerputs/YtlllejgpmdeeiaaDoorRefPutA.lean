/- What caravelref02.Put answers where it puts, kinds 0 to 2: contracts, and what their walks lean on. -/
import Derived.Test.YtlllejgpmdeeiaaDoorRefMay
import Derived.Test.YtlllejgpmdeeiaaDoorPutH
import Derived.Deep.CutRange
import Derived.Deep.LoopGhost
namespace Go.Proofs.YtlllejgpmdeeiaaDoor
open Go.ChangeShapes Go.WideShapes Go.ChangeAt Go.RowKit
set_option linter.unusedVariables false

theorem sz33 : (Tryd.prog.info? 33).map (·.size) = some 24 := by kernel_rfl
theorem hu33 : ∃ fs, Tryd.prog.underlying 33 = some (.struct fs) := ⟨_, Tryd.underlying33⟩
/-- the bytes that are laid so far, the header's own row beside them -/
structure BQ (w w' : World) (B : Nat) (cs : Array Value) (v : Value) (X : List UInt8) : Prop where
  below : Below w.heap.size w w'
  row : w'.heap[w.heap.size]? = some (.cells cs 33 (0, 0))
  own : w'.ownsRow B 5 1 v X.length (bc X)
  hB : w.heap.size < B
  size : B ≤ w'.heap.size
theorem BQ.next {w w1 w2 : World} {B n : Nat} {cs : Array Value} {v v' : Value} {X Y : List UInt8} (h : BQ w w1 B cs v X) (ho : w2.ownsRow B 5 1 v' (X.length + n) (bc X ++ bc Y)) (hn : Y.length = n) (hg : w1.grownBy w2 v.ownBlock) : BQ w w2 B cs v' (X ++ Y) := by
  have hb : ∀ k, v.ownBlock = some k → B ≤ k := fun k hk => (h.own.lt k hk).1
  have h1 := h.hB
  have h2 := h.size
  refine ⟨h.below.grown hg (by omega) (fun k hk => by have := hb k hk; omega), ?_, by rw [List.length_append, hn, bc_append]; exact ho, h.hB, ?_⟩
  · rw [hg.block w.heap.size (by omega) (fun e => by have := hb _ e.symm; omega)]
    exact h.row
  · have := hg.size; omega
theorem BQ.alloc {w w1 : World} {B : Nat} {cs : Array Value} {v : Value} {X : List UInt8} (h : BQ w w1 B cs v X) (o : Obj) : BQ w (w1.alloc o) B cs v X :=
  ⟨h.below.alloc h.below.size o, by have h1 := h.hB; have h2 := h.size; rw [Below.heap_alloc _ _ _ (by omega)]; exact h.row, h.own.alloc o, h.hB, by have := h.size; simp; omega⟩
theorem BQ.on {w w1 w2 : World} {B : Nat} {cs : Array Value} {v : Value} {X : List UInt8} (h : BQ w w1 B cs v X) (hb : Below w1.heap.size w1 w2) : BQ w w2 B cs v X := by
  have h1 := h.hB
  have h2 := h.size
  refine ⟨h.below.trans (hb.mono h.below.size), (hb.block _ (by omega)).trans h.row, ?_, h.hB, by have := hb.size; omega⟩
  exact By.below (B := B) (X := X) h.own hb
theorem BQ.c {w w' : World} {B : Nat} {cs : Array Value} {v : Value} {X : List UInt8} {k ver : Int} {d s t : Value} {len : Int} {ph : Bool} {lv : Value} {tg : List Value} (h : BQ w w' B cs v X) (hcs : cs = (hc k ver d s t len ph lv tg).toArray) :
    w'.cell? ⟨w.heap.size, 0, none⟩ = some (.int .i64 k) ∧ w'.cell? ⟨w.heap.size, 2, none⟩ = some d ∧ w'.cell? ⟨w.heap.size, 3, none⟩ = some s ∧ w'.cell? ⟨w.heap.size, 4, none⟩ = some t ∧ w'.cell? ⟨w.heap.size, 5, none⟩ = some (.int .i64 len) ∧ w'.cell? ⟨w.heap.size, 7, none⟩ = some lv := by
  refine ⟨?_, ?_, ?_, ?_, ?_, ?_⟩ <;> (unfold World.cell?; rw [h.row, hcs]; rfl)
theorem bytes_by {V n : Int} {w : World} (hV0 : 0 ≤ V) (hV : V < 18446744073709551616) (hn1 : 1 ≤ n) (hn8 : n ≤ 8) :
    Calls Tryd.prog 25 #[.int .u64 V, .int .i64 n] w fun e w' => ∃ g c, e = .returned (.slice (some ⟨g, 0, none⟩) n.toNat c) ∧ Sl w' (some ⟨g, 0, none⟩) (be n.toNat V.toNat) ∧ Below w.heap.size w w' := by
  refine (bytes_int V n w hV0 hV hn1 hn8).mono ?_
  rintro e w' ⟨v, rfl, ho, hb⟩
  obtain ⟨g, c, cur, rfl, h1, h2, h3, h4, h5, h6⟩ := own_shape ho (by omega)
  exact ⟨g, c, rfl, Sl_own h2 (by rw [be_length]; exact h6), hb⟩
theorem bytes_4 {V : Int} {w : World} (hV0 : 0 ≤ V) (hV : V < 18446744073709551616) :
    Calls Tryd.prog 25 #[.int .u64 V, .int .i64 4] w fun e w' => ∃ g c, e = .returned (.slice (some ⟨g, 0, none⟩) 4 c) ∧ Sl w' (some ⟨g, 0, none⟩) (be 4 V.toNat) ∧ Below w.heap.size w w' :=
  bytes_by hV0 hV (by decide) (by decide)
theorem tag_sl33 {W : World} {g : Nat} {cs : Array Value} {k ver : Int} {d s t : Value} {len : Int} {ph : Bool} {lv : Value} {tag : List UInt8} (h : W.heap[g]? = some (.cells cs 33 (0, 0))) (hcs : cs = (hc k ver d s t len ph lv (bc tag)).toArray) : Sl W (some ⟨g, 8, none⟩) tag := by
  intro j hj
  refine ⟨g, 8, rfl, ?_⟩
  unfold World.cell?
  rw [h, hcs]
  unfold hc
  have e : ([.int .i64 k, .int .i64 ver, d, s, t, .int .i64 len, .bool ph, lv] ++ bc tag)[8 + j]? = some (.int .u8 (tag[j].toNat)) := by
    rw [List.getElem?_append_right (by simp)]
    simp [bc, hj]
  simpa using e

set_option maxRecDepth 10000 in
set_option maxHeartbeats 2000000 in
theorem rput_0 (cs : Array Value) (ver len n : Int) (low : Int) (da sa ta la : Option Addr) (dc sc tc lc : Nat) (D S T : List UInt8) (lst : List Int) (ph : Bool) (tag : List UInt8) (w : World)
    (hcs : cs = (hc 0 ver (.slice da D.length dc) (.slice sa S.length sc) (.slice ta T.length tc) len ph (.slice la lst.length lc) (bc tag)).toArray) (htag : tag.length = 16) (hD : Sl w da D) (hS : Sl w sa S) (hT : Sl w ta T) (hil : Il w la lst)
    (hdn : da = none → D.length = 0 ∧ dc = 0) (hsn : sa = none → S.length = 0 ∧ sc = 0) (htn : ta = none → T.length = 0 ∧ tc = 0) (hTl : T.length ≤ 140737488355328) (hSl : S.length ≤ 140737488355328) (hll : lst.length ≤ 17592186043904) (hlow0 : 0 ≤ low) (hlow1 : low < 18446744073709551616)
    (hmay : mayP 0 len n D.length S.length T.length lst) :
    Calls Tryd.prog 9 #[.agg cs, .int .u64 low, .int .i64 n] w fun e w' => ∃ y, e = .returned (.tuple #[y, .int .i64 ((longB (UInt8.ofNat (191 + n).toNat) 1 D S ++ enc (szN T.length) T.length ++ T ++ enc 2 len).length : Nat), .int .i64 0]) ∧ By (w.heap.size + 1) w' y (longB (UInt8.ofNat (191 + n).toNat) 1 D S ++ enc (szN T.length) T.length ++ T ++ enc 2 len ++ be n.toNat low.toNat) ∧ Below w.heap.size w w' := by
  obtain ⟨i0, hi, hz0, hz1, hz2⟩ := info_parts info5
  obtain ⟨d33, hd33⟩ := hu33
  have htg : (bc tag).length = 16 := by rw [bc_length]; exact htag
  have hq : D.length ≤ 20 ∧ S.length ≤ 20 ∧ T.length ≤ 512 ∧ n ≤ len ∧ len ≤ 16383 ∧ 1 ≤ n ∧ n ≤ 4 := by unfold mayP mayK at hmay; omega
  obtain ⟨q1, q2, q7, q3, q4, q5, q6⟩ := hq
  obtain ⟨F, hF⟩ : ∃ F : UInt8, UInt8.ofNat (191 + n).toNat = F := ⟨_, rfl⟩
  have hFv : Value.int .u8 (192 + n - 1) = Value.int .u8 (F.toNat : Int) := by rw [← hF, UInt8.toNat_ofNat']; congr 1; omega
  rw [hF]
  obtain ⟨X2, hX2⟩ : ∃ X2, longB F 1 D S = X2 := ⟨_, rfl⟩
  have hX2l : X2.length = 7 + D.length + S.length := by rw [← hX2]; simp [longB, be_length]; omega
  rw [hX2]
  have HX2 := mkHid hX2
  have hX2b : X2.length ≤ 47 := by omega
  have hX20 : 0 < X2.length := by omega
  clear hX2 hX2l
  obtain ⟨E, hE⟩ : ∃ E, enc (szN T.length) T.length = E := ⟨_, rfl⟩
  have hEl : E.length ≤ 8 := by rw [← hE, enc_length]; exact szN_le _
  rw [hE]
  have HE := mkHid hE
  obtain ⟨X3, hX3⟩ : ∃ X3, X2 ++ E ++ T = X3 := ⟨_, rfl⟩
  have hX3l : X3.length ≤ 600 := by rw [← hX3]; simp; omega
  have hX30 : 0 < X3.length := by rw [← hX3]; simp; omega
  rw [hX3]
  have HX3 := mkHid hX3
  clear hX3 hE
  obtain ⟨E2, hE2⟩ : ∃ E2, enc 2 len = E2 := ⟨_, rfl⟩
  have hE2l : E2.length = 2 := by rw [← hE2, enc_length]; rfl
  rw [hE2]
  have HE2 := mkHid hE2
  obtain ⟨X4, hX4⟩ : ∃ X4, X3 ++ E2 = X4 := ⟨_, rfl⟩
  have hX4l : X4.length = X3.length + E2.length := by rw [← hX4, List.length_append]
  rw [hX4]
  have HX4 := mkHid hX4
  have HX4l := mkHid hX4l
  have hX4b : X4.length ≤ 700 := by omega
  have hE2b : E2.length ≤ 2 := by omega
  clear hX4 hE2 hX4l hE2l
  have HF := mkHid hFv
  have HZ := mkHid (hc_size' hcs htg)
  have HM := mkHid hmay
  have HCS := mkHid hcs
  have HD := mkHid hD
  have HS := mkHid hS
  have HTT := mkHid hT
  have HIL := mkHid hil
  have HDn := mkHid hdn
  have HSn := mkHid hsn
  have HTn := mkHid htn
  clear hcs hD hS hT hil hdn hsn htn hmay hFv hF
  have HW1 : Hid (Below w.heap.size w (w.alloc (.cells cs 33))) := (Below.refl w.heap.size w).alloc (Nat.le_refl _) _
  go_enter Tryd.func9, Tryd.ntmps9
  go_wp2_with ((refine wpList_load_row rfl 33 (.tmp 3) rfl w.heap.size rfl 33 cs (0, 0) (.struct d33) (heap_alloc_new w (.cells cs 33)) hd33 rfl (by rw [HZ.out]; exact sz33) ?_))
  refine (rmay_any 0 cs ver len n da sa ta la D.length dc S.length sc T.length tc lc lst ph (bc tag) (w.alloc (.cells cs 33)) HCS.out (by omega) (by omega) (by omega) (by omega) ?_ true (iff_of_true rfl HM.out)).mono ?_
  · intro j hj
    obtain ⟨b, off, he, hc⟩ := HIL.out j hj
    exact ⟨b, off, he, (HW1.out.cell (p := ⟨b, off + j, none⟩) (World.block_lt_of_cell? w _ hc)).trans hc⟩
  rintro e w2 ⟨rfl, hB2⟩
  have HR2 : Hid (w2.heap[w.heap.size]? = some (.cells cs 33 (0, 0))) := (hB2.block w.heap.size (by simp)).trans (heap_alloc_new w _)
  have HB2 : Hid (Below w.heap.size w w2) := HW1.out.trans (hB2.mono (by simp))
  have hlt2 : w.heap.size + 1 ≤ w2.heap.size := by have := hB2.size; simp at this; omega
  clear hB2
  have HQ2 : Hid (BQ w (w2.alloc (.cells #[.int .u8 (192 + n - 1)] 5)) (w.heap.size + 1) cs (.slice (some ⟨w2.heap.size, 0, none⟩) 1 1) [F]) :=
    ⟨HB2.out.alloc HB2.out.size _, by rw [Below.heap_alloc _ _ _ (by omega)]; exact HR2.out, by have q := own_one w2 (192 + n - 1); rw [HF.out] at q; rw [HF.out]; exact (By.mono (B := w2.heap.size) (X := [F]) q (by omega)), by omega, by simp; omega⟩
  have c0 : w2.cell? ⟨w.heap.size, 0, none⟩ = some (.int .i64 0) := by unfold World.cell?; rw [HR2.out, HCS.out]; rfl
  go_wp2_with fail
  refine (bytes_4 (V := 1) (by decide) (by decide)).mono ?_
  rintro e w3 ⟨g3, cp3, rfl, hsl3, hB3⟩
  have HSL3 := mkHid hsl3
  have HQ3 := mkHid (HQ2.out.on hB3)
  clear hsl3 hB3
  go_wp2_with ((at_builtin; refine wpList_append_bytes rfl (.tmp 65) (.tmp 68) rfl (w.heap.size + 1) i0 Tryd.underlying22 hi hz0 hz1 hz2 (.slice (some ⟨w2.heap.size, 0, none⟩) 1 1) 1 (bc [F]) rfl HQ3.out.own (some ⟨g3, 0, none⟩) 4 cp3 (be 4 1) rfl rfl (fun h => by cases h) HSL3.out (by omega) HQ3.out.size ?_; intro v4 w4 hown hgrow; have HQ4 := mkHid (HQ3.out.next (Y := be 4 1) hown rfl hgrow); clear hown hgrow; obtain ⟨f0, f2, f3, f4, f5, f7⟩ := HQ4.out.c HCS.out; refine Hid.out ?_))
  refine mkHid ?_
  have HB1 : Hid (Value.int .u8 (IntKind.u8.wrap D.length) = Value.int .u8 ((UInt8.ofNat D.length).toNat : Int)) := by rw [IntKind.wrap_u8, ← bc_byte D.length q1]; show _ = _; congr 1; omega
  have HB2' : Hid (Value.int .u8 (IntKind.u8.wrap S.length) = Value.int .u8 ((UInt8.ofNat S.length).toNat : Int)) := by rw [IntKind.wrap_u8, ← bc_byte S.length q2]; show _ = _; congr 1; omega
  obtain ⟨_, p2, _⟩ := (HQ4.out.alloc (.cells #[.int .u8 (IntKind.u8.wrap D.length)] 5)).c HCS.out
  go_wp2
  go_cut [13] from 70 to 79 (fun v wx => Hid (BQ w wx (w.heap.size + 1) cs v ([F] ++ be 4 1 ++ [UInt8.ofNat D.length] ++ D)))
  case first =>
    go_region_law ((first
      | (refine step_append_bytes rfl (.tmp 70) (.tmp 75) rfl (w.heap.size + 1) i0 Tryd.underlying22 hi hz0 hz1 hz2 v4 5 (bc ([F] ++ be 4 1)) (by first | rfl | (simp [Act.eval]; done)) (HQ4.out.own.alloc (.cells #[.int .u8 (IntKind.u8.wrap D.length)] 5)) (some ⟨w4.heap.size, 0, none⟩) 1 1 [UInt8.ofNat D.length] (by first | rfl | (simp [Act.eval]; done)) rfl (fun h => by cases h) (Sl_newb w4 _ _ HB1.out) (by omega) (by have := HQ4.out.size; simp; omega) ?_; intro v5 w5 hown hgrow; have HQ5 : Hid (BQ w w5 (w.heap.size + 1) cs v5 ([F] ++ be 4 1 ++ [UInt8.ofNat D.length])) := (HQ4.out.alloc (.cells #[.int .u8 (IntKind.u8.wrap D.length)] 5)).next (n := 1) hown rfl ⟨hgrow.os, hgrow.tape, hgrow.output, hgrow.size, hgrow.block⟩; clear hown hgrow; obtain ⟨g0, g2, g3', g4, g5, g7⟩ := HQ5.out.c HCS.out)
      | (refine step_append_bytes rfl (.tmp 76) (.tmp 78) rfl (w.heap.size + 1) i0 Tryd.underlying22 hi hz0 hz1 hz2 v5 6 (bc ([F] ++ be 4 1 ++ [UInt8.ofNat D.length])) (by first | rfl | (simp [Act.eval]; done)) HQ5.out.own da D.length dc D (by first | rfl | (simp [Act.eval]; done)) rfl HDn.out (Sl_below HD.out HQ5.out.below) (by omega) HQ5.out.size ?_; intro v6 w6 hown hgrow; have HQ6 : Hid (BQ w w6 (w.heap.size + 1) cs v6 ([F] ++ be 4 1 ++ [UInt8.ofNat D.length] ++ D)) := HQ5.out.next hown rfl ⟨hgrow.os, hgrow.tape, hgrow.output, hgrow.size, hgrow.block⟩; clear hown hgrow; obtain ⟨k0, k2, k3, k4, k5, k7⟩ := HQ6.out.c HCS.out)))
    all_goals
      go_wp2_with fail
      go_meet
      exact HQ6
  case rest =>
  clear p2 f0 f2 f3 f4 f5 f7 HQ4 HQ3 HSL3 HQ2
  obtain ⟨X1, hX1⟩ : ∃ X1, [F] ++ be 4 1 ++ [UInt8.ofNat D.length] ++ D = X1 := ⟨_, rfl⟩
  have hX1l : X1.length ≤ 26 := by rw [← hX1]; simp [be_length]; omega
  have HL1 : Hid (X1 ++ [UInt8.ofNat S.length] ++ S = X2) := by show _ = X2; rw [← hX1, ← HX2.out]; rfl
  rw [hX1] at hcut
  clear hX1
  obtain ⟨f0, f2, f3, f4, f5, f7⟩ := hcut.out.c HCS.out
  obtain ⟨_, _, p3, _⟩ := (hcut.out.alloc (.cells #[.int .u8 (IntKind.u8.wrap S.length)] 5)).c HCS.out
  go_wp2
  go_cut [13] from 80 to 89 (fun v wx => Hid (BQ w wx (w.heap.size + 1) cs v X2))
  case first =>
    go_region_law ((first
      | (refine step_append_bytes rfl (.tmp 80) (.tmp 85) rfl (w.heap.size + 1) i0 Tryd.underlying22 hi hz0 hz1 hz2 u13 X1.length (bc X1) (by first | rfl | (simp [Act.eval]; done)) (hcut.out.own.alloc (.cells #[.int .u8 (IntKind.u8.wrap S.length)] 5)) (some ⟨wc.heap.size, 0, none⟩) 1 1 [UInt8.ofNat S.length] (by first | rfl | (simp [Act.eval]; done)) rfl (fun h => by cases h) (Sl_newb wc _ _ HB2'.out) (by omega) (by have := hcut.out.size; simp; omega) ?_; intro v5 w5 hown hgrow; have HQ5 : Hid (BQ w w5 (w.heap.size + 1) cs v5 (X1 ++ [UInt8.ofNat S.length])) := (hcut.out.alloc (.cells #[.int .u8 (IntKind.u8.wrap S.length)] 5)).next (n := 1) hown rfl ⟨hgrow.os, hgrow.tape, hgrow.output, hgrow.size, hgrow.block⟩; clear hown hgrow; obtain ⟨g0, g2, g3', g4, g5, g7⟩ := HQ5.out.c HCS.out)
      | (refine step_append_bytes rfl (.tmp 86) (.tmp 88) rfl (w.heap.size + 1) i0 Tryd.underlying22 hi hz0 hz1 hz2 v5 (X1 ++ [UInt8.ofNat S.length]).length (bc (X1 ++ [UInt8.ofNat S.length])) (by first | rfl | (simp [Act.eval]; done)) HQ5.out.own sa S.length sc S (by first | rfl | (simp [Act.eval]; done)) rfl HSn.out (Sl_below HS.out HQ5.out.below) (by simp; omega) HQ5.out.size ?_; intro v6 w6 hown hgrow; have HQ6 : Hid (BQ w w6 (w.heap.size + 1) cs v6 (X1 ++ [UInt8.ofNat S.length] ++ S)) := HQ5.out.next hown rfl ⟨hgrow.os, hgrow.tape, hgrow.output, hgrow.size, hgrow.block⟩; clear hown hgrow; obtain ⟨k0, k2, k3, k4, k5, k7⟩ := HQ6.out.c HCS.out)))
    all_goals
      go_wp2_with fail
      go_meet
      rw [HL1.out] at HQ6
      exact HQ6
  case rest =>
  clear p3 f0 f2 f3 f4 f5 f7 HL1 hX1l
  obtain ⟨f0, f2, f3, f4, f5, f7⟩ := hcut.out.c HCS.out
  go_wp2_with fail
  refine (rvar_any T.length wc).mono ?_
  rintro e w7 ⟨x7, rfl, hres, hB7⟩
  rw [vaE_ok (by omega)] at hres ⊢
  obtain ⟨g7, cp7, cur7, rfl, hg7, hblk7, hroom7, hsz7, hcur7⟩ := Res_ok hres
  rw [HE.out] at hcur7 ⊢
  have HSL7 : Hid (Sl w7 (some ⟨g7, 0, none⟩) E) := Sl_own hblk7 hcur7
  have HQ7 := mkHid (hcut.out.on hB7)
  clear hres hblk7 hroom7 hsz7 hcur7 hg7 hB7 f0 f2 f3 f4 f5 f7
  obtain ⟨f0, f2, f3, f4, f5, f7⟩ := HQ7.out.c HCS.out
  go_wp2
  go_cut [13] from 135 to 140 (fun v wx => Hid (BQ w wx (w.heap.size + 1) cs v (X2 ++ E ++ T)))
  case first =>
    go_region_law ((first
      | (refine step_append_bytes rfl (.tmp 135) (.tmp 136) rfl (w.heap.size + 1) i0 Tryd.underlying22 hi hz0 hz1 hz2 u13 X2.length (bc X2) (by first | rfl | (simp [Act.eval]; done)) HQ7.out.own (some ⟨g7, 0, none⟩) E.length cp7 E (by first | rfl | (simp [Act.eval]; done)) rfl (fun h => by cases h) HSL7.out (by omega) HQ7.out.size ?_; intro v5 w5 hown hgrow; have HQ5 : Hid (BQ w w5 (w.heap.size + 1) cs v5 (X2 ++ E)) := HQ7.out.next hown rfl ⟨hgrow.os, hgrow.tape, hgrow.output, hgrow.size, hgrow.block⟩; clear hown hgrow; obtain ⟨g0, g2, g3', g4, g5, g7'⟩ := HQ5.out.c HCS.out)
      | (refine step_append_bytes rfl (.tmp 137) (.tmp 139) rfl (w.heap.size + 1) i0 Tryd.underlying22 hi hz0 hz1 hz2 v5 (X2 ++ E).length (bc (X2 ++ E)) (by first | rfl | (simp [Act.eval]; done)) HQ5.out.own ta T.length tc T (by first | rfl | (simp [Act.eval]; done)) rfl HTn.out (Sl_below HTT.out HQ5.out.below) (by simp; omega) HQ5.out.size ?_; intro v6 w6 hown hgrow; have HQ6 : Hid (BQ w w6 (w.heap.size + 1) cs v6 (X2 ++ E ++ T)) := HQ5.out.next hown rfl ⟨hgrow.os, hgrow.tape, hgrow.output, hgrow.size, hgrow.block⟩; clear hown hgrow; obtain ⟨k0, k2, k3, k4, k5, k7⟩ := HQ6.out.c HCS.out)))
    all_goals
      go_wp2_with fail
      go_meet
      exact HQ6
  case rest =>
  clear f0 f2 f3 f4 f5 f7
  rw [HX3.out] at hcut
  obtain ⟨f0, f2, f3, f4, f5, f7⟩ := hcut.out.c HCS.out
  go_wp2_with fail
  refine (rwide_any len 2 wc).mono ?_
  rintro e w8 ⟨x8, rfl, hres, hB8⟩
  rw [wiE_2 len (by omega) q4] at hres ⊢
  obtain ⟨g8, cp8, cur8, rfl, hg8, hblk8, hroom8, hsz8, hcur8⟩ := Res_ok hres
  rw [HE2.out] at hcur8 ⊢
  have HSL8 : Hid (Sl w8 (some ⟨g8, 0, none⟩) E2) := Sl_own hblk8 hcur8
  have HQ8 := mkHid (hcut.out.on hB8)
  clear hres hblk8 hroom8 hsz8 hcur8 hg8 hB8 f0 f2 f3 f4 f5 f7
  go_wp2_with ((at_builtin; refine wpList_append_bytes rfl (.tmp 147) (.tmp 148) rfl (w.heap.size + 1) i0 Tryd.underlying22 hi hz0 hz1 hz2 u13 X3.length (bc X3) rfl HQ8.out.own (some ⟨g8, 0, none⟩) E2.length cp8 E2 rfl rfl (fun h => by cases h) HSL8.out (by omega) HQ8.out.size ?_; intro v9 w9 hown hgrow; have HQ9 := mkHid (HQ8.out.next (Y := E2) hown rfl hgrow); obtain ⟨g9, cp9, cur9, hv9, _⟩ := own_shape hown (by omega); subst hv9; clear hown hgrow; refine Hid.out ?_))
  refine mkHid ?_
  rw [HX4.out] at HQ9
  go_wp2_with fail
  refine (bytes_by (V := low) (n := n) hlow0 hlow1 q5 (by omega)).mono ?_
  rintro e w10 ⟨g10, cp10, rfl, hsl10, hB10⟩
  have HSL10 := mkHid hsl10
  have HQ10 := mkHid (HQ9.out.on hB10)
  clear hsl10 hB10
  go_wp2_with ((at_builtin; refine wpList_append_bytes rfl (.tmp 150) (.tmp 153) rfl (w.heap.size + 1) i0 Tryd.underlying22 hi hz0 hz1 hz2 (.slice (some ⟨g9, 0, none⟩) (X3.length + E2.length) cp9) X4.length (bc X4) rfl HQ10.out.own (some ⟨g10, 0, none⟩) n.toNat cp10 (be n.toNat low.toNat) rfl (be_length _ _) (fun h => by cases h) HSL10.out (by omega) HQ10.out.size ?_; intro v11 w11 hown hgrow; have HQ11 := mkHid (HQ10.out.next (Y := be n.toNat low.toNat) hown (be_length _ _) hgrow); clear hown hgrow; refine Hid.out ?_))
  refine mkHid ?_
  go_wp2
  go_ret3
  exact ⟨v11, by rw [HX4l.out]; rfl, HQ11.out.own, HQ11.out.below⟩

set_option maxRecDepth 10000 in
set_option maxHeartbeats 2000000 in
theorem rput_1 (cs : Array Value) (ver len n : Int) (low : Int) (da sa ta la : Option Addr) (dc sc tc lc : Nat) (D S T : List UInt8) (lst : List Int) (ph : Bool) (tag : List UInt8) (w : World)
    (hcs : cs = (hc 1 ver (.slice da D.length dc) (.slice sa S.length sc) (.slice ta T.length tc) len ph (.slice la lst.length lc) (bc tag)).toArray) (htag : tag.length = 16) (hD : Sl w da D) (hS : Sl w sa S) (hT : Sl w ta T) (hil : Il w la lst)
    (hdn : da = none → D.length = 0 ∧ dc = 0) (hsn : sa = none → S.length = 0 ∧ sc = 0) (htn : ta = none → T.length = 0 ∧ tc = 0) (hTl : T.length ≤ 140737488355328) (hSl : S.length ≤ 140737488355328) (hll : lst.length ≤ 17592186043904) (hlow0 : 0 ≤ low) (hlow1 : low < 18446744073709551616)
    (hmay : mayP 1 len n D.length S.length T.length lst) :
    Calls Tryd.prog 9 #[.agg cs, .int .u64 low, .int .i64 n] w fun e w' => ∃ y, e = .returned (.tuple #[y, .int .i64 ((longB (UInt8.ofNat (207 + n).toNat) 1 D S ++ enc 2 len).length : Nat), .int .i64 0]) ∧ By (w.heap.size + 1) w' y (longB (UInt8.ofNat (207 + n).toNat) 1 D S ++ enc 2 len ++ be n.toNat low.toNat) ∧ Below w.heap.size w w' := by
  obtain ⟨i0, hi, hz0, hz1, hz2⟩ := info_parts info5
  obtain ⟨d33, hd33⟩ := hu33
  have htg : (bc tag).length = 16 := by rw [bc_length]; exact htag
  have hq : D.length ≤ 20 ∧ S.length ≤ 20 ∧ n ≤ len ∧ len ≤ 16383 ∧ 1 ≤ n ∧ n ≤ 4 := by unfold mayP mayK at hmay; omega
  obtain ⟨q1, q2, q3, q4, q5, q6⟩ := hq
  obtain ⟨F, hF⟩ : ∃ F : UInt8, UInt8.ofNat (207 + n).toNat = F := ⟨_, rfl⟩
  have hFv : Value.int .u8 (208 + n - 1) = Value.int .u8 (F.toNat : Int) := by rw [← hF, UInt8.toNat_ofNat']; congr 1; omega
  rw [hF]
  obtain ⟨X2, hX2⟩ : ∃ X2, longB F 1 D S = X2 := ⟨_, rfl⟩
  have hX2l : X2.length = 7 + D.length + S.length := by rw [← hX2]; simp [longB, be_length]; omega
  rw [hX2]
  have HX2 := mkHid hX2
  have hX2b : X2.length ≤ 47 := by omega
  have hX20 : 0 < X2.length := by omega
  clear hX2 hX2l
  obtain ⟨E2, hE2⟩ : ∃ E2, enc 2 len = E2 := ⟨_, rfl⟩
  have hE2l : E2.length = 2 := by rw [← hE2, enc_length]; rfl
  rw [hE2]
  have HE2 := mkHid hE2
  obtain ⟨X4, hX4⟩ : ∃ X4, X2 ++ E2 = X4 := ⟨_, rfl⟩
  have hX4l : X4.length = X2.length + E2.length := by rw [← hX4, List.length_append]
  rw [hX4]
  have HX4 := mkHid hX4
  have HX4l := mkHid hX4l
  have hX4b : X4.length ≤ 700 := by omega
  have hE2b : E2.length ≤ 2 := by omega
  clear hX4 hE2 hX4l hE2l
  have HF := mkHid hFv
  have HZ := mkHid (hc_size' hcs htg)
  have HM := mkHid hmay
  have HCS := mkHid hcs
  have HD := mkHid hD
  have HS := mkHid hS
  have HTT := mkHid hT
  have HIL := mkHid hil
  have HDn := mkHid hdn
  have HSn := mkHid hsn
  have HTn := mkHid htn
  clear hcs hD hS hT hil hdn hsn htn hmay hFv hF
  have HW1 : Hid (Below w.heap.size w (w.alloc (.cells cs 33))) := (Below.refl w.heap.size w).alloc (Nat.le_refl _) _
  go_enter Tryd.func9, Tryd.ntmps9
  go_wp2_with ((refine wpList_load_row rfl 33 (.tmp 3) rfl w.heap.size rfl 33 cs (0, 0) (.struct d33) (heap_alloc_new w (.cells cs 33)) hd33 rfl (by rw [HZ.out]; exact sz33) ?_))
  refine (rmay_any 1 cs ver len n da sa ta la D.length dc S.length sc T.length tc lc lst ph (bc tag) (w.alloc (.cells cs 33)) HCS.out (by omega) (by omega) (by omega) (by omega) ?_ true (iff_of_true rfl HM.out)).mono ?_
  · intro j hj
    obtain ⟨b, off, he, hc⟩ := HIL.out j hj
    exact ⟨b, off, he, (HW1.out.cell (p := ⟨b, off + j, none⟩) (World.block_lt_of_cell? w _ hc)).trans hc⟩
  rintro e w2 ⟨rfl, hB2⟩
  have HR2 : Hid (w2.heap[w.heap.size]? = some (.cells cs 33 (0, 0))) := (hB2.block w.heap.size (by simp)).trans (heap_alloc_new w _)
  have HB2 : Hid (Below w.heap.size w w2) := HW1.out.trans (hB2.mono (by simp))
  have hlt2 : w.heap.size + 1 ≤ w2.heap.size := by have := hB2.size; simp at this; omega
  clear hB2
  have HQ2 : Hid (BQ w (w2.alloc (.cells #[.int .u8 (208 + n - 1)] 5)) (w.heap.size + 1) cs (.slice (some ⟨w2.heap.size, 0, none⟩) 1 1) [F]) :=
    ⟨HB2.out.alloc HB2.out.size _, by rw [Below.heap_alloc _ _ _ (by omega)]; exact HR2.out, by have q := own_one w2 (208 + n - 1); rw [HF.out] at q; rw [HF.out]; exact (By.mono (B := w2.heap.size) (X := [F]) q (by omega)), by omega, by simp; omega⟩
  have c0 : w2.cell? ⟨w.heap.size, 0, none⟩ = some (.int .i64 1) := by unfold World.cell?; rw [HR2.out, HCS.out]; rfl
  go_wp2_with fail
  refine (bytes_4 (V := 1) (by decide) (by decide)).mono ?_
  rintro e w3 ⟨g3, cp3, rfl, hsl3, hB3⟩
  have HSL3 := mkHid hsl3
  have HQ3 := mkHid (HQ2.out.on hB3)
  clear hsl3 hB3
  go_wp2_with ((at_builtin; refine wpList_append_bytes rfl (.tmp 65) (.tmp 68) rfl (w.heap.size + 1) i0 Tryd.underlying22 hi hz0 hz1 hz2 (.slice (some ⟨w2.heap.size, 0, none⟩) 1 1) 1 (bc [F]) rfl HQ3.out.own (some ⟨g3, 0, none⟩) 4 cp3 (be 4 1) rfl rfl (fun h => by cases h) HSL3.out (by omega) HQ3.out.size ?_; intro v4 w4 hown hgrow; have HQ4 := mkHid (HQ3.out.next (Y := be 4 1) hown rfl hgrow); clear hown hgrow; obtain ⟨f0, f2, f3, f4, f5, f7⟩ := HQ4.out.c HCS.out; refine Hid.out ?_))
  refine mkHid ?_
  have HB1 : Hid (Value.int .u8 (IntKind.u8.wrap D.length) = Value.int .u8 ((UInt8.ofNat D.length).toNat : Int)) := by rw [IntKind.wrap_u8, ← bc_byte D.length q1]; show _ = _; congr 1; omega
  have HB2' : Hid (Value.int .u8 (IntKind.u8.wrap S.length) = Value.int .u8 ((UInt8.ofNat S.length).toNat : Int)) := by rw [IntKind.wrap_u8, ← bc_byte S.length q2]; show _ = _; congr 1; omega
  obtain ⟨_, p2, _⟩ := (HQ4.out.alloc (.cells #[.int .u8 (IntKind.u8.wrap D.length)] 5)).c HCS.out
  go_wp2
  go_cut [13] from 70 to 79 (fun v wx => Hid (BQ w wx (w.heap.size + 1) cs v ([F] ++ be 4 1 ++ [UInt8.ofNat D.length] ++ D)))
  case first =>
    go_region_law ((first
      | (refine step_append_bytes rfl (.tmp 70) (.tmp 75) rfl (w.heap.size + 1) i0 Tryd.underlying22 hi hz0 hz1 hz2 v4 5 (bc ([F] ++ be 4 1)) (by first | rfl | (simp [Act.eval]; done)) (HQ4.out.own.alloc (.cells #[.int .u8 (IntKind.u8.wrap D.length)] 5)) (some ⟨w4.heap.size, 0, none⟩) 1 1 [UInt8.ofNat D.length] (by first | rfl | (simp [Act.eval]; done)) rfl (fun h => by cases h) (Sl_newb w4 _ _ HB1.out) (by omega) (by have := HQ4.out.size; simp; omega) ?_; intro v5 w5 hown hgrow; have HQ5 : Hid (BQ w w5 (w.heap.size + 1) cs v5 ([F] ++ be 4 1 ++ [UInt8.ofNat D.length])) := (HQ4.out.alloc (.cells #[.int .u8 (IntKind.u8.wrap D.length)] 5)).next (n := 1) hown rfl ⟨hgrow.os, hgrow.tape, hgrow.output, hgrow.size, hgrow.block⟩; clear hown hgrow; obtain ⟨g0, g2, g3', g4, g5, g7⟩ := HQ5.out.c HCS.out)
      | (refine step_append_bytes rfl (.tmp 76) (.tmp 78) rfl (w.heap.size + 1) i0 Tryd.underlying22 hi hz0 hz1 hz2 v5 6 (bc ([F] ++ be 4 1 ++ [UInt8.ofNat D.length])) (by first | rfl | (simp [Act.eval]; done)) HQ5.out.own da D.length dc D (by first | rfl | (simp [Act.eval]; done)) rfl HDn.out (Sl_below HD.out HQ5.out.below) (by omega) HQ5.out.size ?_; intro v6 w6 hown hgrow; have HQ6 : Hid (BQ w w6 (w.heap.size + 1) cs v6 ([F] ++ be 4 1 ++ [UInt8.ofNat D.length] ++ D)) := HQ5.out.next hown rfl ⟨hgrow.os, hgrow.tape, hgrow.output, hgrow.size, hgrow.block⟩; clear hown hgrow; obtain ⟨k0, k2, k3, k4, k5, k7⟩ := HQ6.out.c HCS.out)))
    all_goals
      go_wp2_with fail
      go_meet
      exact HQ6
  case rest =>
  clear p2 f0 f2 f3 f4 f5 f7 HQ4 HQ3 HSL3 HQ2
  obtain ⟨X1, hX1⟩ : ∃ X1, [F] ++ be 4 1 ++ [UInt8.ofNat D.length] ++ D = X1 := ⟨_, rfl⟩
  have hX1l : X1.length ≤ 26 := by rw [← hX1]; simp [be_length]; omega
  have HL1 : Hid (X1 ++ [UInt8.ofNat S.length] ++ S = X2) := by show _ = X2; rw [← hX1, ← HX2.out]; rfl
  rw [hX1] at hcut
  clear hX1
  obtain ⟨f0, f2, f3, f4, f5, f7⟩ := hcut.out.c HCS.out
  obtain ⟨_, _, p3, _⟩ := (hcut.out.alloc (.cells #[.int .u8 (IntKind.u8.wrap S.length)] 5)).c HCS.out
  go_wp2
  go_cut [13] from 80 to 89 (fun v wx => Hid (BQ w wx (w.heap.size + 1) cs v X2))
  case first =>
    go_region_law ((first
      | (refine step_append_bytes rfl (.tmp 80) (.tmp 85) rfl (w.heap.size + 1) i0 Tryd.underlying22 hi hz0 hz1 hz2 u13 X1.length (bc X1) (by first | rfl | (simp [Act.eval]; done)) (hcut.out.own.alloc (.cells #[.int .u8 (IntKind.u8.wrap S.length)] 5)) (some ⟨wc.heap.size, 0, none⟩) 1 1 [UInt8.ofNat S.length] (by first | rfl | (simp [Act.eval]; done)) rfl (fun h => by cases h) (Sl_newb wc _ _ HB2'.out) (by omega) (by have := hcut.out.size; simp; omega) ?_; intro v5 w5 hown hgrow; have HQ5 : Hid (BQ w w5 (w.heap.size + 1) cs v5 (X1 ++ [UInt8.ofNat S.length])) := (hcut.out.alloc (.cells #[.int .u8 (IntKind.u8.wrap S.length)] 5)).next (n := 1) hown rfl ⟨hgrow.os, hgrow.tape, hgrow.output, hgrow.size, hgrow.block⟩; clear hown hgrow; obtain ⟨g0, g2, g3', g4, g5, g7⟩ := HQ5.out.c HCS.out)
      | (refine step_append_bytes rfl (.tmp 86) (.tmp 88) rfl (w.heap.size + 1) i0 Tryd.underlying22 hi hz0 hz1 hz2 v5 (X1 ++ [UInt8.ofNat S.length]).length (bc (X1 ++ [UInt8.ofNat S.length])) (by first | rfl | (simp [Act.eval]; done)) HQ5.out.own sa S.length sc S (by first | rfl | (simp [Act.eval]; done)) rfl HSn.out (Sl_below HS.out HQ5.out.below) (by simp; omega) HQ5.out.size ?_; intro v6 w6 hown hgrow; have HQ6 : Hid (BQ w w6 (w.heap.size + 1) cs v6 (X1 ++ [UInt8.ofNat S.length] ++ S)) := HQ5.out.next hown rfl ⟨hgrow.os, hgrow.tape, hgrow.output, hgrow.size, hgrow.block⟩; clear hown hgrow; obtain ⟨k0, k2, k3, k4, k5, k7⟩ := HQ6.out.c HCS.out)))
    all_goals
      go_wp2_with fail
      go_meet
      rw [HL1.out] at HQ6
      exact HQ6
  case rest =>
  clear p3 f0 f2 f3 f4 f5 f7 HL1 hX1l
  obtain ⟨f0, f2, f3, f4, f5, f7⟩ := hcut.out.c HCS.out
  go_wp2_with fail
  refine (rwide_any len 2 wc).mono ?_
  rintro e w8 ⟨x8, rfl, hres, hB8⟩
  rw [wiE_2 len (by omega) q4] at hres ⊢
  obtain ⟨g8, cp8, cur8, rfl, hg8, hblk8, hroom8, hsz8, hcur8⟩ := Res_ok hres
  rw [HE2.out] at hcur8 ⊢
  have HSL8 : Hid (Sl w8 (some ⟨g8, 0, none⟩) E2) := Sl_own hblk8 hcur8
  have HQ8 := mkHid (hcut.out.on hB8)
  clear hres hblk8 hroom8 hsz8 hcur8 hg8 hB8 f0 f2 f3 f4 f5 f7
  go_wp2_with ((at_builtin; refine wpList_append_bytes rfl (.tmp 147) (.tmp 148) rfl (w.heap.size + 1) i0 Tryd.underlying22 hi hz0 hz1 hz2 u13 X2.length (bc X2) rfl HQ8.out.own (some ⟨g8, 0, none⟩) E2.length cp8 E2 rfl rfl (fun h => by cases h) HSL8.out (by omega) HQ8.out.size ?_; intro v9 w9 hown hgrow; have HQ9 := mkHid (HQ8.out.next (Y := E2) hown rfl hgrow); obtain ⟨g9, cp9, cur9, hv9, _⟩ := own_shape hown (by omega); subst hv9; clear hown hgrow; refine Hid.out ?_))
  refine mkHid ?_
  rw [HX4.out] at HQ9
  go_wp2_with fail
  refine (bytes_by (V := low) (n := n) hlow0 hlow1 q5 (by omega)).mono ?_
  rintro e w10 ⟨g10, cp10, rfl, hsl10, hB10⟩
  have HSL10 := mkHid hsl10
  have HQ10 := mkHid (HQ9.out.on hB10)
  clear hsl10 hB10
  go_wp2_with ((at_builtin; refine wpList_append_bytes rfl (.tmp 150) (.tmp 153) rfl (w.heap.size + 1) i0 Tryd.underlying22 hi hz0 hz1 hz2 (.slice (some ⟨g9, 0, none⟩) (X2.length + E2.length) cp9) X4.length (bc X4) rfl HQ10.out.own (some ⟨g10, 0, none⟩) n.toNat cp10 (be n.toNat low.toNat) rfl (be_length _ _) (fun h => by cases h) HSL10.out (by omega) HQ10.out.size ?_; intro v11 w11 hown hgrow; have HQ11 := mkHid (HQ10.out.next (Y := be n.toNat low.toNat) hown (be_length _ _) hgrow); clear hown hgrow; refine Hid.out ?_))
  refine mkHid ?_
  go_wp2
  go_ret3
  exact ⟨v11, by rw [HX4l.out]; rfl, HQ11.out.own, HQ11.out.below⟩

set_option maxRecDepth 10000 in
set_option maxHeartbeats 2000000 in
theorem rput_2 (cs : Array Value) (ver len n : Int) (low : Int) (da sa ta la : Option Addr) (dc sc tc lc : Nat) (D S T : List UInt8) (lst : List Int) (ph : Bool) (tag : List UInt8) (w : World)
    (hcs : cs = (hc 2 ver (.slice da D.length dc) (.slice sa S.length sc) (.slice ta T.length tc) len ph (.slice la lst.length lc) (bc tag)).toArray) (htag : tag.length = 16) (hD : Sl w da D) (hS : Sl w sa S) (hT : Sl w ta T) (hil : Il w la lst)
    (hdn : da = none → D.length = 0 ∧ dc = 0) (hsn : sa = none → S.length = 0 ∧ sc = 0) (htn : ta = none → T.length = 0 ∧ tc = 0) (hTl : T.length ≤ 140737488355328) (hSl : S.length ≤ 140737488355328) (hll : lst.length ≤ 17592186043904) (hlow0 : 0 ≤ low) (hlow1 : low < 18446744073709551616)
    (hmay : mayP 2 len n D.length S.length T.length lst) :
    Calls Tryd.prog 9 #[.agg cs, .int .u64 low, .int .i64 n] w fun e w' => ∃ y, e = .returned (.tuple #[y, .int .i64 ((longB (UInt8.ofNat (223 + n).toNat) 1 D S ++ enc 2 len).length : Nat), .int .i64 0]) ∧ By (w.heap.size + 1) w' y (longB (UInt8.ofNat (223 + n).toNat) 1 D S ++ enc 2 len ++ be n.toNat low.toNat) ∧ Below w.heap.size w w' := by
  obtain ⟨i0, hi, hz0, hz1, hz2⟩ := info_parts info5
  obtain ⟨d33, hd33⟩ := hu33
  have htg : (bc tag).length = 16 := by rw [bc_length]; exact htag
  have hq : D.length ≤ 20 ∧ S.length ≤ 20 ∧ n ≤ len ∧ len ≤ 16383 ∧ 1 ≤ n ∧ n ≤ 4 := by unfold mayP mayK at hmay; omega
  obtain ⟨q1, q2, q3, q4, q5, q6⟩ := hq
  obtain ⟨F, hF⟩ : ∃ F : UInt8, UInt8.ofNat (223 + n).toNat = F := ⟨_, rfl⟩
  have hFv : Value.int .u8 (224 + n - 1) = Value.int .u8 (F.toNat : Int) := by rw [← hF, UInt8.toNat_ofNat']; congr 1; omega
  rw [hF]
  obtain ⟨X2, hX2⟩ : ∃ X2, longB F 1 D S = X2 := ⟨_, rfl⟩
  have hX2l : X2.length = 7 + D.length + S.length := by rw [← hX2]; simp [longB, be_length]; omega
  rw [hX2]
  have HX2 := mkHid hX2
  have hX2b : X2.length ≤ 47 := by omega
  have hX20 : 0 < X2.length := by omega
  clear hX2 hX2l
  obtain ⟨E2, hE2⟩ : ∃ E2, enc 2 len = E2 := ⟨_, rfl⟩
  have hE2l : E2.length = 2 := by rw [← hE2, enc_length]; rfl
  rw [hE2]
  have HE2 := mkHid hE2
  obtain ⟨X4, hX4⟩ : ∃ X4, X2 ++ E2 = X4 := ⟨_, rfl⟩
  have hX4l : X4.length = X2.length + E2.length := by rw [← hX4, List.length_append]
  rw [hX4]
  have HX4 := mkHid hX4
  have HX4l := mkHid hX4l
  have hX4b : X4.length ≤ 700 := by omega
  have hE2b : E2.length ≤ 2 := by omega
  clear hX4 hE2 hX4l hE2l
  have HF := mkHid hFv
  have HZ := mkHid (hc_size' hcs htg)
  have HM := mkHid hmay
  have HCS := mkHid hcs
  have HD := mkHid hD
  have HS := mkHid hS
  have HTT := mkHid hT
  have HIL := mkHid hil
  have HDn := mkHid hdn
  have HSn := mkHid hsn
  have HTn := mkHid htn
  clear hcs hD hS hT hil hdn hsn htn hmay hFv hF
  have HW1 : Hid (Below w.heap.size w (w.alloc (.cells cs 33))) := (Below.refl w.heap.size w).alloc (Nat.le_refl _) _
  go_enter Tryd.func9, Tryd.ntmps9
  go_wp2_with ((refine wpList_load_row rfl 33 (.tmp 3) rfl w.heap.size rfl 33 cs (0, 0) (.struct d33) (heap_alloc_new w (.cells cs 33)) hd33 rfl (by rw [HZ.out]; exact sz33) ?_))
  refine (rmay_any 2 cs ver len n da sa ta la D.length dc S.length sc T.length tc lc lst ph (bc tag) (w.alloc (.cells cs 33)) HCS.out (by omega) (by omega) (by omega) (by omega) ?_ true (iff_of_true rfl HM.out)).mono ?_
  · intro j hj
    obtain ⟨b, off, he, hc⟩ := HIL.out j hj
    exact ⟨b, off, he, (HW1.out.cell (p := ⟨b, off + j, none⟩) (World.block_lt_of_cell? w _ hc)).trans hc⟩
  rintro e w2 ⟨rfl, hB2⟩
  have HR2 : Hid (w2.heap[w.heap.size]? = some (.cells cs 33 (0, 0))) := (hB2.block w.heap.size (by simp)).trans (heap_alloc_new w _)
  have HB2 : Hid (Below w.heap.size w w2) := HW1.out.trans (hB2.mono (by simp))
  have hlt2 : w.heap.size + 1 ≤ w2.heap.size := by have := hB2.size; simp at this; omega
  clear hB2
  have HQ2 : Hid (BQ w (w2.alloc (.cells #[.int .u8 (224 + n - 1)] 5)) (w.heap.size + 1) cs (.slice (some ⟨w2.heap.size, 0, none⟩) 1 1) [F]) :=
    ⟨HB2.out.alloc HB2.out.size _, by rw [Below.heap_alloc _ _ _ (by omega)]; exact HR2.out, by have q := own_one w2 (224 + n - 1); rw [HF.out] at q; rw [HF.out]; exact (By.mono (B := w2.heap.size) (X := [F]) q (by omega)), by omega, by simp; omega⟩
  have c0 : w2.cell? ⟨w.heap.size, 0, none⟩ = some (.int .i64 2) := by unfold World.cell?; rw [HR2.out, HCS.out]; rfl
  go_wp2_with fail
  refine (bytes_4 (V := 1) (by decide) (by decide)).mono ?_
  rintro e w3 ⟨g3, cp3, rfl, hsl3, hB3⟩
  have HSL3 := mkHid hsl3
  have HQ3 := mkHid (HQ2.out.on hB3)
  clear hsl3 hB3
  go_wp2_with ((at_builtin; refine wpList_append_bytes rfl (.tmp 65) (.tmp 68) rfl (w.heap.size + 1) i0 Tryd.underlying22 hi hz0 hz1 hz2 (.slice (some ⟨w2.heap.size, 0, none⟩) 1 1) 1 (bc [F]) rfl HQ3.out.own (some ⟨g3, 0, none⟩) 4 cp3 (be 4 1) rfl rfl (fun h => by cases h) HSL3.out (by omega) HQ3.out.size ?_; intro v4 w4 hown hgrow; have HQ4 := mkHid (HQ3.out.next (Y := be 4 1) hown rfl hgrow); clear hown hgrow; obtain ⟨f0, f2, f3, f4, f5, f7⟩ := HQ4.out.c HCS.out; refine Hid.out ?_))
  refine mkHid ?_
  have HB1 : Hid (Value.int .u8 (IntKind.u8.wrap D.length) = Value.int .u8 ((UInt8.ofNat D.length).toNat : Int)) := by rw [IntKind.wrap_u8, ← bc_byte D.length q1]; show _ = _; congr 1; omega
  have HB2' : Hid (Value.int .u8 (IntKind.u8.wrap S.length) = Value.int .u8 ((UInt8.ofNat S.length).toNat : Int)) := by rw [IntKind.wrap_u8, ← bc_byte S.length q2]; show _ = _; congr 1; omega
  obtain ⟨_, p2, _⟩ := (HQ4.out.alloc (.cells #[.int .u8 (IntKind.u8.wrap D.length)] 5)).c HCS.out
  go_wp2
  go_cut [13] from 70 to 79 (fun v wx => Hid (BQ w wx (w.heap.size + 1) cs v ([F] ++ be 4 1 ++ [UInt8.ofNat D.length] ++ D)))
  case first =>
    go_region_law ((first
      | (refine step_append_bytes rfl (.tmp 70) (.tmp 75) rfl (w.heap.size + 1) i0 Tryd.underlying22 hi hz0 hz1 hz2 v4 5 (bc ([F] ++ be 4 1)) (by first | rfl | (simp [Act.eval]; done)) (HQ4.out.own.alloc (.cells #[.int .u8 (IntKind.u8.wrap D.length)] 5)) (some ⟨w4.heap.size, 0, none⟩) 1 1 [UInt8.ofNat D.length] (by first | rfl | (simp [Act.eval]; done)) rfl (fun h => by cases h) (Sl_newb w4 _ _ HB1.out) (by omega) (by have := HQ4.out.size; simp; omega) ?_; intro v5 w5 hown hgrow; have HQ5 : Hid (BQ w w5 (w.heap.size + 1) cs v5 ([F] ++ be 4 1 ++ [UInt8.ofNat D.length])) := (HQ4.out.alloc (.cells #[.int .u8 (IntKind.u8.wrap D.length)] 5)).next (n := 1) hown rfl ⟨hgrow.os, hgrow.tape, hgrow.output, hgrow.size, hgrow.block⟩; clear hown hgrow; obtain ⟨g0, g2, g3', g4, g5, g7⟩ := HQ5.out.c HCS.out)
      | (refine step_append_bytes rfl (.tmp 76) (.tmp 78) rfl (w.heap.size + 1) i0 Tryd.underlying22 hi hz0 hz1 hz2 v5 6 (bc ([F] ++ be 4 1 ++ [UInt8.ofNat D.length])) (by first | rfl | (simp [Act.eval]; done)) HQ5.out.own da D.length dc D (by first | rfl | (simp [Act.eval]; done)) rfl HDn.out (Sl_below HD.out HQ5.out.below) (by omega) HQ5.out.size ?_; intro v6 w6 hown hgrow; have HQ6 : Hid (BQ w w6 (w.heap.size + 1) cs v6 ([F] ++ be 4 1 ++ [UInt8.ofNat D.length] ++ D)) := HQ5.out.next hown rfl ⟨hgrow.os, hgrow.tape, hgrow.output, hgrow.size, hgrow.block⟩; clear hown hgrow; obtain ⟨k0, k2, k3, k4, k5, k7⟩ := HQ6.out.c HCS.out)))
    all_goals
      go_wp2_with fail
      go_meet
      exact HQ6
  case rest =>
  clear p2 f0 f2 f3 f4 f5 f7 HQ4 HQ3 HSL3 HQ2
  obtain ⟨X1, hX1⟩ : ∃ X1, [F] ++ be 4 1 ++ [UInt8.ofNat D.length] ++ D = X1 := ⟨_, rfl⟩
  have hX1l : X1.length ≤ 26 := by rw [← hX1]; simp [be_length]; omega
  have HL1 : Hid (X1 ++ [UInt8.ofNat S.length] ++ S = X2) := by show _ = X2; rw [← hX1, ← HX2.out]; rfl
  rw [hX1] at hcut
  clear hX1
  obtain ⟨f0, f2, f3, f4, f5, f7⟩ := hcut.out.c HCS.out
  obtain ⟨_, _, p3, _⟩ := (hcut.out.alloc (.cells #[.int .u8 (IntKind.u8.wrap S.length)] 5)).c HCS.out
  go_wp2
  go_cut [13] from 80 to 89 (fun v wx => Hid (BQ w wx (w.heap.size + 1) cs v X2))
  case first =>
    go_region_law ((first
      | (refine step_append_bytes rfl (.tmp 80) (.tmp 85) rfl (w.heap.size + 1) i0 Tryd.underlying22 hi hz0 hz1 hz2 u13 X1.length (bc X1) (by first | rfl | (simp [Act.eval]; done)) (hcut.out.own.alloc (.cells #[.int .u8 (IntKind.u8.wrap S.length)] 5)) (some ⟨wc.heap.size, 0, none⟩) 1 1 [UInt8.ofNat S.length] (by first | rfl | (simp [Act.eval]; done)) rfl (fun h => by cases h) (Sl_newb wc _ _ HB2'.out) (by omega) (by have := hcut.out.size; simp; omega) ?_; intro v5 w5 hown hgrow; have HQ5 : Hid (BQ w w5 (w.heap.size + 1) cs v5 (X1 ++ [UInt8.ofNat S.length])) := (hcut.out.alloc (.cells #[.int .u8 (IntKind.u8.wrap S.length)] 5)).next (n := 1) hown rfl ⟨hgrow.os, hgrow.tape, hgrow.output, hgrow.size, hgrow.block⟩; clear hown hgrow; obtain ⟨g0, g2, g3', g4, g5, g7⟩ := HQ5.out.c HCS.out)
      | (refine step_append_bytes rfl (.tmp 86) (.tmp 88) rfl (w.heap.size + 1) i0 Tryd.underlying22 hi hz0 hz1 hz2 v5 (X1 ++ [UInt8.ofNat S.length]).length (bc (X1 ++ [UInt8.ofNat S.length])) (by first | rfl | (simp [Act.eval]; done)) HQ5.out.own sa S.length sc S (by first | rfl | (simp [Act.eval]; done)) rfl HSn.out (Sl_below HS.out HQ5.out.below) (by simp; omega) HQ5.out.size ?_; intro v6 w6 hown hgrow; have HQ6 : Hid (BQ w w6 (w.heap.size + 1) cs v6 (X1 ++ [UInt8.ofNat S.length] ++ S)) := HQ5.out.next hown rfl ⟨hgrow.os, hgrow.tape, hgrow.output, hgrow.size, hgrow.block⟩; clear hown hgrow; obtain ⟨k0, k2, k3, k4, k5, k7⟩ := HQ6.out.c HCS.out)))
    all_goals
      go_wp2_with fail
      go_meet
      rw [HL1.out] at HQ6
      exact HQ6
  case rest =>
  clear p3 f0 f2 f3 f4 f5 f7 HL1 hX1l
  obtain ⟨f0, f2, f3, f4, f5, f7⟩ := hcut.out.c HCS.out
  go_wp2_with fail
  refine (rwide_any len 2 wc).mono ?_
  rintro e w8 ⟨x8, rfl, hres, hB8⟩
  rw [wiE_2 len (by omega) q4] at hres ⊢
  obtain ⟨g8, cp8, cur8, rfl, hg8, hblk8, hroom8, hsz8, hcur8⟩ := Res_ok hres
  rw [HE2.out] at hcur8 ⊢
  have HSL8 : Hid (Sl w8 (some ⟨g8, 0, none⟩) E2) := Sl_own hblk8 hcur8
  have HQ8 := mkHid (hcut.out.on hB8)
  clear hres hblk8 hroom8 hsz8 hcur8 hg8 hB8 f0 f2 f3 f4 f5 f7
  go_wp2_with ((at_builtin; refine wpList_append_bytes rfl (.tmp 147) (.tmp 148) rfl (w.heap.size + 1) i0 Tryd.underlying22 hi hz0 hz1 hz2 u13 X2.length (bc X2) rfl HQ8.out.own (some ⟨g8, 0, none⟩) E2.length cp8 E2 rfl rfl (fun h => by cases h) HSL8.out (by omega) HQ8.out.size ?_; intro v9 w9 hown hgrow; have HQ9 := mkHid (HQ8.out.next (Y := E2) hown rfl hgrow); obtain ⟨g9, cp9, cur9, hv9, _⟩ := own_shape hown (by omega); subst hv9; clear hown hgrow; refine Hid.out ?_))
  refine mkHid ?_
  rw [HX4.out] at HQ9
  go_wp2_with fail
  refine (bytes_by (V := low) (n := n) hlow0 hlow1 q5 (by omega)).mono ?_
  rintro e w10 ⟨g10, cp10, rfl, hsl10, hB10⟩
  have HSL10 := mkHid hsl10
  have HQ10 := mkHid (HQ9.out.on hB10)
  clear hsl10 hB10
  go_wp2_with ((at_builtin; refine wpList_append_bytes rfl (.tmp 150) (.tmp 153) rfl (w.heap.size + 1) i0 Tryd.underlying22 hi hz0 hz1 hz2 (.slice (some ⟨g9, 0, none⟩) (X2.length + E2.length) cp9) X4.length (bc X4) rfl HQ10.out.own (some ⟨g10, 0, none⟩) n.toNat cp10 (be n.toNat low.toNat) rfl (be_length _ _) (fun h => by cases h) HSL10.out (by omega) HQ10.out.size ?_; intro v11 w11 hown hgrow; have HQ11 := mkHid (HQ10.out.next (Y := be n.toNat low.toNat) hown (be_length _ _) hgrow); clear hown hgrow; refine Hid.out ?_))
  refine mkHid ?_
  go_wp2
  go_ret3
  exact ⟨v11, by rw [HX4l.out]; rfl, HQ11.out.own, HQ11.out.below⟩
end Go.Proofs.YtlllejgpmdeeiaaDoor
