/- The reference's names. -/
import Derived.Test.YtpjoaimbaboleaaKa
namespace Go.Proofs.Ytpjoaimbaboleaa
open Go.RowKit Go.Shelf Go.Lib
set_option linter.unusedVariables false

theorem hi28r : (Try.prog.info? 28).map (·.size) = some 16 := by kernel_rfl
theorem hu28r : Try.prog.underlying 28 = some (.array 16 5) := by kernel_rfl
theorem putL_out {P : List UInt8} {y k j : Nat} {x : UInt8} (hP : P.length = 16) (hj : j ≤ 8) (hk : k < 8) : putL (P.set k x) 8 y j = (putL P 8 y j).set k x := by
  unfold putL
  rw [List.append_assoc, List.append_assoc, List.set_append_left _ _ (by simp [hP]; omega), List.take_set, List.drop_set_of_lt (by omega)]
theorem putL_0 {H : List UInt8} {z y k j : Nat} (hH : H.length = 16) (hj : j ≤ 8) (hk : k < 8) : putL (putL H 0 z (k + 1)) 8 y j = (putL (putL H 0 z k) 8 y j).set k ((be8 z)[k]'(by rw [be8_len]; exact hk)) := by
  have hl : (putL H 0 z k).length = 16 := putL_len hH (by omega) (by omega)
  rw [putL_set hH (by omega) hk, Nat.zero_add, putL_out hl hj hk]
theorem putL_end (a b : Nat) : putL (putL z16 0 a 8) 8 b 8 = be8 a ++ be8 b := by
  have h1 : putL z16 0 a 8 = be8 a ++ z16.drop 8 := by
    unfold putL
    rw [List.take_zero, List.nil_append, List.take_of_length_le (by rw [be8_len]; exact Nat.le_refl _)]
  rw [h1]
  unfold putL
  rw [List.take_of_length_le (l := be8 b) (by rw [be8_len]; exact Nat.le_refl _), List.take_append_of_le_length (by rw [be8_len]; exact Nat.le_refl _), List.take_of_length_le (by rw [be8_len]; exact Nat.le_refl _), List.drop_of_length_le (by simp [be8_len, z16]), List.append_nil]
theorem hz28r (w : World) : w.alloc (.cells #[.int .u8 0, .int .u8 0, .int .u8 0, .int .u8 0, .int .u8 0, .int .u8 0, .int .u8 0, .int .u8 0, .int .u8 0, .int .u8 0, .int .u8 0, .int .u8 0, .int .u8 0, .int .u8 0, .int .u8 0, .int .u8 0] 28) = w.alloc (.cells (hl z16).toArray 28) := rfl
theorem res_r {fn : Func} {p : Tmp} (h : fn.results = #[.cell p 28]) (tmps : Array Value) (w : World) (g : Nat) (H : List UInt8) (hp : tmps.getD p undef = .pointer (some ⟨g, 0, none⟩))
    (hg : w.heap[g]? = some (.cells (hl H).toArray 28 (0, 0))) (hs : H.length = 16) : (results fn tmps).run Try.prog w = .ok (hv H) w :=
  results_cell_row h tmps w g 28 _ (0, 0) _ hp hg hu28r rfl (hi28r.trans (by simp [hs]))
section
variable {ops : Array Oper} {rest : List Oper} {o : Oper} {a : Act} {w : World} {Q : Exit → Act → World → Prop}
theorem ldr (hgd : o.guard = none) (x : Operand) (ho : o.op = .load 28 x) (g : Nat) (hx : a.eval x = .pointer (some ⟨g, 0, none⟩)) (H : List UInt8) (hg : w.heap[g]? = some (.cells (hl H).toArray 28 (0, 0))) (hs : H.length = 16)
    (h : wpList Try.prog ops Q rest (a.put o.dst (hv H)) w) : wpList Try.prog ops Q (o :: rest) a w :=
  wpList_load_row hgd 28 x ho g hx 28 _ (0, 0) _ hg hu28r rfl (hi28r.trans (by simp [hs])) h
theorem str (hgd : o.guard = none) (x y : Operand) (ho : o.op = .store 28 x y) (g : Nat) (H : List UInt8) (hx : a.eval x = .pointer (some ⟨g, 0, none⟩)) (hy : a.eval y = hv H) (G : List UInt8)
    (hg : w.heap[g]? = some (.cells (hl G).toArray 28 (0, 0))) (hs : H.length = 16) (hG : G.length = 16)
    (h : wpList Try.prog ops Q rest (a.put o.dst undef) (w.setRow g (hl H).toArray)) : wpList Try.prog ops Q (o :: rest) a w :=
  wpList_store_row hgd 28 x y ho g _ hx hy 28 _ hg (hi28r.trans (by simp [hs])) (by simp [hs, hG]) (hl_one H) h
end
set_option maxRecDepth 100000 in
set_option maxHeartbeats 1000000 in
theorem rname_c (n : Nat) (hn : n ≤ 1000000) (w : World) : Calls Try.prog 14 #[.int .i64 (n : Int)] w fun e w' => e = .returned (hv (nameL n)) ∧ Below w.heap.size w w' := by
  have HR : Aside (∀ (x : Nat) (W : World), Calls Try.prog 40 #[.int .u64 (x : Int)] W fun e w' => e = .returned (.int .u64 (mixN x : Nat)) ∧ w' = W) := fun x W => rmix_c x W
  have c1 : IntKind.u64.wrap (n : Int) = (n : Int) := by rw [wrap_u64]; omega
  have c2 : IntKind.u64.wrap (2 * (n : Int)) = ((2 * n : Nat) : Int) := by rw [wrap_u64]; omega
  have c3 : IntKind.u64.wrap (((2 * n : Nat) : Int) + 1) = ((2 * n + 1 : Nat) : Int) := by rw [wrap_u64]; omega
  have HNA : Aside (nameL n = be8 (mixN (2 * n)) ++ be8 (mixN (2 * n + 1))) := rfl
  have ha := mixN_lt (2 * n)
  have hb := mixN_lt (2 * n + 1)
  have hnl := nameL_len n
  have HM1 : Aside _ := HR.out (2 * n)
  have HM2 : Aside _ := HR.out (2 * n + 1)
  generalize mixN (2 * n) = A at *
  generalize mixN (2 * n + 1) = B at *
  have HPE : Aside (putL (putL z16 0 A 8) 8 B 8 = nameL n) := by rw [HNA.out]; exact putL_end A B
  generalize nameL n = HN at *
  generalize hx1 : 2 * n = x1 at *
  generalize hx2 : x1 + 1 = x2 at *
  clear hx1 hx2 HR HNA
  have HA : Aside _ := be8_at A
  have HB : Aside _ := be8_at B
  obtain ⟨ai, hai⟩ : ∃ ai : Int, (A : Int) = ai := ⟨_, rfl⟩
  obtain ⟨bi, hbi⟩ : ∃ bi : Int, (B : Int) = bi := ⟨_, rfl⟩
  have a0 : 0 ≤ ai := by omega
  have a1 : ai < 18446744073709551616 := by unfold M64 at ha; omega
  have b0 : 0 ≤ bi := by omega
  have b1 : bi < 18446744073709551616 := by unfold M64 at hb; omega
  rw [hai] at HA HM1
  rw [hbi] at HB HM2
  clear ha hb hai hbi
  have X := a3 w (.cells (hl z16).toArray 28) (.cells (hl z16).toArray 28) (.cells (hl z16).toArray 28)
  have X2 : ((w.alloc (.cells (hl z16).toArray 28)).alloc (.cells (hl z16).toArray 28)).heap[w.heap.size]? = some (.cells (hl z16).toArray 28 (0, 0)) := nth' (new' rfl)
  have X3 : ((w.alloc (.cells (hl z16).toArray 28)).alloc (.cells (hl z16).toArray 28)).heap[w.heap.size + 1]? = some (.cells (hl z16).toArray 28 (0, 0)) := new' (by simp)
  have hbw : Below w.heap.size w ((w.alloc (.cells (hl z16).toArray 28)).alloc (.cells (hl z16).toArray 28)) := (bel1 w _).alloc (by simp) _
  have HX2 : Aside _ := X2
  have HX3 : Aside _ := X3
  have HBW : Aside _ := hbw
  clear X X2 X3 hbw
  go_enter Try.func14, Try.ntmps14
  go_wp2_with fail
  rw [hz28r, hz28r]
  generalize (w.alloc (.cells (hl z16).toArray 28)).alloc (.cells (hl z16).toArray 28) = W1 at *
  refine Calls.mono (HM1.out _) ?_
  rintro e W2 ⟨rfl, rfl⟩
  go_wp2_with fail
  refine Calls.mono (HM2.out _) ?_
  rintro e W3 ⟨rfl, rfl⟩
  clear HM1 HM2
  go_wp2_with fail
  go_loopg [6] 9 (fun kx s6 wr => ∃ k : Nat, s6 = .int .i64 k ∧ k ≤ 8 ∧ 8 - k ≤ kx ∧ Aside (wr.heap[w.heap.size + 1]? = some (.cells (hl (putL (putL z16 0 A k) 8 B k)).toArray 28 (0, 0))) ∧ Aside (Chg (fun j => j = w.heap.size + 1) W3 wr))
  case atStart => exact ⟨0, rfl, by omega, by omega, by have := HX3.out; show _ = _; simpa [putL] using this, Chg.refl _ _⟩
  case round =>
    obtain ⟨k, rfl, hk, hg, HK, HG⟩ := hrel
    by_cases hlt : k < 8
    · have l1 : (putL z16 0 A k).length = 16 := putL_len rfl (by omega) (by omega)
      have l2 : (putL (putL z16 0 A k) 8 B k).length = 16 := putL_len l1 (by omega) (by omega)
      have l3 : (putL z16 0 A (k + 1)).length = 16 := putL_len rfl (by omega) (by omega)
      have l4 : (putL (putL z16 0 A (k + 1)) 8 B k).length = 16 := putL_len l3 (by omega) (by omega)
      have HVA : Aside _ := HA.out k hlt
      have HVB : Aside _ := HB.out k hlt
      have ST : Aside (∀ x y : Int, x = (((be8 A)[k]'(by rw [be8_len]; exact hlt)).toNat : Int) → y = (((be8 B)[k]'(by rw [be8_len]; exact hlt)).toNat : Int) → (∃ v, wr.cell? ⟨w.heap.size + 1, k, none⟩ = some v) ∧ wr.frozen? ⟨w.heap.size + 1, k, none⟩ = false ∧ (∃ v, (wr.setCell ⟨w.heap.size + 1, k, none⟩ (.int .u8 x)).cell? ⟨w.heap.size + 1, 8 + k, none⟩ = some v) ∧ (wr.setCell ⟨w.heap.size + 1, k, none⟩ (.int .u8 x)).frozen? ⟨w.heap.size + 1, 8 + k, none⟩ = false ∧ ((wr.setCell ⟨w.heap.size + 1, k, none⟩ (.int .u8 x)).setCell ⟨w.heap.size + 1, 8 + k, none⟩ (.int .u8 y)).heap[w.heap.size + 1]? = some (.cells (hl (putL (putL z16 0 A (k + 1)) 8 B (k + 1))).toArray 28 (0, 0)) ∧ Chg (fun j => j = w.heap.size + 1) W3 ((wr.setCell ⟨w.heap.size + 1, k, none⟩ (.int .u8 x)).setCell ⟨w.heap.size + 1, 8 + k, none⟩ (.int .u8 y))) := by
        rintro x y rfl rfl
        have r1 : (wr.setCell ⟨w.heap.size + 1, k, none⟩ (.int .u8 (((be8 A)[k]'(by rw [be8_len]; exact hlt)).toNat : Int))).heap[w.heap.size + 1]? = some (.cells (hl (putL (putL z16 0 A (k + 1)) 8 B k)).toArray 28 (0, 0)) := by
          rw [setCell_eq_setRow wr _ k _ 28 (0, 0) _ HK.out, setRow_heap _ _ _ _ 28 (0, 0) HK.out, putL_0 rfl (by omega) hlt, hl_set]
          simp
        have g1 : Chg (fun j => j = w.heap.size + 1) W3 (wr.setCell ⟨w.heap.size + 1, k, none⟩ (.int .u8 (((be8 A)[k]'(by rw [be8_len]; exact hlt)).toNat : Int))) := by
          rw [setCell_eq_setRow wr _ k _ 28 (0, 0) _ HK.out]
          exact HG.out.trans ⟨rfl, rfl, rfl, by simp, fun j hj hx => setRow_other _ _ _ _ (fun e => hx e)⟩
        refine ⟨⟨(hl (putL (putL z16 0 A k) 8 B k))[k]'(by rw [hl_len, l2]; omega), by simp [World.cell?, HK.out]⟩, by simp [World.frozen?, HK.out], ⟨(hl (putL (putL z16 0 A (k + 1)) 8 B k))[8 + k]'(by rw [hl_len, l4]; omega), by simp [World.cell?, r1]⟩, by simp [World.frozen?, r1], ?_, ?_⟩
        · rw [setCell_eq_setRow _ _ (8 + k) _ 28 (0, 0) _ r1, setRow_heap _ _ _ _ 28 (0, 0) r1, putL_set l3 (by omega) hlt, hl_set]
          simp
        · rw [setCell_eq_setRow _ _ (8 + k) _ 28 (0, 0) _ r1]
          exact g1.trans ⟨rfl, rfl, rfl, by simp, fun j hj hx => setRow_other _ _ _ _ (fun e => hx e)⟩
      clear l1 l2 l3 l4 HK HG
      rcases (show k = 0 ∨ k = 1 ∨ k = 2 ∨ k = 3 ∨ k = 4 ∨ k = 5 ∨ k = 6 ∨ k = 7 by omega) with rfl | rfl | rfl | rfl | rfl | rfl | rfl | rfl
      · obtain ⟨xv, hxv, HX⟩ : ∃ xv : Int, ai / 72057594037927936 = xv ∧ Aside (xv = (((be8 A)[0]'(by rw [be8_len]; omega)).toNat : Int)) := ⟨_, rfl, by have := HVA.out; rw [wrap_u8] at this; show _ = _; rw [this]; simp; try omega⟩
        obtain ⟨yv, hyv, HY⟩ : ∃ yv : Int, bi / 72057594037927936 = yv ∧ Aside (yv = (((be8 B)[0]'(by rw [be8_len]; omega)).toNat : Int)) := ⟨_, rfl, by have := HVB.out; rw [wrap_u8] at this; show _ = _; rw [this]; simp; try omega⟩
        obtain ⟨⟨v1, d1⟩, d2, ⟨v3, d3⟩, d4, d5, d6⟩ := ST.out xv yv HX.out HY.out
        have HD : Aside _ := And.intro d5 d6
        have d3' : (wr.setCell ⟨w.heap.size + 1, 0, none⟩ (.int .u8 xv)).cell? ⟨w.heap.size + 1, 8, none⟩ = some v3 := d3
        have d4' : (wr.setCell ⟨w.heap.size + 1, 0, none⟩ (.int .u8 xv)).frozen? ⟨w.heap.size + 1, 8, none⟩ = false := d4
        have HD' : Aside ((((wr.setCell ⟨w.heap.size + 1, 0, none⟩ (.int .u8 xv)).setCell ⟨w.heap.size + 1, 8, none⟩ (.int .u8 yv)).heap[w.heap.size + 1]? = some (.cells (hl (putL (putL z16 0 A 1) 8 B 1)).toArray 28 (0, 0))) ∧ Chg (fun j => j = w.heap.size + 1) W3 ((wr.setCell ⟨w.heap.size + 1, 0, none⟩ (.int .u8 xv)).setCell ⟨w.heap.size + 1, 8, none⟩ (.int .u8 yv))) := HD.out
        clear d3 d4 d5 d6 HD ST HVA HVB HX HY
        go_wp2
        go_roundg (8 - 1)
        case measure => omega
        case rel => exact ⟨1, rfl, by omega, by omega, HD'.out.1, HD'.out.2⟩
      · obtain ⟨xv, hxv, HX⟩ : ∃ xv : Int, ai / 281474976710656 % 256 = xv ∧ Aside (xv = (((be8 A)[1]'(by rw [be8_len]; omega)).toNat : Int)) := ⟨_, rfl, by have := HVA.out; rw [wrap_u8] at this; show _ = _; rw [this]; simp; try omega⟩
        obtain ⟨yv, hyv, HY⟩ : ∃ yv : Int, bi / 281474976710656 % 256 = yv ∧ Aside (yv = (((be8 B)[1]'(by rw [be8_len]; omega)).toNat : Int)) := ⟨_, rfl, by have := HVB.out; rw [wrap_u8] at this; show _ = _; rw [this]; simp; try omega⟩
        obtain ⟨⟨v1, d1⟩, d2, ⟨v3, d3⟩, d4, d5, d6⟩ := ST.out xv yv HX.out HY.out
        have HD : Aside _ := And.intro d5 d6
        have d3' : (wr.setCell ⟨w.heap.size + 1, 1, none⟩ (.int .u8 xv)).cell? ⟨w.heap.size + 1, 9, none⟩ = some v3 := d3
        have d4' : (wr.setCell ⟨w.heap.size + 1, 1, none⟩ (.int .u8 xv)).frozen? ⟨w.heap.size + 1, 9, none⟩ = false := d4
        have HD' : Aside ((((wr.setCell ⟨w.heap.size + 1, 1, none⟩ (.int .u8 xv)).setCell ⟨w.heap.size + 1, 9, none⟩ (.int .u8 yv)).heap[w.heap.size + 1]? = some (.cells (hl (putL (putL z16 0 A 2) 8 B 2)).toArray 28 (0, 0))) ∧ Chg (fun j => j = w.heap.size + 1) W3 ((wr.setCell ⟨w.heap.size + 1, 1, none⟩ (.int .u8 xv)).setCell ⟨w.heap.size + 1, 9, none⟩ (.int .u8 yv))) := HD.out
        clear d3 d4 d5 d6 HD ST HVA HVB HX HY
        go_wp2
        go_roundg (8 - 2)
        case measure => omega
        case rel => exact ⟨2, rfl, by omega, by omega, HD'.out.1, HD'.out.2⟩
      · obtain ⟨xv, hxv, HX⟩ : ∃ xv : Int, ai / 1099511627776 % 256 = xv ∧ Aside (xv = (((be8 A)[2]'(by rw [be8_len]; omega)).toNat : Int)) := ⟨_, rfl, by have := HVA.out; rw [wrap_u8] at this; show _ = _; rw [this]; simp; try omega⟩
        obtain ⟨yv, hyv, HY⟩ : ∃ yv : Int, bi / 1099511627776 % 256 = yv ∧ Aside (yv = (((be8 B)[2]'(by rw [be8_len]; omega)).toNat : Int)) := ⟨_, rfl, by have := HVB.out; rw [wrap_u8] at this; show _ = _; rw [this]; simp; try omega⟩
        obtain ⟨⟨v1, d1⟩, d2, ⟨v3, d3⟩, d4, d5, d6⟩ := ST.out xv yv HX.out HY.out
        have HD : Aside _ := And.intro d5 d6
        have d3' : (wr.setCell ⟨w.heap.size + 1, 2, none⟩ (.int .u8 xv)).cell? ⟨w.heap.size + 1, 10, none⟩ = some v3 := d3
        have d4' : (wr.setCell ⟨w.heap.size + 1, 2, none⟩ (.int .u8 xv)).frozen? ⟨w.heap.size + 1, 10, none⟩ = false := d4
        have HD' : Aside ((((wr.setCell ⟨w.heap.size + 1, 2, none⟩ (.int .u8 xv)).setCell ⟨w.heap.size + 1, 10, none⟩ (.int .u8 yv)).heap[w.heap.size + 1]? = some (.cells (hl (putL (putL z16 0 A 3) 8 B 3)).toArray 28 (0, 0))) ∧ Chg (fun j => j = w.heap.size + 1) W3 ((wr.setCell ⟨w.heap.size + 1, 2, none⟩ (.int .u8 xv)).setCell ⟨w.heap.size + 1, 10, none⟩ (.int .u8 yv))) := HD.out
        clear d3 d4 d5 d6 HD ST HVA HVB HX HY
        go_wp2
        go_roundg (8 - 3)
        case measure => omega
        case rel => exact ⟨3, rfl, by omega, by omega, HD'.out.1, HD'.out.2⟩
      · obtain ⟨xv, hxv, HX⟩ : ∃ xv : Int, ai / 4294967296 % 256 = xv ∧ Aside (xv = (((be8 A)[3]'(by rw [be8_len]; omega)).toNat : Int)) := ⟨_, rfl, by have := HVA.out; rw [wrap_u8] at this; show _ = _; rw [this]; simp; try omega⟩
        obtain ⟨yv, hyv, HY⟩ : ∃ yv : Int, bi / 4294967296 % 256 = yv ∧ Aside (yv = (((be8 B)[3]'(by rw [be8_len]; omega)).toNat : Int)) := ⟨_, rfl, by have := HVB.out; rw [wrap_u8] at this; show _ = _; rw [this]; simp; try omega⟩
        obtain ⟨⟨v1, d1⟩, d2, ⟨v3, d3⟩, d4, d5, d6⟩ := ST.out xv yv HX.out HY.out
        have HD : Aside _ := And.intro d5 d6
        have d3' : (wr.setCell ⟨w.heap.size + 1, 3, none⟩ (.int .u8 xv)).cell? ⟨w.heap.size + 1, 11, none⟩ = some v3 := d3
        have d4' : (wr.setCell ⟨w.heap.size + 1, 3, none⟩ (.int .u8 xv)).frozen? ⟨w.heap.size + 1, 11, none⟩ = false := d4
        have HD' : Aside ((((wr.setCell ⟨w.heap.size + 1, 3, none⟩ (.int .u8 xv)).setCell ⟨w.heap.size + 1, 11, none⟩ (.int .u8 yv)).heap[w.heap.size + 1]? = some (.cells (hl (putL (putL z16 0 A 4) 8 B 4)).toArray 28 (0, 0))) ∧ Chg (fun j => j = w.heap.size + 1) W3 ((wr.setCell ⟨w.heap.size + 1, 3, none⟩ (.int .u8 xv)).setCell ⟨w.heap.size + 1, 11, none⟩ (.int .u8 yv))) := HD.out
        clear d3 d4 d5 d6 HD ST HVA HVB HX HY
        go_wp2
        go_roundg (8 - 4)
        case measure => omega
        case rel => exact ⟨4, rfl, by omega, by omega, HD'.out.1, HD'.out.2⟩
      · obtain ⟨xv, hxv, HX⟩ : ∃ xv : Int, ai / 16777216 % 256 = xv ∧ Aside (xv = (((be8 A)[4]'(by rw [be8_len]; omega)).toNat : Int)) := ⟨_, rfl, by have := HVA.out; rw [wrap_u8] at this; show _ = _; rw [this]; simp; try omega⟩
        obtain ⟨yv, hyv, HY⟩ : ∃ yv : Int, bi / 16777216 % 256 = yv ∧ Aside (yv = (((be8 B)[4]'(by rw [be8_len]; omega)).toNat : Int)) := ⟨_, rfl, by have := HVB.out; rw [wrap_u8] at this; show _ = _; rw [this]; simp; try omega⟩
        obtain ⟨⟨v1, d1⟩, d2, ⟨v3, d3⟩, d4, d5, d6⟩ := ST.out xv yv HX.out HY.out
        have HD : Aside _ := And.intro d5 d6
        have d3' : (wr.setCell ⟨w.heap.size + 1, 4, none⟩ (.int .u8 xv)).cell? ⟨w.heap.size + 1, 12, none⟩ = some v3 := d3
        have d4' : (wr.setCell ⟨w.heap.size + 1, 4, none⟩ (.int .u8 xv)).frozen? ⟨w.heap.size + 1, 12, none⟩ = false := d4
        have HD' : Aside ((((wr.setCell ⟨w.heap.size + 1, 4, none⟩ (.int .u8 xv)).setCell ⟨w.heap.size + 1, 12, none⟩ (.int .u8 yv)).heap[w.heap.size + 1]? = some (.cells (hl (putL (putL z16 0 A 5) 8 B 5)).toArray 28 (0, 0))) ∧ Chg (fun j => j = w.heap.size + 1) W3 ((wr.setCell ⟨w.heap.size + 1, 4, none⟩ (.int .u8 xv)).setCell ⟨w.heap.size + 1, 12, none⟩ (.int .u8 yv))) := HD.out
        clear d3 d4 d5 d6 HD ST HVA HVB HX HY
        go_wp2
        go_roundg (8 - 5)
        case measure => omega
        case rel => exact ⟨5, rfl, by omega, by omega, HD'.out.1, HD'.out.2⟩
      · obtain ⟨xv, hxv, HX⟩ : ∃ xv : Int, ai / 65536 % 256 = xv ∧ Aside (xv = (((be8 A)[5]'(by rw [be8_len]; omega)).toNat : Int)) := ⟨_, rfl, by have := HVA.out; rw [wrap_u8] at this; show _ = _; rw [this]; simp; try omega⟩
        obtain ⟨yv, hyv, HY⟩ : ∃ yv : Int, bi / 65536 % 256 = yv ∧ Aside (yv = (((be8 B)[5]'(by rw [be8_len]; omega)).toNat : Int)) := ⟨_, rfl, by have := HVB.out; rw [wrap_u8] at this; show _ = _; rw [this]; simp; try omega⟩
        obtain ⟨⟨v1, d1⟩, d2, ⟨v3, d3⟩, d4, d5, d6⟩ := ST.out xv yv HX.out HY.out
        have HD : Aside _ := And.intro d5 d6
        have d3' : (wr.setCell ⟨w.heap.size + 1, 5, none⟩ (.int .u8 xv)).cell? ⟨w.heap.size + 1, 13, none⟩ = some v3 := d3
        have d4' : (wr.setCell ⟨w.heap.size + 1, 5, none⟩ (.int .u8 xv)).frozen? ⟨w.heap.size + 1, 13, none⟩ = false := d4
        have HD' : Aside ((((wr.setCell ⟨w.heap.size + 1, 5, none⟩ (.int .u8 xv)).setCell ⟨w.heap.size + 1, 13, none⟩ (.int .u8 yv)).heap[w.heap.size + 1]? = some (.cells (hl (putL (putL z16 0 A 6) 8 B 6)).toArray 28 (0, 0))) ∧ Chg (fun j => j = w.heap.size + 1) W3 ((wr.setCell ⟨w.heap.size + 1, 5, none⟩ (.int .u8 xv)).setCell ⟨w.heap.size + 1, 13, none⟩ (.int .u8 yv))) := HD.out
        clear d3 d4 d5 d6 HD ST HVA HVB HX HY
        go_wp2
        go_roundg (8 - 6)
        case measure => omega
        case rel => exact ⟨6, rfl, by omega, by omega, HD'.out.1, HD'.out.2⟩
      · obtain ⟨xv, hxv, HX⟩ : ∃ xv : Int, ai / 256 % 256 = xv ∧ Aside (xv = (((be8 A)[6]'(by rw [be8_len]; omega)).toNat : Int)) := ⟨_, rfl, by have := HVA.out; rw [wrap_u8] at this; show _ = _; rw [this]; simp; try omega⟩
        obtain ⟨yv, hyv, HY⟩ : ∃ yv : Int, bi / 256 % 256 = yv ∧ Aside (yv = (((be8 B)[6]'(by rw [be8_len]; omega)).toNat : Int)) := ⟨_, rfl, by have := HVB.out; rw [wrap_u8] at this; show _ = _; rw [this]; simp; try omega⟩
        obtain ⟨⟨v1, d1⟩, d2, ⟨v3, d3⟩, d4, d5, d6⟩ := ST.out xv yv HX.out HY.out
        have HD : Aside _ := And.intro d5 d6
        have d3' : (wr.setCell ⟨w.heap.size + 1, 6, none⟩ (.int .u8 xv)).cell? ⟨w.heap.size + 1, 14, none⟩ = some v3 := d3
        have d4' : (wr.setCell ⟨w.heap.size + 1, 6, none⟩ (.int .u8 xv)).frozen? ⟨w.heap.size + 1, 14, none⟩ = false := d4
        have HD' : Aside ((((wr.setCell ⟨w.heap.size + 1, 6, none⟩ (.int .u8 xv)).setCell ⟨w.heap.size + 1, 14, none⟩ (.int .u8 yv)).heap[w.heap.size + 1]? = some (.cells (hl (putL (putL z16 0 A 7) 8 B 7)).toArray 28 (0, 0))) ∧ Chg (fun j => j = w.heap.size + 1) W3 ((wr.setCell ⟨w.heap.size + 1, 6, none⟩ (.int .u8 xv)).setCell ⟨w.heap.size + 1, 14, none⟩ (.int .u8 yv))) := HD.out
        clear d3 d4 d5 d6 HD ST HVA HVB HX HY
        go_wp2
        go_roundg (8 - 7)
        case measure => omega
        case rel => exact ⟨7, rfl, by omega, by omega, HD'.out.1, HD'.out.2⟩
      · obtain ⟨xv, hxv, HX⟩ : ∃ xv : Int, ai % 256 = xv ∧ Aside (xv = (((be8 A)[7]'(by rw [be8_len]; omega)).toNat : Int)) := ⟨_, rfl, by have := HVA.out; rw [wrap_u8] at this; show _ = _; rw [this]; simp; try omega⟩
        obtain ⟨yv, hyv, HY⟩ : ∃ yv : Int, bi % 256 = yv ∧ Aside (yv = (((be8 B)[7]'(by rw [be8_len]; omega)).toNat : Int)) := ⟨_, rfl, by have := HVB.out; rw [wrap_u8] at this; show _ = _; rw [this]; simp; try omega⟩
        obtain ⟨⟨v1, d1⟩, d2, ⟨v3, d3⟩, d4, d5, d6⟩ := ST.out xv yv HX.out HY.out
        have HD : Aside _ := And.intro d5 d6
        have d3' : (wr.setCell ⟨w.heap.size + 1, 7, none⟩ (.int .u8 xv)).cell? ⟨w.heap.size + 1, 15, none⟩ = some v3 := d3
        have d4' : (wr.setCell ⟨w.heap.size + 1, 7, none⟩ (.int .u8 xv)).frozen? ⟨w.heap.size + 1, 15, none⟩ = false := d4
        have HD' : Aside ((((wr.setCell ⟨w.heap.size + 1, 7, none⟩ (.int .u8 xv)).setCell ⟨w.heap.size + 1, 15, none⟩ (.int .u8 yv)).heap[w.heap.size + 1]? = some (.cells (hl (putL (putL z16 0 A 8) 8 B 8)).toArray 28 (0, 0))) ∧ Chg (fun j => j = w.heap.size + 1) W3 ((wr.setCell ⟨w.heap.size + 1, 7, none⟩ (.int .u8 xv)).setCell ⟨w.heap.size + 1, 15, none⟩ (.int .u8 yv))) := HD.out
        clear d3 d4 d5 d6 HD ST HVA HVB HX HY
        go_wp2
        go_roundg (8 - 8)
        case measure => omega
        case rel => exact ⟨8, rfl, by omega, by omega, HD'.out.1, HD'.out.2⟩
    · obtain rfl : k = 8 := by omega
      have HK8 : Aside (wr.heap[w.heap.size + 1]? = some (.cells (hl HN).toArray 28 (0, 0))) := by rw [← HPE.out]; exact HK.out
      have hlt1 : w.heap.size < W3.heap.size := (Array.getElem?_eq_some_iff.1 HX2.out).1
      have HK2 : Aside (wr.heap[w.heap.size]? = some (.cells (hl z16).toArray 28 (0, 0))) := (HG.out.2.2.2.2 _ hlt1 (by omega)).trans HX2.out
      have HRS : Aside _ := setRow_heap wr w.heap.size _ (hl HN).toArray 28 (0, 0) HK2.out
      have HBE : Aside (Below w.heap.size w (wr.setRow w.heap.size (hl HN).toArray)) := bel_set (Chg.below HBW.out HBW.out.size HG.out (fun j hj => by omega)) (Nat.le_refl _) _
      clear HK HG
      go_wp2_with (first | (refine ldr rfl (.tmp 3) rfl (w.heap.size + 1) rfl HN HK8.out hnl ?_) | (refine str rfl (.tmp 2) (.tmp 39) rfl w.heap.size HN rfl rfl z16 HK2.out hnl rfl ?_))
      refine bodyPost_ret (v := hv HN) (res_r (fn := Try.f14) (p := 2) rfl _ _ w.heap.size HN rfl HRS.out hnl) rfl ?_
      exact ⟨rfl, HBE.out⟩
end Go.Proofs.Ytpjoaimbaboleaa
