/- ParamsPut: the walk. -/
import Derived.Test.YtcppnellgkbndaaDoorRv
import Derived.Deep.CutBlock
namespace Go.Proofs.YtcppnellgkbndaaDoor
open Go.ChangeShapes Go.WideShapes Go.ChangeAt Go.RowKit Go.Shelf
set_option linter.unusedVariables false
set_option maxRecDepth 100000

theorem yl25 {ops : Array Oper} {S : World → Prop} {op : Oper} {a : Act} (hw : Region.wanted op (yielded ops a.tmps) = true) (x : Operand) (ho : op.op = .load 25 x) (P : Nat) (hx : a.eval x = .pointer (some ⟨P, 0, none⟩)) (cs : Array Value)
    (hS : ∀ w, S w → w.heap[P]? = some (.cells cs 25 (0, 0))) (hi : (Tryd.prog.info? 25).map (·.size) = some cs.size) : YieldsIf Tryd.prog ops S op (.agg cs) a :=
  .inl ⟨hw, fun w hw' => by
    unfold execOp
    simp only [ho, hx, Instr.loadAt, Instr.sureAddr, Sem.run_bind, Sem.run_pure, Result.andThen_ok, run_loadVar_row w P 25 25 cs (0, 0) _ (hS w hw') hu25 rfl hi]⟩
theorem own_Sl {B n c : Nat} {w : World} {o : Option Addr} {l : List UInt8} (h : w.ownsRow B 5 1 (.slice o n c) n (bc l)) (hl : l.length = n) : Sl w o l := by
  by_cases h0 : n = 0
  · intro j hj; omega
  · obtain ⟨g, cap, e, hs, -⟩ := own_sl h hl (by omega)
    simp only [Value.slice.injEq] at e
    rw [e.1]; exact hs
theorem own_conv {B n c : Nat} {w : World} {o : Option Addr} {l : List UInt8} (h : w.ownsRow B 5 1 (.slice o n c) n (bc l)) (hl : l.length = n) : (convert 22 9 (.slice o n c)).run Tryd.prog w = .ok (.string (bt l)) w := by
  have := conv_bytes (own_Sl h hl) c
  rw [hl] at this
  exact this
/-- Nothing but block g has turned. -/
def Tg (g : Nat) (w w' : World) : Prop := w'.os = w.os ∧ w'.tape = w.tape ∧ w'.output = w.output ∧ w.heap.size ≤ w'.heap.size ∧ ∀ k, k < w.heap.size → k ≠ g → w'.heap[k]? = w.heap[k]?
theorem Tg.below {g n : Nat} {w w' x : World} (h : Tg g w w') (hb : Below n x w) (hx : n ≤ x.heap.size) (hg : n ≤ g) : Below n x w' := ⟨h.1.trans hb.os, h.2.1.trans hb.tape, h.2.2.1.trans hb.output, Nat.le_trans hb.size h.2.2.2.1, fun k hk => (h.2.2.2.2 k (by have := hb.size; omega) (by omega)).trans (hb.block k hk)⟩
theorem own_tg {B n g : Nat} {w X : World} {v : Value} {xs : List Value} (h : w.ownsRow B 5 1 v n xs) (ht : Tg g w X) (hg : g < B) : X.ownsRow B 5 1 v n xs := by
  obtain ⟨a1, a2 | ⟨g', cap, cur, rfl, k1, k2, k3⟩⟩ := h
  · exact ⟨a1, .inl a2⟩
  · exact ⟨a1, .inr ⟨g', cap, cur, rfl, k1, (ht.2.2.2.2 g' (lt_block k2) (by omega)).trans k2, k3⟩⟩
/-- A row of bytes in block g. -/
def Bx (w : World) (g n : Nat) : Prop := ∃ cur : Array Value, w.heap[g]? = some (.cells cur 5 (0, 0)) ∧ ∀ i, i < n → ∃ b : Int, cur[i]? = some (.int .u8 b)
theorem Bx.turn {w Y : World} {g n : Nat} (h : Bx w g n) (ht : Tg g Y w) (i : Nat) (x : Int) : Bx (w.setCell ⟨g, i, none⟩ (.int .u8 x)) g n ∧ Tg g Y (w.setCell ⟨g, i, none⟩ (.int .u8 x)) := by
  obtain ⟨cur, h1, h2⟩ := h
  have e := setCell_eq_setRow w g i _ 5 (0, 0) (.int .u8 x) h1
  refine ⟨⟨cur.setIfInBounds i (.int .u8 x), ?_, ?_⟩, ?_⟩
  · rw [e, setRow_heap w g _ _ 5 (0, 0) h1]
  · intro j hj
    obtain ⟨b, hb⟩ := h2 j hj
    rw [Array.getElem?_setIfInBounds]
    by_cases hij : i = j
    · subst hij
      have : i < cur.size := (Array.getElem?_eq_some_iff.1 hb).1
      exact ⟨x, by simp [this]⟩
    · exact ⟨b, by simp [hij, hb]⟩
  · rw [e]
    exact ⟨ht.1, ht.2.1, ht.2.2.1, by simpa using ht.2.2.2.1, fun k hk hs => (setRow_other w g k _ hs).trans (ht.2.2.2.2 k hk hs)⟩
theorem own_bx {B n c : Nat} {w : World} {o : Option Addr} {l : List UInt8} (h : w.ownsRow B 5 1 (.slice o n c) n (bc l)) (hl : l.length = n) (h0 : 0 < n) : ∃ g, o = some ⟨g, 0, none⟩ ∧ B ≤ g ∧ g < w.heap.size ∧ Bx w g n := by
  obtain ⟨_, ⟨_, h0'⟩ | ⟨g, cap, cur, e, k1, k2, k3, k4, k5, k6⟩⟩ := h
  · omega
  · simp only [Value.slice.injEq] at e
    refine ⟨g, e.1, k1, lt_block k2, cur, k2, fun i hi => ?_⟩
    have h6 : cur.toList.take n = bc l := by rw [Nat.mul_one] at k6; exact k6
    have h7 : (cur.toList.take n)[i]? = (bc l)[i]? := by rw [h6]
    rw [List.getElem?_take, if_pos hi] at h7
    refine ⟨(l[i]'(by omega)).toNat, ?_⟩
    have h8 : cur[i]? = cur.toList[i]? := by simp
    rw [h8, h7]
    simp [bc, List.getElem?_eq_getElem (show i < l.length by omega)]
set_option maxHeartbeats 6000000 in
theorem put_walk (p : Ps) (s : Bool) (w : World) (h : Pl w p) (ht : Tb w) (hs20 : p.reset.length = 16) : Calls Tryd.prog 3 #[.agg p.cells.toArray, .bool s] w fun e w' => e = .returned (.bool true) ∧ Below w.heap.size w w' := by
  obtain ⟨EB, hEB⟩ : ∃ EB : Int, (if p.bad s then (2 : Int) else 0) = EB := ⟨_, rfl⟩
  obtain ⟨LX, hLX⟩ : ∃ LX : List UInt8, (if p.bad s then [] else p.bytes s) = LX := ⟨_, rfl⟩
  obtain ⟨n, hn⟩ : ∃ n, LX.length = n := ⟨_, rfl⟩
  have HN : Aside (LX.length = n) := hn
  have HL0 : Aside (n ≤ 9223372036854775806) := by
    show _ ≤ _
    rw [← hn, ← hLX]
    cases hbd : p.bad s with
    | true => simp
    | false =>
      simp only [Bool.false_eq_true, if_false]
      have h1 := putB_len s (tab 0 p) (fun x hx => tab_bs hs20 x hx (tab_al hbd x hx))
      rw [tab_put, tab_len] at h1
      omega
  have HCK : Aside (∀ X, Below w.heap.size w X → Calls Tryd.prog 11 #[.agg p.cells.toArray, .bool s] X fun e w' => e = .returned (.int .i64 EB) ∧ Below X.heap.size X w') := fun X hX => by
    have := check_c p s X (h.bel hX)
    rwa [hEB] at this
  have HRF : Aside (∀ X, Below w.heap.size w X → Calls Tryd.prog 10 #[.agg p.cells.toArray] X fun e w' => e = .returned (.agg (refq p).cells.toArray) ∧ Below X.heap.size X w') := fun X hX => refs_c p X (h.bel hX)
  have hrb := refq_bad p s
  have HRC : Aside (∀ X, Calls Tryd.prog 12 #[.agg (refq p).cells.toArray, .bool s] X fun e w' => e = .returned (.int .i64 EB) ∧ Below X.heap.size X w') := fun X => by
    rw [← hEB, hrb]
    cases hnb : numsL.any (refq p).nbad with
    | true => exact rcheck_num (refq p) s X hnb
    | false => exact (rcheck_fit (refq p) s X hnb).mono (by rintro e w' ⟨rfl, h2⟩; exact ⟨by rw [Bool.false_or], h2⟩)
  have HPT : Aside (∀ X, Below w.heap.size w X → Calls Tryd.prog 8 #[.agg p.cells.toArray, .bool s] X fun e w' => ∃ o c, e = .returned (.tuple #[.slice o n c, .int .i64 EB]) ∧ w'.ownsRow X.heap.size 5 1 (.slice o n c) n (bc LX) ∧ Below X.heap.size X w') := fun X hX => by
    cases hbd : p.bad s with
    | true =>
      rw [hbd] at hEB hLX
      simp only [if_true] at hEB hLX
      subst hEB hLX
      simp only [List.length_nil] at hn
      subst hn
      refine (put_no p s X (h.bel hX) hbd).mono ?_
      rintro e w' ⟨rfl, hb⟩
      exact ⟨none, 0, rfl, ⟨rfl, .inl ⟨rfl, rfl⟩⟩, hb⟩
    | false =>
      rw [hbd] at hEB hLX
      simp only [Bool.false_eq_true, if_false] at hEB hLX
      subst hEB hLX
      refine (put_c p s X (h.bel hX) (Tb_below ht hX (Tb_pos ht)) hbd).mono ?_
      rintro e w' ⟨v, rfl, hown, hb⟩
      rw [hn] at hown
      obtain ⟨a1, ⟨rfl, rfl⟩ | ⟨g, cap, cur, rfl, k⟩⟩ := hown
      · exact ⟨none, 0, rfl, ⟨a1, .inl ⟨rfl, rfl⟩⟩, hb⟩
      · exact ⟨_, cap, rfl, ⟨a1, .inr ⟨g, cap, cur, rfl, k⟩⟩, hb⟩
  have HRP : Aside (∀ X, Calls Tryd.prog 9 #[.agg (refq p).cells.toArray, .bool s] X fun e w' => ∃ o c, e = .returned (.tuple #[.slice o n c, .int .i64 EB]) ∧ w'.ownsRow X.heap.size 5 1 (.slice o n c) n (bc LX) ∧ Below X.heap.size X w') := fun X => by
    cases hbd : p.bad s with
    | true =>
      rw [hbd] at hEB hLX
      simp only [if_true] at hEB hLX
      subst hEB hLX
      simp only [List.length_nil] at hn
      subst hn
      refine (rput_no (refq p) s X (by rw [← hrb]; exact hbd)).mono ?_
      rintro e w' ⟨rfl, hb⟩
      exact ⟨none, 0, rfl, ⟨rfl, .inl ⟨rfl, rfl⟩⟩, hb⟩
    | false =>
      have hx : (numsL.any (refq p).nbad || (refq p).tbad s) = false := by rw [← hrb]; exact hbd
      have hx1 : numsL.any (refq p).nbad = false := by cases hq : numsL.any (refq p).nbad; rfl; rw [hq] at hx; cases hx
      have hx2 : (refq p).tbad s = false := by rw [hx1, Bool.false_or] at hx; exact hx
      have hsz : ∀ k, ((refq p).T k).size ≤ 1000 := by
        intro k
        have h1 := tab_bs hs20 (P := 0)
        have h2 := tab_al hbd (P := 0)
        have q1 : p.orig.l.length ≤ 20 := of_decide_eq_true (h2 ⟨⟨0, true, true, 87, idV 0 13, decide (p.orig.l.length ≤ 20), decide (0 < p.orig.l.length)⟩, p.orig.l⟩ (by simp [tab]))
        have q2 : p.first.l.length ≤ 20 := of_decide_eq_true (h2 ⟨⟨15, false, true, 87, idV 0 14, decide (p.first.l.length ≤ 20), decide (0 < p.first.l.length)⟩, p.first.l⟩ (by simp [tab]))
        have q3 : decide (p.again.l.length ≤ 20) = true := by
          have := h2 ⟨⟨16, true, false, 95, optV 0 15 16, decide (p.again.l.length ≤ 20) && (p.hasAgain || !decide (0 < p.again.l.length)), p.hasAgain⟩, p.again.l⟩ (by simp [tab])
          simp only [Bool.and_eq_true] at this
          exact this.1
        have q4 := of_decide_eq_true q3
        unfold refq
        simp only
        split <;> first | (rw [bt_size]; omega) | (show 0 ≤ 1000; omega)
      rw [hbd] at hEB hLX
      simp only [Bool.false_eq_true, if_false] at hEB hLX
      subst hEB hLX
      have hc := rput_c (refq p) s X hx1 hx2 hsz
      rw [refq_bytes p s hbd, hn] at hc
      refine hc.mono ?_
      rintro e w' ⟨v, rfl, hown, hb⟩
      obtain ⟨a1, ⟨rfl, rfl⟩ | ⟨g, cap, cur, rfl, k⟩⟩ := hown
      · exact ⟨none, 0, rfl, ⟨a1, .inl ⟨rfl, rfl⟩⟩, hb⟩
      · exact ⟨_, cap, rfl, ⟨a1, .inr ⟨g, cap, cur, rfl, k⟩⟩, hb⟩
  obtain ⟨dc, hdc⟩ : ∃ dc, defA = dc := ⟨_, rfl⟩
  obtain ⟨fc, hfc⟩ : ∃ fc, dflQ.cells.toArray = fc := ⟨_, rfl⟩
  obtain ⟨ec, hec⟩ : ∃ ec, (dflQ.setT 2 ZS).cells.toArray = ec := ⟨_, rfl⟩
  have HDF : Aside (∀ X, Calls Tryd.prog 13 #[] X fun e w' => e = .returned (.agg dc) ∧ Below X.heap.size X w') := fun X => by have := default_c X; rwa [hdc] at this
  have HRD : Aside (∀ X, Calls Tryd.prog 10 #[.agg dc] X fun e w' => e = .returned (.agg ec) ∧ Below X.heap.size X w') := fun X => by
    have := refs_c dps X (dps_pl X)
    rwa [dps_cells, dps_ref, hdc, hec] at this
  have HD2 : Aside (∀ X, Calls Tryd.prog 15 #[] X fun e w' => e = .returned (.agg fc) ∧ Below X.heap.size X w') := fun X => by have := rdefault_c X; rwa [hfc] at this
  have HWR : Aside (∀ X, Calls Tryd.prog 14 #[.agg fc] X fun e w' => e = .returned (.agg ec) ∧ Below X.heap.size X w') := fun X => by have := withReset_c dflQ X; rwa [hfc, hec] at this
  have hq34' : ∀ X, (binOp .neq 34 (.agg ec) (.agg ec)).run Tryd.prog X = .ok (.bool false) X := by rw [← hec]; exact hq34
  have hpm := h.pm
  have HI : Aside ((Tryd.prog.info? 25).map (·.size) = some p.cells.toArray.size) := by show _ = _; rw [hi25]; simp [Ps.cells, h.r16]
  obtain ⟨W1, hW1⟩ : ∃ W1, w.alloc (.cells p.cells.toArray 25) = W1 := ⟨_, rfl⟩
  have hb1 : Below w.heap.size w W1 := by rw [← hW1]; exact bel1 w _
  rw [hW1] at hpm
  have HROW : Aside (W1.heap[w.heap.size]? = some (.cells p.cells.toArray 25 (0, 0))) := hpm.row
  have HB1 : Aside (Below w.heap.size w W1) := hb1
  have hp1 := HPT.out W1 hb1
  obtain ⟨SS, hSS⟩ : ∃ SS, bt LX = SS := ⟨_, rfl⟩
  have HSS : Aside (bt LX = SS) := hSS
  clear h hrb hEB hLX hdc hfc hec hpm hb1 hn hSS ht
  generalize p.cells.toArray = pc at *
  generalize (refq p).cells.toArray = rc at *
  obtain ⟨P, hP⟩ : ∃ P, w.heap.size = P := ⟨_, rfl⟩
  rw [hP] at HROW
  have HP : Aside (w.heap.size = P) := hP
  go_enter Tryd.func3, Tryd.ntmps3
  go_wp2_with (first | (refine wpList_load_row rfl 25 (.tmp 2) rfl P rfl 25 _ (0, 0) _ HROW.out hu25 rfl HI.out ?_))
  refine hp1.mono ?_
  rintro e W2 ⟨o1, c1, rfl, hown1, hb2⟩
  have HX1 : Aside (W2.ownsRow W1.heap.size 5 1 (.slice o1 n c1) n (bc LX)) := hown1
  have HB12 : Aside (Below W1.heap.size W1 W2) := hb2
  have HB2 : Aside (Below w.heap.size w W2) := bel_trans HB1.out hb2
  have HROW2 : Aside (W2.heap[P]? = some (.cells pc 25 (0, 0))) := (hb2.block _ (lt_block HROW.out)).trans HROW.out
  have hp2 := HPT.out W2 HB2.out
  clear hp1 hown1 hb2 hW1
  go_wp2_with (first | (refine wpList_load_row rfl 25 (.tmp 2) rfl P rfl 25 _ (0, 0) _ HROW2.out hu25 rfl HI.out ?_))
  refine hp2.mono ?_
  rintro e W3 ⟨o2, c2, rfl, hown2, hb3⟩
  have HX2 : Aside (W3.ownsRow W2.heap.size 5 1 (.slice o2 n c2) n (bc LX)) := hown2
  have HB23 : Aside (Below W2.heap.size W2 W3) := hb3
  have HB3 : Aside (Below w.heap.size w W3) := bel_trans HB2.out hb3
  have HROW3 : Aside (W3.heap[P]? = some (.cells pc 25 (0, 0))) := (hb3.block _ (lt_block HROW2.out)).trans HROW2.out
  have hp3 := HRF.out W3 HB3.out
  clear hp2 hown2 hb3
  go_wp2_with (first | (refine wpList_load_row rfl 25 (.tmp 2) rfl P rfl 25 _ (0, 0) _ HROW3.out hu25 rfl HI.out ?_))
  refine hp3.mono ?_
  rintro e W4 ⟨rfl, hb4⟩
  have HB34 : Aside (Below W3.heap.size W3 W4) := hb4
  have hp4 := HRP.out W4
  clear hp3 hb4
  go_wp2_with fail
  refine hp4.mono ?_
  rintro e W5 ⟨o3, c3, rfl, hown3, hb5⟩
  have HX3 : Aside (W5.ownsRow W4.heap.size 5 1 (.slice o3 n c3) n (bc LX)) := hown3
  have HB25 : Aside (Below W2.heap.size W2 W5.drew) := bel_trans HB23.out (bel_trans HB34.out hb5.drew)
  have HB35 : Aside (Below W3.heap.size W3 W5.drew) := bel_trans HB34.out hb5.drew
  have HB5 : Aside (Below w.heap.size w W5.drew) := bel_trans HB2.out HB25.out
  have HROW5 : Aside (W5.drew.heap[P]? = some (.cells pc 25 (0, 0))) := (HB25.out.block _ (lt_block HROW2.out)).trans HROW2.out
  have HX3d : Aside (W5.drew.ownsRow W4.heap.size 5 1 (.slice o3 n c3) n (bc LX)) := own_bel hown3 (Below.refl _ _).drew
  have HLEN : Aside (n ≤ 9223372036854775806) := HL0.out
  have HLT : Aside (W2.heap.size ≤ W4.heap.size) := by have h1 := HB23.out.size; have h2 := HB34.out.size; show _ ≤ _; omega
  clear hp4 hown3 hb5 HX3 HROW2 HROW3 HROW HPT HRP
  have HSX : Aside (∀ X, Below W5.drew.heap.size W5.drew X → (fun X => X.heap[P]? = some (.cells pc 25 (0, 0)) ∧ (convert 22 9 (.slice o1 n c1)).run Tryd.prog X = .ok (.string SS) X ∧ (convert 22 9 (.slice o3 n c3)).run Tryd.prog X = .ok (.string SS) X) X) := fun X hX => by
    refine ⟨(hX.block _ (lt_block HROW5.out)).trans HROW5.out, ?_, ?_⟩
    · rw [← HSS.out]; exact own_conv (own_bel (own_bel HX1.out HB25.out) hX) HN.out
    · rw [← HSS.out]; exact own_conv (own_bel HX3d.out hX) HN.out
  go_wp2_with fail
  refine wp_region_held_drew (S := fun X => X.heap[P]? = some (.cells pc 25 (0, 0)) ∧ (convert 22 9 (.slice o1 n c1)).run Tryd.prog X = .ok (.string SS) X ∧ (convert 22 9 (.slice o3 n c3)).run Tryd.prog X = .ok (.string SS) X) (by kernel_rfl) (HSX.out _ (Below.refl W5.drew.heap.size W5.drew)) (fun hHeld => ?_)
  refine wpAnyH_take (i := 0) (v := .slice o1 n c1) rfl (by kernel_rfl) (by kernel_rfl) (by kernel_rfl) (fun _ _ _ h => h) (Or.inl ⟨by rfl, by intro w hs; go_simp⟩) hHeld ?_
  refine norm_any' (fun K hK => ?_)
  go_simp
  refine hK _ _ ?_
  clear hK K
  refine wpAnyH_take (i := 1) (v := .string SS) rfl (by kernel_rfl) (by kernel_rfl) (by kernel_rfl) (fun _ _ _ h => h) (Or.inl ⟨by rfl, by rintro w ⟨s0, s1, s2⟩; go_simp⟩) hHeld ?_
  refine norm_any' (fun K hK => ?_)
  go_simp
  refine hK _ _ ?_
  clear hK K
  refine wpAnyH_take (i := 2) (v := .slice o3 n c3) rfl (by kernel_rfl) (by kernel_rfl) (by kernel_rfl) (fun _ _ _ h => h) (Or.inl ⟨by rfl, by intro w hs; go_simp⟩) hHeld ?_
  refine norm_any' (fun K hK => ?_)
  go_simp
  refine hK _ _ ?_
  clear hK K
  refine wpAnyH_take (i := 3) (v := .string SS) rfl (by kernel_rfl) (by kernel_rfl) (by kernel_rfl) (fun _ _ _ h => h) (Or.inl ⟨by rfl, by rintro w ⟨s0, s1, s2⟩; go_simp⟩) hHeld ?_
  refine norm_any' (fun K hK => ?_)
  go_simp
  refine hK _ _ ?_
  clear hK K
  refine wpAnyH_take (i := 4) (v := .bool false) rfl (by kernel_rfl) (by kernel_rfl) (by kernel_rfl) (fun _ _ _ h => h) (Or.inl ⟨by rfl, by intro w hs; go_simp⟩) hHeld ?_
  refine norm_any' (fun K hK => ?_)
  go_simp
  refine hK _ _ ?_
  clear hK K
  refine wpAnyH_take (i := 5) (v := .bool false) rfl (by kernel_rfl) (by kernel_rfl) (by kernel_rfl) (fun _ _ _ h => h) (Or.inl ⟨by rfl, by intro w hs; go_simp⟩) hHeld ?_
  refine norm_any' (fun K hK => ?_)
  go_simp
  refine hK _ _ ?_
  clear hK K
  refine wpAnyH_take (i := 6) (v := .int .i64 EB) rfl (by kernel_rfl) (by kernel_rfl) (by kernel_rfl) (fun _ _ _ h => h) (Or.inl ⟨by rfl, by intro w hs; go_simp⟩) hHeld ?_
  refine norm_any' (fun K hK => ?_)
  go_simp
  refine hK _ _ ?_
  clear hK K
  refine wpAnyH_take (i := 7) (v := .int .i64 EB) rfl (by kernel_rfl) (by kernel_rfl) (by kernel_rfl) (fun _ _ _ h => h) (Or.inl ⟨by rfl, by intro w hs; go_simp⟩) hHeld ?_
  refine norm_any' (fun K hK => ?_)
  go_simp
  refine hK _ _ ?_
  clear hK K
  refine wpAnyH_take (i := 8) (v := .bool false) rfl (by kernel_rfl) (by kernel_rfl) (by kernel_rfl) (fun _ _ _ h => h) (Or.inl ⟨by rfl, by intro w hs; go_simp⟩) hHeld ?_
  refine norm_any' (fun K hK => ?_)
  go_simp
  refine hK _ _ ?_
  clear hK K
  refine wpAnyH_take (i := 9) (v := .bool false) rfl (by kernel_rfl) (by kernel_rfl) (by kernel_rfl) (fun _ _ _ h => h) (Or.inl ⟨by rfl, by intro w hs; go_simp⟩) hHeld ?_
  refine norm_any' (fun K hK => ?_)
  go_simp
  refine hK _ _ ?_
  clear hK K
  refine wpAnyH_take (i := 10) (v := .bool false) rfl (by kernel_rfl) (by kernel_rfl) (by kernel_rfl) (fun _ _ _ h => h) (Or.inl ⟨by rfl, by intro w hs; go_simp⟩) hHeld ?_
  refine norm_any' (fun K hK => ?_)
  go_simp
  refine hK _ _ ?_
  clear hK K
  refine wpAnyH_take (i := 11) (v := .agg pc) rfl (by kernel_rfl) (by kernel_rfl) (by kernel_rfl) (fun _ _ _ h => h) (yl25 (by rfl) _ rfl P rfl pc (fun X h => h.1) HI.out) hHeld ?_
  refine norm_any' (fun K hK => ?_)
  go_simp
  refine hK _ _ ?_
  clear hK K
  refine wpAnyH_take (i := 12) (v := .bool s) rfl (by kernel_rfl) (by kernel_rfl) (by kernel_rfl) (fun _ _ _ h => h) (Or.inl ⟨by rfl, by intro w hs; go_simp⟩) hHeld ?_
  refine norm_any' (fun K hK => ?_)
  go_simp
  refine hK _ _ ?_
  clear hK K
  refine wpAnyH_take (i := 14) (v := .agg pc) rfl (by kernel_rfl) (by kernel_rfl) (by kernel_rfl) (fun _ _ _ h => h) (yl25 (by rfl) _ rfl P rfl pc (fun X h => h.1) HI.out) hHeld ?_
  refine norm_any' (fun K hK => ?_)
  go_simp
  refine hK _ _ ?_
  clear hK K
  refine wpAnyH_take (i := 16) (v := .bool s) rfl (by kernel_rfl) (by kernel_rfl) (by kernel_rfl) (fun _ _ _ h => h) (Or.inl ⟨by rfl, by intro w hs; go_simp⟩) hHeld ?_
  refine norm_any' (fun K hK => ?_)
  go_simp
  refine hK _ _ ?_
  clear hK K
  refine wpAnyH_ready (rs := [13]) (by kernel_rfl) (by simp) (AllReadyH.cons rfl (fun K hK => ?_) AllReadyH.nil)
  go_simp
  refine Calls.mono (HCK.out _ (bel_trans HB5.out (Below.refl W5.drew.heap.size W5.drew))) ?_
  rintro e Y0 ⟨rfl, hb⟩
  have HY0 : Aside (Below W5.drew.heap.size W5.drew Y0) := bel_trans (Below.refl W5.drew.heap.size W5.drew) hb
  clear hb
  refine hK.out _ _ (HSX.out _ HY0.out) (fun hHeld => ?_)
  clear hK K
  refine norm_any' (fun K hK => ?_)
  go_simp
  refine hK _ _ ?_
  clear hK K
  refine wpAnyH_ready (rs := [15]) (by kernel_rfl) (by simp) (AllReadyH.cons rfl (fun K hK => ?_) AllReadyH.nil)
  go_simp
  refine Calls.mono (HRF.out _ (bel_trans HB5.out HY0.out)) ?_
  rintro e Y1 ⟨rfl, hb⟩
  have HY1 : Aside (Below W5.drew.heap.size W5.drew Y1) := bel_trans HY0.out hb
  clear hb
  refine hK.out _ _ (HSX.out _ HY1.out) (fun hHeld => ?_)
  clear hK K
  refine norm_any' (fun K hK => ?_)
  go_simp
  refine hK _ _ ?_
  clear hK K
  refine wpAnyH_ready (rs := [17]) (by kernel_rfl) (by simp) (AllReadyH.cons rfl (fun K hK => ?_) AllReadyH.nil)
  go_simp
  refine Calls.mono (HRC.out _) ?_
  rintro e Y2 ⟨rfl, hb⟩
  have HY2 : Aside (Below W5.drew.heap.size W5.drew Y2) := bel_trans HY1.out hb
  clear hb
  refine hK.out _ _ (HSX.out _ HY2.out) (fun hHeld => ?_)
  clear hK K
  refine norm_any' (fun K hK => ?_)
  go_simp
  refine hK _ _ ?_
  clear hK K
  refine wpAnyH_take (i := 18) (v := .bool false) rfl (by kernel_rfl) (by kernel_rfl) (by kernel_rfl) (fun _ _ _ h => h) (Or.inl ⟨by rfl, by intro w hs; go_simp⟩) hHeld ?_
  refine norm_any' (fun K hK => ?_)
  go_simp
  refine hK _ _ ?_
  clear hK K
  refine wpAnyH_take (i := 19) (v := .bool false) rfl (by kernel_rfl) (by kernel_rfl) (by kernel_rfl) (fun _ _ _ h => h) (Or.inl ⟨by rfl, by intro w hs; go_simp⟩) hHeld ?_
  refine norm_any' (fun K hK => ?_)
  go_simp
  refine hK _ _ ?_
  clear hK K
  refine wpAnyH_take (i := 20) (v := .bool false) rfl (by kernel_rfl) (by kernel_rfl) (by kernel_rfl) (fun _ _ _ h => h) (Or.inl ⟨by rfl, by intro w hs; go_simp⟩) hHeld ?_
  refine norm_any' (fun K hK => ?_)
  go_simp
  refine hK _ _ ?_
  clear hK K
  refine wpAnyH_ready (rs := [21]) (by kernel_rfl) (by simp) (AllReadyH.cons rfl (fun K hK => ?_) AllReadyH.nil)
  go_simp
  refine Calls.mono (HDF.out _) ?_
  rintro e Y3 ⟨rfl, hb⟩
  have HY3 : Aside (Below W5.drew.heap.size W5.drew Y3) := bel_trans HY2.out hb
  clear hb
  refine hK.out _ _ (HSX.out _ HY3.out) (fun hHeld => ?_)
  clear hK K
  refine norm_any' (fun K hK => ?_)
  go_simp
  refine hK _ _ ?_
  clear hK K
  refine wpAnyH_ready (rs := [22]) (by kernel_rfl) (by simp) (AllReadyH.cons rfl (fun K hK => ?_) AllReadyH.nil)
  go_simp
  refine Calls.mono (HRD.out _) ?_
  rintro e Y4 ⟨rfl, hb⟩
  have HY4 : Aside (Below W5.drew.heap.size W5.drew Y4) := bel_trans HY3.out hb
  clear hb
  refine hK.out _ _ (HSX.out _ HY4.out) (fun hHeld => ?_)
  clear hK K
  refine norm_any' (fun K hK => ?_)
  go_simp
  refine hK _ _ ?_
  clear hK K
  refine wpAnyH_ready (rs := [23]) (by kernel_rfl) (by simp) (AllReadyH.cons rfl (fun K hK => ?_) AllReadyH.nil)
  go_simp
  refine Calls.mono (HD2.out _) ?_
  rintro e Y5 ⟨rfl, hb⟩
  have HY5 : Aside (Below W5.drew.heap.size W5.drew Y5) := bel_trans HY4.out hb
  clear hb
  refine hK.out _ _ (HSX.out _ HY5.out) (fun hHeld => ?_)
  clear hK K
  refine norm_any' (fun K hK => ?_)
  go_simp
  refine hK _ _ ?_
  clear hK K
  refine wpAnyH_ready (rs := [24]) (by kernel_rfl) (by simp) (AllReadyH.cons rfl (fun K hK => ?_) AllReadyH.nil)
  go_simp
  refine Calls.mono (HWR.out _) ?_
  rintro e Y6 ⟨rfl, hb⟩
  have HY6 : Aside (Below W5.drew.heap.size W5.drew Y6) := bel_trans HY5.out hb
  clear hb
  refine hK.out _ _ (HSX.out _ HY6.out) (fun hHeld => ?_)
  clear hK K
  refine norm_any' (fun K hK => ?_)
  go_simp
  refine hK _ _ ?_
  clear hK K
  refine wpAnyH_take (i := 25) (v := .bool false) rfl (by kernel_rfl) (by kernel_rfl) (by kernel_rfl) (fun _ _ _ h => h) (Or.inl ⟨by rfl, by intro w hs; go_simp⟩) hHeld ?_
  refine norm_any' (fun K hK => ?_)
  go_simp
  refine hK _ _ ?_
  clear hK K
  refine wpAnyH_take (i := 26) (v := .bool false) rfl (by kernel_rfl) (by kernel_rfl) (by kernel_rfl) (fun _ _ _ h => h) (Or.inl ⟨by rfl, by intro w hs; go_simp⟩) hHeld ?_
  refine norm_any' (fun K hK => ?_)
  go_simp
  refine hK _ _ ?_
  clear hK K
  refine wpAnyH_done (by kernel_rfl) ?_ _
  clear hHeld
  have HZ : Aside (Below W5.drew.heap.size W5.drew Y6) := HY6.out
  have HW : Aside (Below w.heap.size w Y6) := bel_trans HB5.out HZ.out
  have HZ1 : Aside (Y6.ownsRow W1.heap.size 5 1 (.slice o1 n c1) n (bc LX)) := own_bel (own_bel HX1.out HB25.out) HZ.out
  have HZ2 : Aside (Y6.ownsRow W2.heap.size 5 1 (.slice o2 n c2) n (bc LX)) := own_bel (own_bel HX2.out HB35.out) HZ.out
  have HZ3 : Aside (Y6.ownsRow W4.heap.size 5 1 (.slice o3 n c3) n (bc LX)) := own_bel HX3d.out HZ.out
  have HB1s : Aside (w.heap.size ≤ W1.heap.size) := HB1.out.size
  have hbx : 0 < n → ∃ g, o1 = some ⟨g, 0, none⟩ ∧ W1.heap.size ≤ g ∧ g < W2.heap.size ∧ Bx Y6 g n := fun h0 => by
    obtain ⟨g, e, k1, k2, -⟩ := own_bx HX1.out HN.out h0
    obtain ⟨g', e', -, -, k3⟩ := own_bx HZ1.out HN.out h0
    rw [e] at e'
    simp only [Option.some.injEq, Addr.mk.injEq, and_true] at e'
    subst e'
    exact ⟨g, e, k1, k2, k3⟩
  clear HY0 HY1 HY2 HY3 HY4 HY5 HY6 HSX HX1 HX2 HX3d HB25 HB35 HB12 HB23 HB34 HB5 HROW5 HCK HRF HRC HDF HRD HD2 HWR hq34' HI HB1 HB2 HB3
  by_cases h0 : n = 0
  · subst h0
    have hcv2 : (convert 22 9 (.slice o2 0 c2)).run Tryd.prog Y6 = .ok (.string SS) Y6 := by rw [← HSS.out]; exact own_conv HZ2.out HN.out
    have hcv3 : (convert 22 9 (.slice o3 0 c3)).run Tryd.prog Y6 = .ok (.string SS) Y6 := by rw [← HSS.out]; exact own_conv HZ3.out HN.out
    have HEND : Aside (Below w.heap.size w Y6) := HW.out
    clear hbx
    go_wp2
    refine wp_loop_rounds 1 ?_
    rw [rounds_succ]
    go_wp2_with fail
    refine (names_c _).mono ?_
    rintro e w9 ⟨rfl, hw9⟩
    subst w9
    go_wp2
    go_ret
    exact ⟨rfl, HEND.out⟩
  · obtain ⟨g, rfl, hg1, hg2, hbx⟩ := hbx (by omega)
    have HBX : Aside (Bx Y6 g n ∧ Tg g Y6 Y6) := ⟨hbx, rfl, rfl, rfl, Nat.le_refl _, fun _ _ _ => rfl⟩
    have HG1 : Aside (w.heap.size ≤ g) := by have := HB1s.out; show _ ≤ _; omega
    have HG2 : Aside (g < W2.heap.size) := hg2
    clear hbx hg1 hg2 h0
    go_wp2
    go_loopg [11] (n + 1) (fun kx s11 wr => ∃ i : Nat, s11 = .int .i64 (i : Int) ∧ i ≤ n ∧ n + 1 - i ≤ kx ∧ Aside (Bx wr g n ∧ Tg g Y6 wr))
    case atStart => exact ⟨0, rfl, by omega, by omega, HBX.out⟩
    case round =>
      obtain ⟨i, rfl, hi, hk, HQ⟩ := hrel
      clear HBX
      by_cases hlt : i < n
      · have i1 : (i : Int) < (n : Int) := by omega
        have hb64 := HLEN.out
        have iw : IntKind.i64.wrap ((i : Int) + 1) = (i : Int) + 1 := wrn _ (by omega) (by omega)
        obtain ⟨cur, h1, h2⟩ := HQ.out.1
        obtain ⟨b, hb⟩ := h2 i hlt
        have q0 : wr.cell? ⟨g, i, none⟩ = some (.int .u8 b) := cellb h1 hb
        have f0 : wr.frozen? ⟨g, i, none⟩ = false := by simp [World.frozen?, h1]
        have HT := HQ.out.1.turn HQ.out.2 i ((b + 1) % 256)
        have HT2 : Aside (Bx (wr.setCell ⟨g, i, none⟩ (.int .u8 ((b + 1) % 256))) g n ∧ Tg g Y6 (wr.setCell ⟨g, i, none⟩ (.int .u8 ((b + 1) % 256)))) := HT
        clear h1 h2 hb HT HQ hb64
        go_wp2
        go_roundg (n + 1 - (i + 1))
        case measure => omega
        case rel => exact ⟨i + 1, rfl, by omega, Nat.le_refl _, HT2.out⟩
      · obtain rfl : i = n := by omega
        have hcv2 : (convert 22 9 (.slice o2 i c2)).run Tryd.prog wr = .ok (.string SS) wr := by rw [← HSS.out]; exact own_conv (own_tg HZ2.out HQ.out.2 HG2.out) HN.out
        have hcv3 : (convert 22 9 (.slice o3 i c3)).run Tryd.prog wr = .ok (.string SS) wr := by rw [← HSS.out]; exact own_conv (own_tg HZ3.out HQ.out.2 (Nat.lt_of_lt_of_le HG2.out HLT.out)) HN.out
        have HEND : Aside (Below w.heap.size w wr) := HQ.out.2.below HW.out (Nat.le_refl _) HG1.out
        have i1 : ¬ (i : Int) < (i : Int) := by omega
        clear hlt HQ hk
        go_wp2_with fail
        refine (names_c _).mono ?_
        rintro e w9 ⟨rfl, hw9⟩
        subst w9
        go_wp2
        go_ret
        exact ⟨rfl, HEND.out⟩
end Go.Proofs.YtcppnellgkbndaaDoor
