/- handshake: what has no vault, or no book; machines that no call made. -/
import Derived.Test.YthdenbclfogojaaGreatDoorCl
import Derived.Test.YthdenbclfogojaaGreatDoorIs
import Derived.Deep.MidRow
namespace Go.Proofs.YthdenbclfogojaaGreatDoor
open Go.RowKit Go.Shelf Go.Lib
set_option linter.unusedVariables false

def cf0 : List Value := [.bool false, .string ⟨#[]⟩] ++ hl z16 ++ hl z16 ++ [.slice none 0 0, .slice none 0 0] ++ ([.slice none 0 0] ++ hl z16 ++ [.string ⟨#[]⟩, .bool false]) ++ [.bool false, .int .i64 0]
def sd0 : List Value := [.pointer none] ++ cf0 ++ [.pointer none]
def in0 : List Value := [.bool false, .string ⟨#[]⟩, .bool false, .bool false] ++ hl z16 ++ hl z16 ++ hl z16
def tk0 : List Value := [.int .i64 0] ++ [.slice none 0 0, .slice none 0 0, .slice none 0 0, .slice none 0 0] ++ (hl z16 ++ hl z16 ++ hl z16 ++ hl z16 ++ hl z16 ++ hl z16 ++ hl z16 ++ hl z16) ++ in0
/-- A machine that no call made. -/
def ma0 : List Value := sd0 ++ tk0 ++ [.int .i64 0, .bool false, .int .i64 0, .int .i64 0]
set_option maxRecDepth 10000 in
theorem b46 (w : World) : (Instr.build 46 #[]).run Tryz.prog w = .ok (.agg ma0.toArray) w := run_build w 46 _ _ (by kernel_rfl)
theorem b39 (w : World) : (Instr.build 39 #[]).run Tryz.prog w = .ok (.agg in0.toArray) w := run_build w 39 _ _ (by kernel_rfl)
theorem z39 (w : World) : (zeroValue 39).run Tryz.prog w = .ok (.agg in0.toArray) w := by kernel_rfl
theorem b29 (w : World) : (Instr.build 29 #[]).run Tryz.prog w = .ok (hv z16) w := run_build w 29 _ _ (by kernel_rfl)
theorem ne39 (w : World) : (binOp .neq 39 (.agg in0.toArray) (.agg in0.toArray)).run Tryz.prog w = .ok (.bool false) w := by kernel_rfl
theorem u36 : Tryz.prog.underlying 36 = some (.struct (Tryz.prog.fieldsOf 36)) := by kernel_rfl
theorem i36 : (Tryz.prog.info? 36).map (·.size) = some 59 := by kernel_rfl
theorem u39 : Tryz.prog.underlying 39 = some (.struct (Tryz.prog.fieldsOf 39)) := by kernel_rfl
theorem i39 : (Tryz.prog.info? 39).map (·.size) = some 52 := by kernel_rfl
/-- No book: nil, or one that no call made. -/
def Nb (w : World) (p : Option Addr) : Prop := p = none ∨ ∃ b, p = some ⟨b, 0, none⟩ ∧ w.cell? ⟨b, 0, none⟩ = some (.map none)
theorem Nb.bel {w w' : World} {p : Option Addr} (h : Nb w p) (hb : Below w.heap.size w w') : Nb w' p := by
  rcases h with h | ⟨b, e, h⟩
  · exact .inl h
  · exact .inr ⟨b, e, cell_bel h hb⟩
theorem eqm62 (w : World) : (binOp .eql 62 (.map none) (.map none)).run Tryz.prog w = .ok (.bool true) w := by kernel_rfl
set_option maxRecDepth 10000 in
theorem nb_none (p : Option Addr) (w : World) (h : Nb w p) : Calls Tryz.prog 54 #[.pointer p] w fun e w' => e = .returned (.bool true) ∧ w' = w := by
  rcases h with rfl | ⟨b, rfl, hc⟩
  · go_enter Tryz.func54, Tryz.ntmps54
    go_wp2
    go_ret
    exact ⟨rfl, rfl⟩
  · have q := eqm62
    go_enter Tryz.func54, Tryz.ntmps54
    go_wp2
    go_ret
    exact ⟨rfl, rfl⟩
theorem eqz_t (w : World) : (Op.equalIn 10000 29 (.agg (hl z16).toArray) (.agg #[.int .u8 0, .int .u8 0, .int .u8 0, .int .u8 0, .int .u8 0, .int .u8 0, .int .u8 0, .int .u8 0, .int .u8 0, .int .u8 0, .int .u8 0, .int .u8 0, .int .u8 0, .int .u8 0, .int .u8 0, .int .u8 0])).run Tryz.prog w = .ok true w := by
  have := equalIn_h 29 hu28 9998 z16 z16 rfl rfl w
  exact this
theorem eqz_f (H : List UInt8) (hH : H.length = 16) (hn : H ≠ z16) (w : World) : (Op.equalIn 10000 29 (.agg (hl H).toArray) (.agg #[.int .u8 0, .int .u8 0, .int .u8 0, .int .u8 0, .int .u8 0, .int .u8 0, .int .u8 0, .int .u8 0, .int .u8 0, .int .u8 0, .int .u8 0, .int .u8 0, .int .u8 0, .int .u8 0, .int .u8 0, .int .u8 0])).run Tryz.prog w = .ok false w := by
  have := equalIn_h 29 hu28 9998 H z16 hH rfl w
  rw [show (H == z16) = false from by simpa using hn] at this
  exact this
theorem cell_new {w : World} {S : List Value} {t i : Nat} {v : Value} (h : S[i]? = some v) : (w.alloc (.cells S.toArray t)).cell? ⟨w.heap.size, i, none⟩ = some v := by
  unfold World.cell?
  simp only [heap_alloc_new]
  simpa using h
set_option maxRecDepth 10000 in
theorem snone_a (S : List Value) (p : Option Addr) (h0 : S[0]? = some (.pointer p)) (w : World) (h : No w p) : Calls Tryz.prog 34 #[.agg S.toArray] w fun e w' => e = .returned (.bool true) ∧ Below w.heap.size w w' := by
  have hb1 := bel1 w (.cells S.toArray 36)
  have hc := cell_new (w := w) (t := 36) h0
  have HR : Hid _ := no_root p (w.alloc (.cells S.toArray 36)) (h.bel hb1)
  have HB : Hid _ := hb1
  clear h hb1 h0
  go_enter Tryz.func34, Tryz.ntmps34
  go_wp2_with fail
  refine Calls.mono HR.out ?_
  rintro e W2 ⟨rfl, hb2⟩
  have HB2 : Hid (Below w.heap.size w W2) := bel_trans HB.out hb2
  have q2 := eqz_t
  clear hb2 hc
  go_wp2_with fail
  go_ret
  exact ⟨rfl, HB2.out⟩
theorem name0_ne : nameL 0 ≠ z16 := by decide
set_option maxRecDepth 10000 in
theorem snone_b (S : List Value) (V : Nat) (k : Option Addr) (h0 : S[0]? = some (.pointer (some ⟨V, 0, none⟩))) (h1 : S[1]? = some (.bool true)) (h58 : S[58]? = some (.pointer k)) (w : World) {n₀ G c M : Nat} {L : List Tm} (h : Va n₀ w V G c M L) (hle : L.length ≤ 1000000) (hk : Nb w k) :
    Calls Tryz.prog 34 #[.agg S.toArray] w fun e w' => e = .returned (.bool true) ∧ Below w.heap.size w w' := by
  have hb1 := bel1 w (.cells S.toArray 36)
  have hc := cell_new (w := w) (t := 36) h0
  have HC1 : Hid _ := cell_new (w := w) (t := 36) h1
  have HC2 : Hid _ := cell_new (w := w) (t := 36) h58
  have HR : Hid _ := root_c (h.bel hb1) hle
  have HB : Hid _ := hb1
  have HK : Hid _ := hk.bel hb1
  clear h hb1 h0 h1 h58 hk
  go_enter Tryz.func34, Tryz.ntmps34
  go_wp2_with fail
  refine Calls.mono HR.out ?_
  rintro e W2 ⟨rfl, hb2⟩
  have HB2 : Hid (Below w.heap.size w W2) := bel_trans HB.out hb2
  have HK2 : Hid (Nb W2 k) := Nb.bel (show Nb (w.alloc (.cells S.toArray 36)) k from HK.out) hb2
  have c1 := cell_bel HC1.out hb2
  have c2 := cell_bel HC2.out hb2
  have q2 := eqz_f (nameL 0) (nameL_len 0) name0_ne
  clear hb2 hc HC1 HC2 HK HB
  go_wp2_with fail
  refine Calls.mono (nb_none k W2 HK2.out) ?_
  rintro e W3 ⟨rfl, rfl⟩
  go_wp2_with fail
  go_ret
  exact ⟨rfl, HB2.out⟩
/-- No machine: nil, or one that no call made. -/
def Nm (w : World) (p : Option Addr) : Prop := p = none ∨ ∃ g, p = some ⟨g, 0, none⟩ ∧ w.heap[g]? = some (.cells ma0.toArray 46 (0, 0))
theorem Nm.bel {w w' : World} {p : Option Addr} (h : Nm w p) (hb : Below w.heap.size w w') : Nm w' p := by
  rcases h with h | ⟨b, e, h⟩
  · exact .inl h
  · exact .inr ⟨b, e, heap_bel h hb⟩
theorem ma_sd {w : World} {g : Nat} (h : w.heap[g]? = some (.cells ma0.toArray 46 (0, 0))) : w.rangeAt g 0 sd0 := by
  have := World.rangeAt_of_block h 0 59
  have e : (ma0.toArray.extract 0 (0 + 59)).toList = sd0 := by kernel_rfl
  rw [e] at this
  exact this
theorem ld36g {ops : Array Oper} {rest : List Oper} {o : Oper} {a : Act} {w : World} {Q : Exit → Act → World → Prop} (hw : Region.wanted o (yielded ops a.tmps) = true) (x : Operand) (ho : o.op = .load 36 x) (g : Nat) (hx : a.eval x = .pointer (some ⟨g, 0, none⟩)) (S : List Value) (hg : w.rangeAt g 0 S) (hs : S.length = 59)
    (h : wpList Tryz.prog ops Q rest (a.put o.dst (.agg S.toArray)) w) : wpList Tryz.prog ops Q (o :: rest) a w :=
  wpList_step fun K hK => by
    simp only [hw, if_true]
    exact wp_load_mid 36 x ho g 0 hx S _ hg u36 rfl (i36.trans (by simp [hs])) (hK _ _ h)
set_option maxRecDepth 10000 in
theorem mnone (p : Option Addr) (w : World) (h : Nm w p) : Calls Tryz.prog 24 #[.pointer p] w fun e w' => e = .returned (.bool true) ∧ Below w.heap.size w w' := by
  rcases h with rfl | ⟨g, rfl, hg⟩
  · go_enter Tryz.func24, Tryz.ntmps24
    go_wp2
    go_ret
    exact ⟨rfl, Below.refl _ _⟩
  · have HG : Hid _ := ma_sd hg
    have HC : Hid _ := snone_a sd0 none rfl w (.inl rfl)
    have hs : sd0.length = 59 := rfl
    clear hg
    generalize sd0 = S at *
    go_enter Tryz.func24, Tryz.ntmps24
    go_wp2_with (refine ld36g rfl (.tmp 8) rfl g rfl S HG.out hs (Hid.out ?_))
    refine mkHid ?_
    go_wp2_with fail
    refine Calls.mono HC.out ?_
    rintro e W2 ⟨rfl, hb2⟩
    have HB2 : Hid _ := hb2
    clear hb2
    go_wp2_with fail
    go_ret
    exact ⟨rfl, HB2.out⟩
set_option maxRecDepth 10000 in
theorem start_no (p : Option Addr) (w : World) (h : Nm w p) : Calls Tryz.prog 7 #[.pointer p] w fun e w' => e = .returned (.tuple #[.slice none 0 0, .iface 42 (.int .i64 1)]) ∧ Below w.heap.size w w' := by
  have HC : Hid _ := mnone p w h
  clear h
  go_enter Tryz.func7, Tryz.ntmps7
  go_wp2_with fail
  refine Calls.mono HC.out ?_
  rintro e W2 ⟨rfl, hb2⟩
  have HB2 : Hid _ := hb2
  clear hb2
  go_wp2_with fail
  go_ret2
  exact ⟨rfl, HB2.out⟩
set_option maxRecDepth 10000 in
theorem take_no (p : Option Addr) (l : Int) (o : Option Addr) (n c : Nat) (w : World) (h : Nm w p) : Calls Tryz.prog 8 #[.pointer p, .int .i64 l, .slice o n c] w fun e w' => e = .returned (.tuple #[.slice none 0 0, .iface 42 (.int .i64 1)]) ∧ Below w.heap.size w w' := by
  have HC : Hid _ := mnone p w h
  clear h
  go_enter Tryz.func8, Tryz.ntmps8
  go_wp2_with fail
  refine Calls.mono HC.out ?_
  rintro e W2 ⟨rfl, hb2⟩
  have HB2 : Hid _ := hb2
  clear hb2
  go_wp2_with fail
  go_ret2
  exact ⟨rfl, HB2.out⟩
theorem in0_1 : in0.toArray.all (·.oneCell') = true := by kernel_rfl
set_option maxRecDepth 10000 in
theorem info_no (p : Option Addr) (w : World) (h : Nm w p) : Calls Tryz.prog 10 #[.pointer p] w fun e w' => e = .returned (.agg in0.toArray) ∧ Below w.heap.size w w' := by
  have hb1 := bel1 w (.cells in0.toArray 39)
  have HG : Hid _ := heap_alloc_new w (.cells in0.toArray 39)
  have HC : Hid _ := mnone p (w.alloc (.cells in0.toArray 39)) (h.bel hb1)
  have HB : Hid _ := hb1
  have q := b39
  have q' := z39
  have hs : in0.toArray.size = 52 := rfl
  have HA : Hid _ := in0_1
  clear h hb1
  generalize in0.toArray = I at *
  go_enter Tryz.func10, Tryz.ntmps10
  go_wp2_with fail
  refine Calls.mono HC.out ?_
  rintro e W2 ⟨rfl, hb2⟩
  have HB2 : Hid (Below w.heap.size w W2) := bel_trans HB.out hb2
  have HG2 : Hid (W2.heap[w.heap.size]? = some (.cells I 39 (0, 0))) := heap_bel HG.out hb2
  clear hb2 HB HG HC
  go_wp2_with (refine wpList_store_row rfl 39 (.tmp 2) (.tmp 5) rfl w.heap.size I rfl rfl 39 _ HG2.out (i39.trans (by rw [hs])) rfl HA.out (Hid.out ?_))
  have HG3 : Hid _ := setRow_heap W2 w.heap.size _ I 39 (0, 0) HG2.out
  have HB3 : Hid _ := bel_set HB2.out (Nat.le_refl _) I
  refine mkHid ?_
  go_wp2_with fail
  refine bodyPost_ret (v := .agg I) (results_cell_row (fn := Tryz.f10) rfl _ _ w.heap.size 39 _ (0, 0) _ rfl HG3.out u39 rfl (i39.trans (by rw [hs]))) rfl ?_
  exact ⟨rfl, HB3.out⟩
end Go.Proofs.YthdenbclfogojaaGreatDoor
