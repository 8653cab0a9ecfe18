/- params: the table over parameters. -/
import Derived.Test.YtcppnellgkbndaaDoorMb
import Derived.Great.BuildSlice
import Derived.Great.FillDense
namespace Go.Proofs.YtcppnellgkbndaaDoor
open Go.ChangeShapes Go.WideShapes Go.ChangeAt Go.RowKit Go.Shelf
set_option linter.unusedVariables false
set_option maxRecDepth 100000

def zA : Array Value := #[.int .i64 0, .int .i64 0, .int .i64 0, .int .i64 0, .int .i64 0, .int .i64 0, .int .i64 0, .int .i64 0, .int .i64 0, .int .i64 0, .bool false, .int .i64 0, .int .i64 0, .slice none 0 0, .slice none 0 0, .slice none 0 0, .bool false, .int .u8 0, .int .u8 0, .int .u8 0, .int .u8 0, .int .u8 0, .int .u8 0, .int .u8 0, .int .u8 0, .int .u8 0, .int .u8 0, .int .u8 0, .int .u8 0, .int .u8 0, .int .u8 0, .int .u8 0, .int .u8 0, .bool false]
theorem zA_std : zA.all (·.oneCell') = true := by kernel_rfl
theorem defA_std : defA.all (·.oneCell') = true := by kernel_rfl
theorem free_r (a : Option Addr) (w : World) : Calls Tryd.prog 36 #[.pointer a] w fun e w' => e = .returned (.iface 83 (.agg #[.pointer a, .int .i64 0, .int .i64 4611686018427387903, .int .i64 0])) ∧ w' = w := free_c a w
theorem eg36 : ∀ args w, (callFunc 36 args).run Tryd.prog w = .ok (.enter 36 args) w := enters_of Tryd.func36 (by kernel_rfl) rfl
theorem default_c (w : World) : Calls Tryd.prog 13 #[] w fun e w' => e = .returned (.agg defA) ∧ Below w.heap.size w w' := by
  have hn0 : Aside ((w.alloc (.cells zA 25)).heap[w.heap.size]? = some (.cells zA 25 (0, 0))) := heap_alloc_new w _
  obtain ⟨W1, hW1⟩ : ∃ W1, w.alloc (.cells zA 25) = W1 := ⟨_, rfl⟩
  have hb1 : Aside (Below w.heap.size w W1) := by show Below _ _ _; rw [← hW1]; exact bel1 w _
  rw [hW1] at hn0
  have HS : Aside ((W1.setRow w.heap.size defA).heap[w.heap.size]? = some (.cells defA 25 (0, 0))) := setRow_heap W1 _ _ _ 25 (0, 0) hn0.out
  have HB : Aside (Below w.heap.size w (W1.setRow w.heap.size defA)) := hb1.out.trans ⟨rfl, rfl, rfl, by simp, fun j hj => setRow_other W1 _ j _ (by omega)⟩
  unfold zA at hW1
  go_enter Tryd.func13, Tryd.ntmps13
  go_wp2_with (refine wpList_store_row rfl 25 _ _ rfl w.heap.size defA rfl rfl 25 _ hn0.out hi25 rfl defA_std ?_)
  refine bodyPost_ret (results_cell_row (fn := Tryd.f13) (p := 0) (ty := 25) rfl _ _ w.heap.size 25 _ (0, 0) _ rfl HS.out hu25 rfl hi25) rfl ?_
  exact ⟨rfl, HB.out⟩
theorem inf58 : ∃ i, Tryd.prog.info? 58 = some i ∧ i.zero = some (.agg #[.int .i64 0, .bool false, .bool false, .nilIface]) ∧ i.size = 4 := by
  have : (Tryd.prog.info? 58).map (fun i => (i.zero, i.size)) = some (some (.agg #[.int .i64 0, .bool false, .bool false, .nilIface]), 4) := by kernel_rfl
  cases h : Tryd.prog.info? 58 with
  | none => rw [h] at this; cases this
  | some i =>
    rw [h] at this
    simp only [Option.map_some, Option.some.injEq, Prod.mk.injEq] at this
    exact ⟨i, rfl, this.1, this.2⟩
theorem hs52 : Tryd.prog.underlying 52 = some (.slice 58) := by kernel_rfl
theorem fill17 (vs : List Value) (h1 : ∀ v ∈ vs, v.cells.size = 4) (hn : vs.length = 17) (z : Value) : Instr.fill (fun i => some (i * 4, 4)) ((Array.range (17 * 4)).map (z.cells[· % z.cells.size]!)) ((vs.zipIdx 0).map fun x => (x.2, x.1)) = some (vs.flatMap fun v => v.cells.toList).toArray :=
  Great.fill_whole (s := 4) (by decide) vs _ h1 (by simp [hn])
/-- The rows over the parameters that lie in the block P. -/
def rowsV (P : Nat) : List Value := [.agg #[.int .i64 0, .bool true, .bool true, .iface 87 (.agg #[.pointer (some ⟨P, 13, none⟩)])], .agg #[.int .i64 1, .bool false, .bool false, .iface 83 (.agg #[.pointer (some ⟨P, 0, none⟩), .int .i64 0, .int .i64 4611686018427387903, .int .i64 0])], .agg #[.int .i64 2, .bool true, .bool false, .iface 91 (.agg #[.pointer (some ⟨P, 17, none⟩), .pointer (some ⟨P, 33, none⟩)])], .agg #[.int .i64 3, .bool false, .bool false, .iface 83 (.agg #[.pointer (some ⟨P, 1, none⟩), .int .i64 1200, .int .i64 4611686018427387903, .int .i64 65527])], .agg #[.int .i64 4, .bool false, .bool false, .iface 83 (.agg #[.pointer (some ⟨P, 2, none⟩), .int .i64 0, .int .i64 4611686018427387903, .int .i64 0])], .agg #[.int .i64 5, .bool false, .bool false, .iface 83 (.agg #[.pointer (some ⟨P, 3, none⟩), .int .i64 0, .int .i64 4611686018427387903, .int .i64 0])], .agg #[.int .i64 6, .bool false, .bool false, .iface 83 (.agg #[.pointer (some ⟨P, 4, none⟩), .int .i64 0, .int .i64 4611686018427387903, .int .i64 0])], .agg #[.int .i64 7, .bool false, .bool false, .iface 83 (.agg #[.pointer (some ⟨P, 5, none⟩), .int .i64 0, .int .i64 4611686018427387903, .int .i64 0])], .agg #[.int .i64 8, .bool false, .bool false, .iface 83 (.agg #[.pointer (some ⟨P, 6, none⟩), .int .i64 0, .int .i64 1152921504606846976, .int .i64 0])], .agg #[.int .i64 9, .bool false, .bool false, .iface 83 (.agg #[.pointer (some ⟨P, 7, none⟩), .int .i64 0, .int .i64 1152921504606846976, .int .i64 0])], .agg #[.int .i64 10, .bool false, .bool false, .iface 83 (.agg #[.pointer (some ⟨P, 8, none⟩), .int .i64 0, .int .i64 20, .int .i64 3])], .agg #[.int .i64 11, .bool false, .bool false, .iface 83 (.agg #[.pointer (some ⟨P, 9, none⟩), .int .i64 0, .int .i64 16383, .int .i64 25])], .agg #[.int .i64 12, .bool false, .bool false, .iface 93 (.agg #[.pointer (some ⟨P, 10, none⟩)])], .agg #[.int .i64 14, .bool false, .bool false, .iface 83 (.agg #[.pointer (some ⟨P, 11, none⟩), .int .i64 2, .int .i64 4611686018427387903, .int .i64 2])], .agg #[.int .i64 15, .bool false, .bool true, .iface 87 (.agg #[.pointer (some ⟨P, 14, none⟩)])], .agg #[.int .i64 16, .bool true, .bool false, .iface 95 (.agg #[.pointer (some ⟨P, 15, none⟩), .pointer (some ⟨P, 16, none⟩)])], .agg #[.int .i64 32, .bool false, .bool false, .iface 83 (.agg #[.pointer (some ⟨P, 12, none⟩), .int .i64 0, .int .i64 4611686018427387903, .int .i64 0])]]
theorem rowsV_4 (P : Nat) : ∀ v ∈ rowsV P, v.cells.size = 4 := by
  intro v hv
  simp only [rowsV, List.mem_cons, List.not_mem_nil, or_false] at hv
  rcases hv with rfl | rfl | rfl | rfl | rfl | rfl | rfl | rfl | rfl | rfl | rfl | rfl | rfl | rfl | rfl | rfl | rfl <;> rfl
theorem step_bsP (P : Nat) {ops : Array Oper} {o : Oper} {a : Act} {w : World} {K : Act → World → Prop} {Q : Exit → Act → World → Prop} {E : Prop} (hgd : o.guard = none) (ho : o.op = .buildSlice 52 17 #[(0, .tmp 11), (1, .tmp 17), (2, .tmp 26), (3, .tmp 34), (4, .tmp 40), (5, .tmp 46), (6, .tmp 52), (7, .tmp 58), (8, .tmp 64), (9, .tmp 70), (10, .tmp 78), (11, .tmp 86), (12, .tmp 92), (13, .tmp 100), (14, .tmp 106), (15, .tmp 116), (16, .tmp 122)])
    (h0 : a.eval (.tmp 11) = .agg #[.int .i64 0, .bool true, .bool true, .iface 87 (.agg #[.pointer (some ⟨P, 13, none⟩)])]) (h1 : a.eval (.tmp 17) = .agg #[.int .i64 1, .bool false, .bool false, .iface 83 (.agg #[.pointer (some ⟨P, 0, none⟩), .int .i64 0, .int .i64 4611686018427387903, .int .i64 0])]) (h2 : a.eval (.tmp 26) = .agg #[.int .i64 2, .bool true, .bool false, .iface 91 (.agg #[.pointer (some ⟨P, 17, none⟩), .pointer (some ⟨P, 33, none⟩)])]) (h3 : a.eval (.tmp 34) = .agg #[.int .i64 3, .bool false, .bool false, .iface 83 (.agg #[.pointer (some ⟨P, 1, none⟩), .int .i64 1200, .int .i64 4611686018427387903, .int .i64 65527])]) (h4 : a.eval (.tmp 40) = .agg #[.int .i64 4, .bool false, .bool false, .iface 83 (.agg #[.pointer (some ⟨P, 2, none⟩), .int .i64 0, .int .i64 4611686018427387903, .int .i64 0])]) (h5 : a.eval (.tmp 46) = .agg #[.int .i64 5, .bool false, .bool false, .iface 83 (.agg #[.pointer (some ⟨P, 3, none⟩), .int .i64 0, .int .i64 4611686018427387903, .int .i64 0])]) (h6 : a.eval (.tmp 52) = .agg #[.int .i64 6, .bool false, .bool false, .iface 83 (.agg #[.pointer (some ⟨P, 4, none⟩), .int .i64 0, .int .i64 4611686018427387903, .int .i64 0])]) (h7 : a.eval (.tmp 58) = .agg #[.int .i64 7, .bool false, .bool false, .iface 83 (.agg #[.pointer (some ⟨P, 5, none⟩), .int .i64 0, .int .i64 4611686018427387903, .int .i64 0])]) (h8 : a.eval (.tmp 64) = .agg #[.int .i64 8, .bool false, .bool false, .iface 83 (.agg #[.pointer (some ⟨P, 6, none⟩), .int .i64 0, .int .i64 1152921504606846976, .int .i64 0])]) (h9 : a.eval (.tmp 70) = .agg #[.int .i64 9, .bool false, .bool false, .iface 83 (.agg #[.pointer (some ⟨P, 7, none⟩), .int .i64 0, .int .i64 1152921504606846976, .int .i64 0])]) (h10 : a.eval (.tmp 78) = .agg #[.int .i64 10, .bool false, .bool false, .iface 83 (.agg #[.pointer (some ⟨P, 8, none⟩), .int .i64 0, .int .i64 20, .int .i64 3])]) (h11 : a.eval (.tmp 86) = .agg #[.int .i64 11, .bool false, .bool false, .iface 83 (.agg #[.pointer (some ⟨P, 9, none⟩), .int .i64 0, .int .i64 16383, .int .i64 25])]) (h12 : a.eval (.tmp 92) = .agg #[.int .i64 12, .bool false, .bool false, .iface 93 (.agg #[.pointer (some ⟨P, 10, none⟩)])]) (h13 : a.eval (.tmp 100) = .agg #[.int .i64 14, .bool false, .bool false, .iface 83 (.agg #[.pointer (some ⟨P, 11, none⟩), .int .i64 2, .int .i64 4611686018427387903, .int .i64 2])]) (h14 : a.eval (.tmp 106) = .agg #[.int .i64 15, .bool false, .bool true, .iface 87 (.agg #[.pointer (some ⟨P, 14, none⟩)])]) (h15 : a.eval (.tmp 116) = .agg #[.int .i64 16, .bool true, .bool false, .iface 95 (.agg #[.pointer (some ⟨P, 15, none⟩), .pointer (some ⟨P, 16, none⟩)])]) (h16 : a.eval (.tmp 122) = .agg #[.int .i64 32, .bool false, .bool false, .iface 83 (.agg #[.pointer (some ⟨P, 12, none⟩), .int .i64 0, .int .i64 4611686018427387903, .int .i64 0])])
    (h : K (a.put o.dst (.slice (some ⟨w.heap.size, 0, none⟩) 17 17)) (w.alloc (.cells ((rowsV P).flatMap fun v => v.cells.toList).toArray 58))) : if Region.wanted o (yielded ops a.tmps) = true then Oper.wp Tryd.prog o a w K Q else E := by
  have hw : Region.wanted o (yielded ops a.tmps) = true := by simp [Region.wanted, hgd]
  rw [if_pos hw]
  obtain ⟨i, hi, hz, hs⟩ := inf58
  refine wp_buildSlice 52 58 17 _ ho _ i _ hs52 hi hz (by rw [hs]; omega) (by rw [hs]; omega) ?_ h
  rw [hs]
  simp only [List.map_toArray, List.map_cons, List.map_nil, h0, h1, h2, h3, h4, h5, h6, h7, h8, h9, h10, h11, h12, h13, h14, h15, h16]
  exact fill17 (rowsV P) (rowsV_4 P) rfl _

set_option maxHeartbeats 100000000 in
theorem fields_c (P : Nat) (w : World) : Calls Tryd.prog 19 #[.pointer (some ⟨P, 0, none⟩)] w fun e w' => ∃ g, e = .returned (.slice (some ⟨g, 0, none⟩) 17 17) ∧ w'.heap[g]? = some (.cells ((rowsV P).flatMap fun v => v.cells.toList).toArray 58 (0, 0)) ∧ Below w.heap.size w w' := by
  have hd := default_c w
  have eg := eg36
  go_enter Tryd.func19, Tryd.ntmps19
  go_wp2_with fail
  refine hd.mono ?_
  rintro e W1 ⟨rfl, hb1⟩
  have hn0 : Aside ((W1.alloc (.cells zA 25)).heap[W1.heap.size]? = some (.cells zA 25 (0, 0))) := heap_alloc_new W1 _
  obtain ⟨W2, hW2⟩ : ∃ W2, W1.alloc (.cells zA 25) = W2 := ⟨_, rfl⟩
  have hb2 : Aside (Below w.heap.size w W2) := by show Below _ _ _; rw [← hW2]; exact bel_trans hb1 (bel1 W1 _)
  rw [hW2] at hn0
  obtain ⟨G, hG⟩ : ∃ G, W1.heap.size = G := ⟨_, rfl⟩
  rw [hG] at hn0
  have hHS : (W2.setRow G defA).heap[G]? = some (.cells defA 25 (0, 0)) := setRow_heap W2 _ _ _ 25 (0, 0) hn0.out
  have hHB : Below w.heap.size w (W2.setRow G defA) := hb2.out.trans ⟨rfl, rfl, rfl, by simp, fun j hj => setRow_other W2 _ j _ (by have := hb1.size; omega)⟩
  have HN : Aside (∀ Q : World → Prop, Q (W2.setRow G defA) → ∃ W3, W2.setRow G defA = W3 ∧ Q W3) := fun Q h => ⟨_, rfl, h⟩
  obtain ⟨W3, hW3, hq, hB3⟩ := HN.out (fun X => X.heap[G]? = some (.cells defA 25 (0, 0)) ∧ Below w.heap.size w X) ⟨hHS, hHB⟩
  have HB3 : Aside (Below w.heap.size w W3) := hB3
  have g1 : W3.drew.cell? ⟨G, 1, none⟩ = some (.int .i64 65527) := by show W3.cell? _ = _; simp [World.cell?, hq, defA]
  have g8 : W3.drew.cell? ⟨G, 8, none⟩ = some (.int .i64 3) := by show W3.cell? _ = _; simp [World.cell?, hq, defA]
  have g9 : W3.drew.cell? ⟨G, 9, none⟩ = some (.int .i64 25) := by show W3.cell? _ = _; simp [World.cell?, hq, defA]
  have g11 : W3.drew.cell? ⟨G, 11, none⟩ = some (.int .i64 2) := by show W3.cell? _ = _; simp [World.cell?, hq, defA]
  clear hd hb1 hHS hHB HN hq hB3
  unfold zA at hW2
  go_wp2_with (refine wpList_store_row rfl 25 _ _ rfl G defA rfl rfl 25 _ hn0.out hi25 rfl defA_std ?_)
  clear hW2 hn0 hb2 hG
  refine wp_region_held_drew (S := fun X => X.cell? ⟨G, 1, none⟩ = some (.int .i64 65527) ∧ X.cell? ⟨G, 8, none⟩ = some (.int .i64 3) ∧ X.cell? ⟨G, 9, none⟩ = some (.int .i64 25) ∧ X.cell? ⟨G, 11, none⟩ = some (.int .i64 2)) (by kernel_rfl) ⟨g1, g8, g9, g11⟩ (fun hHeld => ?_)
  refine wpAnyH_take (i := 0) (v := .pointer (some ⟨P, 0, none⟩)) rfl (by kernel_rfl) (by kernel_rfl) (by kernel_rfl) (fun _ _ _ h => h) (Or.inl ⟨by rfl, by intro w hs; go_simp⟩) hHeld ?_
  refine norm_any' (fun K hK => ?_)
  go_simp
  refine hK _ _ ?_
  clear hK K
  refine wpAnyH_take (i := 1) (v := .pointer (some ⟨P, 0, none⟩)) rfl (by kernel_rfl) (by kernel_rfl) (by kernel_rfl) (fun _ _ _ h => h) (Or.inl ⟨by rfl, by intro w hs; go_simp⟩) hHeld ?_
  refine norm_any' (fun K hK => ?_)
  go_simp
  refine hK _ _ ?_
  clear hK K
  refine wpAnyH_take (i := 2) (v := .pointer (some ⟨P, 13, none⟩)) rfl (by kernel_rfl) (by kernel_rfl) (by kernel_rfl) (fun _ _ _ h => h) (Or.inl ⟨by rfl, by intro w hs; go_simp⟩) hHeld ?_
  refine norm_any' (fun K hK => ?_)
  go_simp
  refine hK _ _ ?_
  clear hK K
  refine wpAnyH_take (i := 3) (v := .agg #[.pointer (some ⟨P, 13, none⟩)]) rfl (by kernel_rfl) (by kernel_rfl) (by kernel_rfl) (fun _ _ _ h => h) (Or.inl ⟨by rfl, by intro w hs; go_simp⟩) hHeld ?_
  refine norm_any' (fun K hK => ?_)
  go_simp
  refine hK _ _ ?_
  clear hK K
  refine wpAnyH_take (i := 4) (v := .iface 87 (.agg #[.pointer (some ⟨P, 13, none⟩)])) rfl (by kernel_rfl) (by kernel_rfl) (by kernel_rfl) (fun _ _ _ h => h) (Or.inl ⟨by rfl, by intro w hs; go_simp⟩) hHeld ?_
  refine norm_any' (fun K hK => ?_)
  go_simp
  refine hK _ _ ?_
  clear hK K
  refine wpAnyH_take (i := 5) (v := .agg #[.int .i64 0, .bool true, .bool true, .iface 87 (.agg #[.pointer (some ⟨P, 13, none⟩)])]) rfl (by kernel_rfl) (by kernel_rfl) (by kernel_rfl) (fun _ _ _ h => h) (Or.inl ⟨by rfl, by intro w hs; go_simp⟩) hHeld ?_
  refine norm_any' (fun K hK => ?_)
  go_simp
  refine hK _ _ ?_
  clear hK K
  refine wpAnyH_take (i := 6) (v := .func (.func 36) #[] #[]) rfl (by kernel_rfl) (by kernel_rfl) (by kernel_rfl) (fun _ _ _ h => h) (Or.inl ⟨by rfl, by intro w hs; go_simp⟩) hHeld ?_
  refine norm_any' (fun K hK => ?_)
  go_simp
  refine hK _ _ ?_
  clear hK K
  as_aux_lemma =>
    refine wpAnyH_take (i := 7) (v := .pointer (some ⟨P, 0, none⟩)) rfl (by kernel_rfl) (by kernel_rfl) (by kernel_rfl) (fun _ _ _ h => h) (Or.inl ⟨by rfl, by intro w hs; go_simp⟩) hHeld ?_
    refine norm_any' (fun K hK => ?_)
    go_simp
    refine hK _ _ ?_
    clear hK K
    refine wpAnyH_take (i := 8) (v := .pointer (some ⟨P, 0, none⟩)) rfl (by kernel_rfl) (by kernel_rfl) (by kernel_rfl) (fun _ _ _ h => h) (Or.inl ⟨by rfl, by intro w hs; go_simp⟩) hHeld ?_
    refine norm_any' (fun K hK => ?_)
    go_simp
    refine hK _ _ ?_
    clear hK K
    refine wpAnyH_take (i := 9) (v := .pointer (some ⟨P, 0, none⟩)) rfl (by kernel_rfl) (by kernel_rfl) (by kernel_rfl) (fun _ _ _ h => h) (Or.inl ⟨by rfl, by intro w hs; go_simp⟩) hHeld ?_
    refine norm_any' (fun K hK => ?_)
    go_simp
    refine hK _ _ ?_
    clear hK K
    refine wpAnyH_take (i := 12) (v := .pointer (some ⟨P, 0, none⟩)) rfl (by kernel_rfl) (by kernel_rfl) (by kernel_rfl) (fun _ _ _ h => h) (Or.inl ⟨by rfl, by intro w hs; go_simp⟩) hHeld ?_
    refine norm_any' (fun K hK => ?_)
    go_simp
    refine hK _ _ ?_
    clear hK K
    refine wpAnyH_take (i := 13) (v := .pointer (some ⟨P, 0, none⟩)) rfl (by kernel_rfl) (by kernel_rfl) (by kernel_rfl) (fun _ _ _ h => h) (Or.inl ⟨by rfl, by intro w hs; go_simp⟩) hHeld ?_
    refine norm_any' (fun K hK => ?_)
    go_simp
    refine hK _ _ ?_
    clear hK K
    refine wpAnyH_take (i := 14) (v := .pointer (some ⟨P, 17, none⟩)) rfl (by kernel_rfl) (by kernel_rfl) (by kernel_rfl) (fun _ _ _ h => h) (Or.inl ⟨by rfl, by intro w hs; go_simp⟩) hHeld ?_
    refine norm_any' (fun K hK => ?_)
    go_simp
    refine hK _ _ ?_
    clear hK K
    refine wpAnyH_take (i := 15) (v := .pointer (some ⟨P, 0, none⟩)) rfl (by kernel_rfl) (by kernel_rfl) (by kernel_rfl) (fun _ _ _ h => h) (Or.inl ⟨by rfl, by intro w hs; go_simp⟩) hHeld ?_
    refine norm_any' (fun K hK => ?_)
    go_simp
    refine hK _ _ ?_
    clear hK K
    refine wpAnyH_take (i := 16) (v := .pointer (some ⟨P, 0, none⟩)) rfl (by kernel_rfl) (by kernel_rfl) (by kernel_rfl) (fun _ _ _ h => h) (Or.inl ⟨by rfl, by intro w hs; go_simp⟩) hHeld ?_
    refine norm_any' (fun K hK => ?_)
    go_simp
    refine hK _ _ ?_
    clear hK K
    as_aux_lemma =>
      refine wpAnyH_take (i := 17) (v := .pointer (some ⟨P, 33, none⟩)) rfl (by kernel_rfl) (by kernel_rfl) (by kernel_rfl) (fun _ _ _ h => h) (Or.inl ⟨by rfl, by intro w hs; go_simp⟩) hHeld ?_
      refine norm_any' (fun K hK => ?_)
      go_simp
      refine hK _ _ ?_
      clear hK K
      refine wpAnyH_take (i := 18) (v := .agg #[.pointer (some ⟨P, 17, none⟩), .pointer (some ⟨P, 33, none⟩)]) rfl (by kernel_rfl) (by kernel_rfl) (by kernel_rfl) (fun _ _ _ h => h) (Or.inl ⟨by rfl, by intro w hs; go_simp⟩) hHeld ?_
      refine norm_any' (fun K hK => ?_)
      go_simp
      refine hK _ _ ?_
      clear hK K
      refine wpAnyH_take (i := 19) (v := .iface 91 (.agg #[.pointer (some ⟨P, 17, none⟩), .pointer (some ⟨P, 33, none⟩)])) rfl (by kernel_rfl) (by kernel_rfl) (by kernel_rfl) (fun _ _ _ h => h) (Or.inl ⟨by rfl, by intro w hs; go_simp⟩) hHeld ?_
      refine norm_any' (fun K hK => ?_)
      go_simp
      refine hK _ _ ?_
      clear hK K
      refine wpAnyH_take (i := 20) (v := .agg #[.int .i64 2, .bool true, .bool false, .iface 91 (.agg #[.pointer (some ⟨P, 17, none⟩), .pointer (some ⟨P, 33, none⟩)])]) rfl (by kernel_rfl) (by kernel_rfl) (by kernel_rfl) (fun _ _ _ h => h) (Or.inl ⟨by rfl, by intro w hs; go_simp⟩) hHeld ?_
      refine norm_any' (fun K hK => ?_)
      go_simp
      refine hK _ _ ?_
      clear hK K
      refine wpAnyH_take (i := 21) (v := .pointer (some ⟨P, 0, none⟩)) rfl (by kernel_rfl) (by kernel_rfl) (by kernel_rfl) (fun _ _ _ h => h) (Or.inl ⟨by rfl, by intro w hs; go_simp⟩) hHeld ?_
      refine norm_any' (fun K hK => ?_)
      go_simp
      refine hK _ _ ?_
      clear hK K
      refine wpAnyH_take (i := 22) (v := .pointer (some ⟨P, 0, none⟩)) rfl (by kernel_rfl) (by kernel_rfl) (by kernel_rfl) (fun _ _ _ h => h) (Or.inl ⟨by rfl, by intro w hs; go_simp⟩) hHeld ?_
      refine norm_any' (fun K hK => ?_)
      go_simp
      refine hK _ _ ?_
      clear hK K
      refine wpAnyH_take (i := 23) (v := .pointer (some ⟨P, 1, none⟩)) rfl (by kernel_rfl) (by kernel_rfl) (by kernel_rfl) (fun _ _ _ h => h) (Or.inl ⟨by rfl, by intro w hs; go_simp⟩) hHeld ?_
      refine norm_any' (fun K hK => ?_)
      go_simp
      refine hK _ _ ?_
      clear hK K
      refine wpAnyH_take (i := 24) (v := .pointer (some ⟨G, 1, none⟩)) rfl (by kernel_rfl) (by kernel_rfl) (by kernel_rfl) (fun _ _ _ h => h) (Or.inl ⟨by rfl, by intro w hs; go_simp⟩) hHeld ?_
      refine norm_any' (fun K hK => ?_)
      go_simp
      refine hK _ _ ?_
      clear hK K
      as_aux_lemma =>
        refine wpAnyH_take (i := 25) (v := .int .i64 65527) rfl (by kernel_rfl) (by kernel_rfl) (by kernel_rfl) (fun _ _ _ h => h) (Or.inl ⟨by rfl, by rintro w ⟨s0, s1, s2, s3⟩; go_simp⟩) hHeld ?_
        refine norm_any' (fun K hK => ?_)
        go_simp
        refine hK _ _ ?_
        clear hK K
        refine wpAnyH_take (i := 26) (v := .agg #[.pointer (some ⟨P, 1, none⟩), .int .i64 1200, .int .i64 4611686018427387903, .int .i64 65527]) rfl (by kernel_rfl) (by kernel_rfl) (by kernel_rfl) (fun _ _ _ h => h) (Or.inl ⟨by rfl, by intro w hs; go_simp⟩) hHeld ?_
        refine norm_any' (fun K hK => ?_)
        go_simp
        refine hK _ _ ?_
        clear hK K
        refine wpAnyH_take (i := 27) (v := .iface 83 (.agg #[.pointer (some ⟨P, 1, none⟩), .int .i64 1200, .int .i64 4611686018427387903, .int .i64 65527])) rfl (by kernel_rfl) (by kernel_rfl) (by kernel_rfl) (fun _ _ _ h => h) (Or.inl ⟨by rfl, by intro w hs; go_simp⟩) hHeld ?_
        refine norm_any' (fun K hK => ?_)
        go_simp
        refine hK _ _ ?_
        clear hK K
        refine wpAnyH_take (i := 28) (v := .agg #[.int .i64 3, .bool false, .bool false, .iface 83 (.agg #[.pointer (some ⟨P, 1, none⟩), .int .i64 1200, .int .i64 4611686018427387903, .int .i64 65527])]) rfl (by kernel_rfl) (by kernel_rfl) (by kernel_rfl) (fun _ _ _ h => h) (Or.inl ⟨by rfl, by intro w hs; go_simp⟩) hHeld ?_
        refine norm_any' (fun K hK => ?_)
        go_simp
        refine hK _ _ ?_
        clear hK K
        refine wpAnyH_take (i := 29) (v := .func (.func 36) #[] #[]) rfl (by kernel_rfl) (by kernel_rfl) (by kernel_rfl) (fun _ _ _ h => h) (Or.inl ⟨by rfl, by intro w hs; go_simp⟩) hHeld ?_
        refine norm_any' (fun K hK => ?_)
        go_simp
        refine hK _ _ ?_
        clear hK K
        refine wpAnyH_take (i := 30) (v := .pointer (some ⟨P, 0, none⟩)) rfl (by kernel_rfl) (by kernel_rfl) (by kernel_rfl) (fun _ _ _ h => h) (Or.inl ⟨by rfl, by intro w hs; go_simp⟩) hHeld ?_
        refine norm_any' (fun K hK => ?_)
        go_simp
        refine hK _ _ ?_
        clear hK K
        refine wpAnyH_take (i := 31) (v := .pointer (some ⟨P, 0, none⟩)) rfl (by kernel_rfl) (by kernel_rfl) (by kernel_rfl) (fun _ _ _ h => h) (Or.inl ⟨by rfl, by intro w hs; go_simp⟩) hHeld ?_
        refine norm_any' (fun K hK => ?_)
        go_simp
        refine hK _ _ ?_
        clear hK K
        refine wpAnyH_take (i := 32) (v := .pointer (some ⟨P, 2, none⟩)) rfl (by kernel_rfl) (by kernel_rfl) (by kernel_rfl) (fun _ _ _ h => h) (Or.inl ⟨by rfl, by intro w hs; go_simp⟩) hHeld ?_
        refine norm_any' (fun K hK => ?_)
        go_simp
        refine hK _ _ ?_
        clear hK K
        as_aux_lemma =>
          refine wpAnyH_take (i := 35) (v := .func (.func 36) #[] #[]) rfl (by kernel_rfl) (by kernel_rfl) (by kernel_rfl) (fun _ _ _ h => h) (Or.inl ⟨by rfl, by intro w hs; go_simp⟩) hHeld ?_
          refine norm_any' (fun K hK => ?_)
          go_simp
          refine hK _ _ ?_
          clear hK K
          refine wpAnyH_take (i := 36) (v := .pointer (some ⟨P, 0, none⟩)) rfl (by kernel_rfl) (by kernel_rfl) (by kernel_rfl) (fun _ _ _ h => h) (Or.inl ⟨by rfl, by intro w hs; go_simp⟩) hHeld ?_
          refine norm_any' (fun K hK => ?_)
          go_simp
          refine hK _ _ ?_
          clear hK K
          refine wpAnyH_take (i := 37) (v := .pointer (some ⟨P, 0, none⟩)) rfl (by kernel_rfl) (by kernel_rfl) (by kernel_rfl) (fun _ _ _ h => h) (Or.inl ⟨by rfl, by intro w hs; go_simp⟩) hHeld ?_
          refine norm_any' (fun K hK => ?_)
          go_simp
          refine hK _ _ ?_
          clear hK K
          refine wpAnyH_take (i := 38) (v := .pointer (some ⟨P, 3, none⟩)) rfl (by kernel_rfl) (by kernel_rfl) (by kernel_rfl) (fun _ _ _ h => h) (Or.inl ⟨by rfl, by intro w hs; go_simp⟩) hHeld ?_
          refine norm_any' (fun K hK => ?_)
          go_simp
          refine hK _ _ ?_
          clear hK K
          refine wpAnyH_take (i := 41) (v := .func (.func 36) #[] #[]) rfl (by kernel_rfl) (by kernel_rfl) (by kernel_rfl) (fun _ _ _ h => h) (Or.inl ⟨by rfl, by intro w hs; go_simp⟩) hHeld ?_
          refine norm_any' (fun K hK => ?_)
          go_simp
          refine hK _ _ ?_
          clear hK K
          refine wpAnyH_take (i := 42) (v := .pointer (some ⟨P, 0, none⟩)) rfl (by kernel_rfl) (by kernel_rfl) (by kernel_rfl) (fun _ _ _ h => h) (Or.inl ⟨by rfl, by intro w hs; go_simp⟩) hHeld ?_
          refine norm_any' (fun K hK => ?_)
          go_simp
          refine hK _ _ ?_
          clear hK K
          refine wpAnyH_take (i := 43) (v := .pointer (some ⟨P, 0, none⟩)) rfl (by kernel_rfl) (by kernel_rfl) (by kernel_rfl) (fun _ _ _ h => h) (Or.inl ⟨by rfl, by intro w hs; go_simp⟩) hHeld ?_
          refine norm_any' (fun K hK => ?_)
          go_simp
          refine hK _ _ ?_
          clear hK K
          refine wpAnyH_take (i := 44) (v := .pointer (some ⟨P, 4, none⟩)) rfl (by kernel_rfl) (by kernel_rfl) (by kernel_rfl) (fun _ _ _ h => h) (Or.inl ⟨by rfl, by intro w hs; go_simp⟩) hHeld ?_
          refine norm_any' (fun K hK => ?_)
          go_simp
          refine hK _ _ ?_
          clear hK K
          as_aux_lemma =>
            refine wpAnyH_take (i := 47) (v := .func (.func 36) #[] #[]) rfl (by kernel_rfl) (by kernel_rfl) (by kernel_rfl) (fun _ _ _ h => h) (Or.inl ⟨by rfl, by intro w hs; go_simp⟩) hHeld ?_
            refine norm_any' (fun K hK => ?_)
            go_simp
            refine hK _ _ ?_
            clear hK K
            refine wpAnyH_take (i := 48) (v := .pointer (some ⟨P, 0, none⟩)) rfl (by kernel_rfl) (by kernel_rfl) (by kernel_rfl) (fun _ _ _ h => h) (Or.inl ⟨by rfl, by intro w hs; go_simp⟩) hHeld ?_
            refine norm_any' (fun K hK => ?_)
            go_simp
            refine hK _ _ ?_
            clear hK K
            refine wpAnyH_take (i := 49) (v := .pointer (some ⟨P, 0, none⟩)) rfl (by kernel_rfl) (by kernel_rfl) (by kernel_rfl) (fun _ _ _ h => h) (Or.inl ⟨by rfl, by intro w hs; go_simp⟩) hHeld ?_
            refine norm_any' (fun K hK => ?_)
            go_simp
            refine hK _ _ ?_
            clear hK K
            refine wpAnyH_take (i := 50) (v := .pointer (some ⟨P, 5, none⟩)) rfl (by kernel_rfl) (by kernel_rfl) (by kernel_rfl) (fun _ _ _ h => h) (Or.inl ⟨by rfl, by intro w hs; go_simp⟩) hHeld ?_
            refine norm_any' (fun K hK => ?_)
            go_simp
            refine hK _ _ ?_
            clear hK K
            refine wpAnyH_take (i := 53) (v := .pointer (some ⟨P, 0, none⟩)) rfl (by kernel_rfl) (by kernel_rfl) (by kernel_rfl) (fun _ _ _ h => h) (Or.inl ⟨by rfl, by intro w hs; go_simp⟩) hHeld ?_
            refine norm_any' (fun K hK => ?_)
            go_simp
            refine hK _ _ ?_
            clear hK K
            refine wpAnyH_take (i := 54) (v := .pointer (some ⟨P, 0, none⟩)) rfl (by kernel_rfl) (by kernel_rfl) (by kernel_rfl) (fun _ _ _ h => h) (Or.inl ⟨by rfl, by intro w hs; go_simp⟩) hHeld ?_
            refine norm_any' (fun K hK => ?_)
            go_simp
            refine hK _ _ ?_
            clear hK K
            refine wpAnyH_take (i := 55) (v := .pointer (some ⟨P, 6, none⟩)) rfl (by kernel_rfl) (by kernel_rfl) (by kernel_rfl) (fun _ _ _ h => h) (Or.inl ⟨by rfl, by intro w hs; go_simp⟩) hHeld ?_
            refine norm_any' (fun K hK => ?_)
            go_simp
            refine hK _ _ ?_
            clear hK K
            refine wpAnyH_take (i := 56) (v := .agg #[.pointer (some ⟨P, 6, none⟩), .int .i64 0, .int .i64 1152921504606846976, .int .i64 0]) rfl (by kernel_rfl) (by kernel_rfl) (by kernel_rfl) (fun _ _ _ h => h) (Or.inl ⟨by rfl, by intro w hs; go_simp⟩) hHeld ?_
            refine norm_any' (fun K hK => ?_)
            go_simp
            refine hK _ _ ?_
            clear hK K
            as_aux_lemma =>
              refine wpAnyH_take (i := 57) (v := .iface 83 (.agg #[.pointer (some ⟨P, 6, none⟩), .int .i64 0, .int .i64 1152921504606846976, .int .i64 0])) rfl (by kernel_rfl) (by kernel_rfl) (by kernel_rfl) (fun _ _ _ h => h) (Or.inl ⟨by rfl, by intro w hs; go_simp⟩) hHeld ?_
              refine norm_any' (fun K hK => ?_)
              go_simp
              refine hK _ _ ?_
              clear hK K
              refine wpAnyH_take (i := 58) (v := .agg #[.int .i64 8, .bool false, .bool false, .iface 83 (.agg #[.pointer (some ⟨P, 6, none⟩), .int .i64 0, .int .i64 1152921504606846976, .int .i64 0])]) rfl (by kernel_rfl) (by kernel_rfl) (by kernel_rfl) (fun _ _ _ h => h) (Or.inl ⟨by rfl, by intro w hs; go_simp⟩) hHeld ?_
              refine norm_any' (fun K hK => ?_)
              go_simp
              refine hK _ _ ?_
              clear hK K
              refine wpAnyH_take (i := 59) (v := .pointer (some ⟨P, 0, none⟩)) rfl (by kernel_rfl) (by kernel_rfl) (by kernel_rfl) (fun _ _ _ h => h) (Or.inl ⟨by rfl, by intro w hs; go_simp⟩) hHeld ?_
              refine norm_any' (fun K hK => ?_)
              go_simp
              refine hK _ _ ?_
              clear hK K
              refine wpAnyH_take (i := 60) (v := .pointer (some ⟨P, 0, none⟩)) rfl (by kernel_rfl) (by kernel_rfl) (by kernel_rfl) (fun _ _ _ h => h) (Or.inl ⟨by rfl, by intro w hs; go_simp⟩) hHeld ?_
              refine norm_any' (fun K hK => ?_)
              go_simp
              refine hK _ _ ?_
              clear hK K
              refine wpAnyH_take (i := 61) (v := .pointer (some ⟨P, 7, none⟩)) rfl (by kernel_rfl) (by kernel_rfl) (by kernel_rfl) (fun _ _ _ h => h) (Or.inl ⟨by rfl, by intro w hs; go_simp⟩) hHeld ?_
              refine norm_any' (fun K hK => ?_)
              go_simp
              refine hK _ _ ?_
              clear hK K
              refine wpAnyH_take (i := 62) (v := .agg #[.pointer (some ⟨P, 7, none⟩), .int .i64 0, .int .i64 1152921504606846976, .int .i64 0]) rfl (by kernel_rfl) (by kernel_rfl) (by kernel_rfl) (fun _ _ _ h => h) (Or.inl ⟨by rfl, by intro w hs; go_simp⟩) hHeld ?_
              refine norm_any' (fun K hK => ?_)
              go_simp
              refine hK _ _ ?_
              clear hK K
              refine wpAnyH_take (i := 63) (v := .iface 83 (.agg #[.pointer (some ⟨P, 7, none⟩), .int .i64 0, .int .i64 1152921504606846976, .int .i64 0])) rfl (by kernel_rfl) (by kernel_rfl) (by kernel_rfl) (fun _ _ _ h => h) (Or.inl ⟨by rfl, by intro w hs; go_simp⟩) hHeld ?_
              refine norm_any' (fun K hK => ?_)
              go_simp
              refine hK _ _ ?_
              clear hK K
              refine wpAnyH_take (i := 64) (v := .agg #[.int .i64 9, .bool false, .bool false, .iface 83 (.agg #[.pointer (some ⟨P, 7, none⟩), .int .i64 0, .int .i64 1152921504606846976, .int .i64 0])]) rfl (by kernel_rfl) (by kernel_rfl) (by kernel_rfl) (fun _ _ _ h => h) (Or.inl ⟨by rfl, by intro w hs; go_simp⟩) hHeld ?_
              refine norm_any' (fun K hK => ?_)
              go_simp
              refine hK _ _ ?_
              clear hK K
              as_aux_lemma =>
                refine wpAnyH_take (i := 65) (v := .pointer (some ⟨P, 0, none⟩)) rfl (by kernel_rfl) (by kernel_rfl) (by kernel_rfl) (fun _ _ _ h => h) (Or.inl ⟨by rfl, by intro w hs; go_simp⟩) hHeld ?_
                refine norm_any' (fun K hK => ?_)
                go_simp
                refine hK _ _ ?_
                clear hK K
                refine wpAnyH_take (i := 66) (v := .pointer (some ⟨P, 0, none⟩)) rfl (by kernel_rfl) (by kernel_rfl) (by kernel_rfl) (fun _ _ _ h => h) (Or.inl ⟨by rfl, by intro w hs; go_simp⟩) hHeld ?_
                refine norm_any' (fun K hK => ?_)
                go_simp
                refine hK _ _ ?_
                clear hK K
                refine wpAnyH_take (i := 67) (v := .pointer (some ⟨P, 8, none⟩)) rfl (by kernel_rfl) (by kernel_rfl) (by kernel_rfl) (fun _ _ _ h => h) (Or.inl ⟨by rfl, by intro w hs; go_simp⟩) hHeld ?_
                refine norm_any' (fun K hK => ?_)
                go_simp
                refine hK _ _ ?_
                clear hK K
                refine wpAnyH_take (i := 68) (v := .pointer (some ⟨G, 8, none⟩)) rfl (by kernel_rfl) (by kernel_rfl) (by kernel_rfl) (fun _ _ _ h => h) (Or.inl ⟨by rfl, by intro w hs; go_simp⟩) hHeld ?_
                refine norm_any' (fun K hK => ?_)
                go_simp
                refine hK _ _ ?_
                clear hK K
                refine wpAnyH_take (i := 69) (v := .int .i64 3) rfl (by kernel_rfl) (by kernel_rfl) (by kernel_rfl) (fun _ _ _ h => h) (Or.inl ⟨by rfl, by rintro w ⟨s0, s1, s2, s3⟩; go_simp⟩) hHeld ?_
                refine norm_any' (fun K hK => ?_)
                go_simp
                refine hK _ _ ?_
                clear hK K
                refine wpAnyH_take (i := 70) (v := .agg #[.pointer (some ⟨P, 8, none⟩), .int .i64 0, .int .i64 20, .int .i64 3]) rfl (by kernel_rfl) (by kernel_rfl) (by kernel_rfl) (fun _ _ _ h => h) (Or.inl ⟨by rfl, by intro w hs; go_simp⟩) hHeld ?_
                refine norm_any' (fun K hK => ?_)
                go_simp
                refine hK _ _ ?_
                clear hK K
                refine wpAnyH_take (i := 71) (v := .iface 83 (.agg #[.pointer (some ⟨P, 8, none⟩), .int .i64 0, .int .i64 20, .int .i64 3])) rfl (by kernel_rfl) (by kernel_rfl) (by kernel_rfl) (fun _ _ _ h => h) (Or.inl ⟨by rfl, by intro w hs; go_simp⟩) hHeld ?_
                refine norm_any' (fun K hK => ?_)
                go_simp
                refine hK _ _ ?_
                clear hK K
                refine wpAnyH_take (i := 72) (v := .agg #[.int .i64 10, .bool false, .bool false, .iface 83 (.agg #[.pointer (some ⟨P, 8, none⟩), .int .i64 0, .int .i64 20, .int .i64 3])]) rfl (by kernel_rfl) (by kernel_rfl) (by kernel_rfl) (fun _ _ _ h => h) (Or.inl ⟨by rfl, by intro w hs; go_simp⟩) hHeld ?_
                refine norm_any' (fun K hK => ?_)
                go_simp
                refine hK _ _ ?_
                clear hK K
                as_aux_lemma =>
                  refine wpAnyH_take (i := 73) (v := .pointer (some ⟨P, 0, none⟩)) rfl (by kernel_rfl) (by kernel_rfl) (by kernel_rfl) (fun _ _ _ h => h) (Or.inl ⟨by rfl, by intro w hs; go_simp⟩) hHeld ?_
                  refine norm_any' (fun K hK => ?_)
                  go_simp
                  refine hK _ _ ?_
                  clear hK K
                  refine wpAnyH_take (i := 74) (v := .pointer (some ⟨P, 0, none⟩)) rfl (by kernel_rfl) (by kernel_rfl) (by kernel_rfl) (fun _ _ _ h => h) (Or.inl ⟨by rfl, by intro w hs; go_simp⟩) hHeld ?_
                  refine norm_any' (fun K hK => ?_)
                  go_simp
                  refine hK _ _ ?_
                  clear hK K
                  refine wpAnyH_take (i := 75) (v := .pointer (some ⟨P, 9, none⟩)) rfl (by kernel_rfl) (by kernel_rfl) (by kernel_rfl) (fun _ _ _ h => h) (Or.inl ⟨by rfl, by intro w hs; go_simp⟩) hHeld ?_
                  refine norm_any' (fun K hK => ?_)
                  go_simp
                  refine hK _ _ ?_
                  clear hK K
                  refine wpAnyH_take (i := 76) (v := .pointer (some ⟨G, 9, none⟩)) rfl (by kernel_rfl) (by kernel_rfl) (by kernel_rfl) (fun _ _ _ h => h) (Or.inl ⟨by rfl, by intro w hs; go_simp⟩) hHeld ?_
                  refine norm_any' (fun K hK => ?_)
                  go_simp
                  refine hK _ _ ?_
                  clear hK K
                  refine wpAnyH_take (i := 77) (v := .int .i64 25) rfl (by kernel_rfl) (by kernel_rfl) (by kernel_rfl) (fun _ _ _ h => h) (Or.inl ⟨by rfl, by rintro w ⟨s0, s1, s2, s3⟩; go_simp⟩) hHeld ?_
                  refine norm_any' (fun K hK => ?_)
                  go_simp
                  refine hK _ _ ?_
                  clear hK K
                  refine wpAnyH_take (i := 78) (v := .agg #[.pointer (some ⟨P, 9, none⟩), .int .i64 0, .int .i64 16383, .int .i64 25]) rfl (by kernel_rfl) (by kernel_rfl) (by kernel_rfl) (fun _ _ _ h => h) (Or.inl ⟨by rfl, by intro w hs; go_simp⟩) hHeld ?_
                  refine norm_any' (fun K hK => ?_)
                  go_simp
                  refine hK _ _ ?_
                  clear hK K
                  refine wpAnyH_take (i := 79) (v := .iface 83 (.agg #[.pointer (some ⟨P, 9, none⟩), .int .i64 0, .int .i64 16383, .int .i64 25])) rfl (by kernel_rfl) (by kernel_rfl) (by kernel_rfl) (fun _ _ _ h => h) (Or.inl ⟨by rfl, by intro w hs; go_simp⟩) hHeld ?_
                  refine norm_any' (fun K hK => ?_)
                  go_simp
                  refine hK _ _ ?_
                  clear hK K
                  refine wpAnyH_take (i := 80) (v := .agg #[.int .i64 11, .bool false, .bool false, .iface 83 (.agg #[.pointer (some ⟨P, 9, none⟩), .int .i64 0, .int .i64 16383, .int .i64 25])]) rfl (by kernel_rfl) (by kernel_rfl) (by kernel_rfl) (fun _ _ _ h => h) (Or.inl ⟨by rfl, by intro w hs; go_simp⟩) hHeld ?_
                  refine norm_any' (fun K hK => ?_)
                  go_simp
                  refine hK _ _ ?_
                  clear hK K
                  as_aux_lemma =>
                    refine wpAnyH_take (i := 81) (v := .pointer (some ⟨P, 0, none⟩)) rfl (by kernel_rfl) (by kernel_rfl) (by kernel_rfl) (fun _ _ _ h => h) (Or.inl ⟨by rfl, by intro w hs; go_simp⟩) hHeld ?_
                    refine norm_any' (fun K hK => ?_)
                    go_simp
                    refine hK _ _ ?_
                    clear hK K
                    refine wpAnyH_take (i := 82) (v := .pointer (some ⟨P, 0, none⟩)) rfl (by kernel_rfl) (by kernel_rfl) (by kernel_rfl) (fun _ _ _ h => h) (Or.inl ⟨by rfl, by intro w hs; go_simp⟩) hHeld ?_
                    refine norm_any' (fun K hK => ?_)
                    go_simp
                    refine hK _ _ ?_
                    clear hK K
                    refine wpAnyH_take (i := 83) (v := .pointer (some ⟨P, 10, none⟩)) rfl (by kernel_rfl) (by kernel_rfl) (by kernel_rfl) (fun _ _ _ h => h) (Or.inl ⟨by rfl, by intro w hs; go_simp⟩) hHeld ?_
                    refine norm_any' (fun K hK => ?_)
                    go_simp
                    refine hK _ _ ?_
                    clear hK K
                    refine wpAnyH_take (i := 84) (v := .agg #[.pointer (some ⟨P, 10, none⟩)]) rfl (by kernel_rfl) (by kernel_rfl) (by kernel_rfl) (fun _ _ _ h => h) (Or.inl ⟨by rfl, by intro w hs; go_simp⟩) hHeld ?_
                    refine norm_any' (fun K hK => ?_)
                    go_simp
                    refine hK _ _ ?_
                    clear hK K
                    refine wpAnyH_take (i := 85) (v := .iface 93 (.agg #[.pointer (some ⟨P, 10, none⟩)])) rfl (by kernel_rfl) (by kernel_rfl) (by kernel_rfl) (fun _ _ _ h => h) (Or.inl ⟨by rfl, by intro w hs; go_simp⟩) hHeld ?_
                    refine norm_any' (fun K hK => ?_)
                    go_simp
                    refine hK _ _ ?_
                    clear hK K
                    refine wpAnyH_take (i := 86) (v := .agg #[.int .i64 12, .bool false, .bool false, .iface 93 (.agg #[.pointer (some ⟨P, 10, none⟩)])]) rfl (by kernel_rfl) (by kernel_rfl) (by kernel_rfl) (fun _ _ _ h => h) (Or.inl ⟨by rfl, by intro w hs; go_simp⟩) hHeld ?_
                    refine norm_any' (fun K hK => ?_)
                    go_simp
                    refine hK _ _ ?_
                    clear hK K
                    refine wpAnyH_take (i := 87) (v := .pointer (some ⟨P, 0, none⟩)) rfl (by kernel_rfl) (by kernel_rfl) (by kernel_rfl) (fun _ _ _ h => h) (Or.inl ⟨by rfl, by intro w hs; go_simp⟩) hHeld ?_
                    refine norm_any' (fun K hK => ?_)
                    go_simp
                    refine hK _ _ ?_
                    clear hK K
                    refine wpAnyH_take (i := 88) (v := .pointer (some ⟨P, 0, none⟩)) rfl (by kernel_rfl) (by kernel_rfl) (by kernel_rfl) (fun _ _ _ h => h) (Or.inl ⟨by rfl, by intro w hs; go_simp⟩) hHeld ?_
                    refine norm_any' (fun K hK => ?_)
                    go_simp
                    refine hK _ _ ?_
                    clear hK K
                    as_aux_lemma =>
                      refine wpAnyH_take (i := 89) (v := .pointer (some ⟨P, 11, none⟩)) rfl (by kernel_rfl) (by kernel_rfl) (by kernel_rfl) (fun _ _ _ h => h) (Or.inl ⟨by rfl, by intro w hs; go_simp⟩) hHeld ?_
                      refine norm_any' (fun K hK => ?_)
                      go_simp
                      refine hK _ _ ?_
                      clear hK K
                      refine wpAnyH_take (i := 90) (v := .pointer (some ⟨G, 11, none⟩)) rfl (by kernel_rfl) (by kernel_rfl) (by kernel_rfl) (fun _ _ _ h => h) (Or.inl ⟨by rfl, by intro w hs; go_simp⟩) hHeld ?_
                      refine norm_any' (fun K hK => ?_)
                      go_simp
                      refine hK _ _ ?_
                      clear hK K
                      refine wpAnyH_take (i := 91) (v := .int .i64 2) rfl (by kernel_rfl) (by kernel_rfl) (by kernel_rfl) (fun _ _ _ h => h) (Or.inl ⟨by rfl, by rintro w ⟨s0, s1, s2, s3⟩; go_simp⟩) hHeld ?_
                      refine norm_any' (fun K hK => ?_)
                      go_simp
                      refine hK _ _ ?_
                      clear hK K
                      refine wpAnyH_take (i := 92) (v := .agg #[.pointer (some ⟨P, 11, none⟩), .int .i64 2, .int .i64 4611686018427387903, .int .i64 2]) rfl (by kernel_rfl) (by kernel_rfl) (by kernel_rfl) (fun _ _ _ h => h) (Or.inl ⟨by rfl, by intro w hs; go_simp⟩) hHeld ?_
                      refine norm_any' (fun K hK => ?_)
                      go_simp
                      refine hK _ _ ?_
                      clear hK K
                      refine wpAnyH_take (i := 93) (v := .iface 83 (.agg #[.pointer (some ⟨P, 11, none⟩), .int .i64 2, .int .i64 4611686018427387903, .int .i64 2])) rfl (by kernel_rfl) (by kernel_rfl) (by kernel_rfl) (fun _ _ _ h => h) (Or.inl ⟨by rfl, by intro w hs; go_simp⟩) hHeld ?_
                      refine norm_any' (fun K hK => ?_)
                      go_simp
                      refine hK _ _ ?_
                      clear hK K
                      refine wpAnyH_take (i := 94) (v := .agg #[.int .i64 14, .bool false, .bool false, .iface 83 (.agg #[.pointer (some ⟨P, 11, none⟩), .int .i64 2, .int .i64 4611686018427387903, .int .i64 2])]) rfl (by kernel_rfl) (by kernel_rfl) (by kernel_rfl) (fun _ _ _ h => h) (Or.inl ⟨by rfl, by intro w hs; go_simp⟩) hHeld ?_
                      refine norm_any' (fun K hK => ?_)
                      go_simp
                      refine hK _ _ ?_
                      clear hK K
                      refine wpAnyH_take (i := 95) (v := .pointer (some ⟨P, 0, none⟩)) rfl (by kernel_rfl) (by kernel_rfl) (by kernel_rfl) (fun _ _ _ h => h) (Or.inl ⟨by rfl, by intro w hs; go_simp⟩) hHeld ?_
                      refine norm_any' (fun K hK => ?_)
                      go_simp
                      refine hK _ _ ?_
                      clear hK K
                      refine wpAnyH_take (i := 96) (v := .pointer (some ⟨P, 0, none⟩)) rfl (by kernel_rfl) (by kernel_rfl) (by kernel_rfl) (fun _ _ _ h => h) (Or.inl ⟨by rfl, by intro w hs; go_simp⟩) hHeld ?_
                      refine norm_any' (fun K hK => ?_)
                      go_simp
                      refine hK _ _ ?_
                      clear hK K
                      as_aux_lemma =>
                        refine wpAnyH_take (i := 97) (v := .pointer (some ⟨P, 14, none⟩)) rfl (by kernel_rfl) (by kernel_rfl) (by kernel_rfl) (fun _ _ _ h => h) (Or.inl ⟨by rfl, by intro w hs; go_simp⟩) hHeld ?_
                        refine norm_any' (fun K hK => ?_)
                        go_simp
                        refine hK _ _ ?_
                        clear hK K
                        refine wpAnyH_take (i := 98) (v := .agg #[.pointer (some ⟨P, 14, none⟩)]) rfl (by kernel_rfl) (by kernel_rfl) (by kernel_rfl) (fun _ _ _ h => h) (Or.inl ⟨by rfl, by intro w hs; go_simp⟩) hHeld ?_
                        refine norm_any' (fun K hK => ?_)
                        go_simp
                        refine hK _ _ ?_
                        clear hK K
                        refine wpAnyH_take (i := 99) (v := .iface 87 (.agg #[.pointer (some ⟨P, 14, none⟩)])) rfl (by kernel_rfl) (by kernel_rfl) (by kernel_rfl) (fun _ _ _ h => h) (Or.inl ⟨by rfl, by intro w hs; go_simp⟩) hHeld ?_
                        refine norm_any' (fun K hK => ?_)
                        go_simp
                        refine hK _ _ ?_
                        clear hK K
                        refine wpAnyH_take (i := 100) (v := .agg #[.int .i64 15, .bool false, .bool true, .iface 87 (.agg #[.pointer (some ⟨P, 14, none⟩)])]) rfl (by kernel_rfl) (by kernel_rfl) (by kernel_rfl) (fun _ _ _ h => h) (Or.inl ⟨by rfl, by intro w hs; go_simp⟩) hHeld ?_
                        refine norm_any' (fun K hK => ?_)
                        go_simp
                        refine hK _ _ ?_
                        clear hK K
                        refine wpAnyH_take (i := 101) (v := .pointer (some ⟨P, 0, none⟩)) rfl (by kernel_rfl) (by kernel_rfl) (by kernel_rfl) (fun _ _ _ h => h) (Or.inl ⟨by rfl, by intro w hs; go_simp⟩) hHeld ?_
                        refine norm_any' (fun K hK => ?_)
                        go_simp
                        refine hK _ _ ?_
                        clear hK K
                        refine wpAnyH_take (i := 102) (v := .pointer (some ⟨P, 0, none⟩)) rfl (by kernel_rfl) (by kernel_rfl) (by kernel_rfl) (fun _ _ _ h => h) (Or.inl ⟨by rfl, by intro w hs; go_simp⟩) hHeld ?_
                        refine norm_any' (fun K hK => ?_)
                        go_simp
                        refine hK _ _ ?_
                        clear hK K
                        refine wpAnyH_take (i := 103) (v := .pointer (some ⟨P, 15, none⟩)) rfl (by kernel_rfl) (by kernel_rfl) (by kernel_rfl) (fun _ _ _ h => h) (Or.inl ⟨by rfl, by intro w hs; go_simp⟩) hHeld ?_
                        refine norm_any' (fun K hK => ?_)
                        go_simp
                        refine hK _ _ ?_
                        clear hK K
                        refine wpAnyH_take (i := 104) (v := .agg #[.pointer (some ⟨P, 15, none⟩)]) rfl (by kernel_rfl) (by kernel_rfl) (by kernel_rfl) (fun _ _ _ h => h) (Or.inl ⟨by rfl, by intro w hs; go_simp⟩) hHeld ?_
                        refine norm_any' (fun K hK => ?_)
                        go_simp
                        refine hK _ _ ?_
                        clear hK K
                        as_aux_lemma =>
                          refine wpAnyH_take (i := 105) (v := .pointer (some ⟨P, 0, none⟩)) rfl (by kernel_rfl) (by kernel_rfl) (by kernel_rfl) (fun _ _ _ h => h) (Or.inl ⟨by rfl, by intro w hs; go_simp⟩) hHeld ?_
                          refine norm_any' (fun K hK => ?_)
                          go_simp
                          refine hK _ _ ?_
                          clear hK K
                          refine wpAnyH_take (i := 106) (v := .pointer (some ⟨P, 0, none⟩)) rfl (by kernel_rfl) (by kernel_rfl) (by kernel_rfl) (fun _ _ _ h => h) (Or.inl ⟨by rfl, by intro w hs; go_simp⟩) hHeld ?_
                          refine norm_any' (fun K hK => ?_)
                          go_simp
                          refine hK _ _ ?_
                          clear hK K
                          refine wpAnyH_take (i := 107) (v := .pointer (some ⟨P, 16, none⟩)) rfl (by kernel_rfl) (by kernel_rfl) (by kernel_rfl) (fun _ _ _ h => h) (Or.inl ⟨by rfl, by intro w hs; go_simp⟩) hHeld ?_
                          refine norm_any' (fun K hK => ?_)
                          go_simp
                          refine hK _ _ ?_
                          clear hK K
                          refine wpAnyH_take (i := 108) (v := .agg #[.pointer (some ⟨P, 15, none⟩), .pointer (some ⟨P, 16, none⟩)]) rfl (by kernel_rfl) (by kernel_rfl) (by kernel_rfl) (fun _ _ _ h => h) (Or.inl ⟨by rfl, by intro w hs; go_simp⟩) hHeld ?_
                          refine norm_any' (fun K hK => ?_)
                          go_simp
                          refine hK _ _ ?_
                          clear hK K
                          refine wpAnyH_take (i := 109) (v := .iface 95 (.agg #[.pointer (some ⟨P, 15, none⟩), .pointer (some ⟨P, 16, none⟩)])) rfl (by kernel_rfl) (by kernel_rfl) (by kernel_rfl) (fun _ _ _ h => h) (Or.inl ⟨by rfl, by intro w hs; go_simp⟩) hHeld ?_
                          refine norm_any' (fun K hK => ?_)
                          go_simp
                          refine hK _ _ ?_
                          clear hK K
                          refine wpAnyH_take (i := 110) (v := .agg #[.int .i64 16, .bool true, .bool false, .iface 95 (.agg #[.pointer (some ⟨P, 15, none⟩), .pointer (some ⟨P, 16, none⟩)])]) rfl (by kernel_rfl) (by kernel_rfl) (by kernel_rfl) (fun _ _ _ h => h) (Or.inl ⟨by rfl, by intro w hs; go_simp⟩) hHeld ?_
                          refine norm_any' (fun K hK => ?_)
                          go_simp
                          refine hK _ _ ?_
                          clear hK K
                          refine wpAnyH_take (i := 111) (v := .func (.func 36) #[] #[]) rfl (by kernel_rfl) (by kernel_rfl) (by kernel_rfl) (fun _ _ _ h => h) (Or.inl ⟨by rfl, by intro w hs; go_simp⟩) hHeld ?_
                          refine norm_any' (fun K hK => ?_)
                          go_simp
                          refine hK _ _ ?_
                          clear hK K
                          refine wpAnyH_take (i := 112) (v := .pointer (some ⟨P, 0, none⟩)) rfl (by kernel_rfl) (by kernel_rfl) (by kernel_rfl) (fun _ _ _ h => h) (Or.inl ⟨by rfl, by intro w hs; go_simp⟩) hHeld ?_
                          refine norm_any' (fun K hK => ?_)
                          go_simp
                          refine hK _ _ ?_
                          clear hK K
                          as_aux_lemma =>
                            refine wpAnyH_take (i := 113) (v := .pointer (some ⟨P, 0, none⟩)) rfl (by kernel_rfl) (by kernel_rfl) (by kernel_rfl) (fun _ _ _ h => h) (Or.inl ⟨by rfl, by intro w hs; go_simp⟩) hHeld ?_
                            refine norm_any' (fun K hK => ?_)
                            go_simp
                            refine hK _ _ ?_
                            clear hK K
                            refine wpAnyH_take (i := 114) (v := .pointer (some ⟨P, 12, none⟩)) rfl (by kernel_rfl) (by kernel_rfl) (by kernel_rfl) (fun _ _ _ h => h) (Or.inl ⟨by rfl, by intro w hs; go_simp⟩) hHeld ?_
                            refine norm_any' (fun K hK => ?_)
                            go_simp
                            refine hK _ _ ?_
                            clear hK K
                            refine wpAnyH_ready (rs := [10]) (by kernel_rfl) (by simp) (AllReadyH.cons rfl (fun K hK => ?_) AllReadyH.nil)
                            go_simp
                            refine Calls.mono (free_r (some ⟨P, 0, none⟩) _) ?_
                            rintro e X2 ⟨rfl, hX2⟩
                            subst X2
                            refine hK.out _ _ hHeld (fun hHeld => ?_)
                            clear hK K
                            refine norm_any' (fun K hK => ?_)
                            go_simp
                            refine hK _ _ ?_
                            clear hK K
                            refine wpAnyH_take (i := 11) (v := .agg #[.int .i64 1, .bool false, .bool false, .iface 83 (.agg #[.pointer (some ⟨P, 0, none⟩), .int .i64 0, .int .i64 4611686018427387903, .int .i64 0])]) rfl (by kernel_rfl) (by kernel_rfl) (by kernel_rfl) (fun _ _ _ h => h) (Or.inl ⟨by rfl, by intro w hs; go_simp⟩) hHeld ?_
                            refine norm_any' (fun K hK => ?_)
                            go_simp
                            refine hK _ _ ?_
                            clear hK K
                            refine wpAnyH_ready (rs := [33]) (by kernel_rfl) (by simp) (AllReadyH.cons rfl (fun K hK => ?_) AllReadyH.nil)
                            go_simp
                            refine Calls.mono (free_r (some ⟨P, 2, none⟩) _) ?_
                            rintro e X2 ⟨rfl, hX2⟩
                            subst X2
                            refine hK.out _ _ hHeld (fun hHeld => ?_)
                            clear hK K
                            refine norm_any' (fun K hK => ?_)
                            go_simp
                            refine hK _ _ ?_
                            clear hK K
                            refine wpAnyH_take (i := 34) (v := .agg #[.int .i64 4, .bool false, .bool false, .iface 83 (.agg #[.pointer (some ⟨P, 2, none⟩), .int .i64 0, .int .i64 4611686018427387903, .int .i64 0])]) rfl (by kernel_rfl) (by kernel_rfl) (by kernel_rfl) (fun _ _ _ h => h) (Or.inl ⟨by rfl, by intro w hs; go_simp⟩) hHeld ?_
                            refine norm_any' (fun K hK => ?_)
                            go_simp
                            refine hK _ _ ?_
                            clear hK K
                            refine wpAnyH_ready (rs := [39]) (by kernel_rfl) (by simp) (AllReadyH.cons rfl (fun K hK => ?_) AllReadyH.nil)
                            go_simp
                            refine Calls.mono (free_r (some ⟨P, 3, none⟩) _) ?_
                            rintro e X2 ⟨rfl, hX2⟩
                            subst X2
                            refine hK.out _ _ hHeld (fun hHeld => ?_)
                            clear hK K
                            refine norm_any' (fun K hK => ?_)
                            go_simp
                            refine hK _ _ ?_
                            clear hK K
                            refine wpAnyH_take (i := 40) (v := .agg #[.int .i64 5, .bool false, .bool false, .iface 83 (.agg #[.pointer (some ⟨P, 3, none⟩), .int .i64 0, .int .i64 4611686018427387903, .int .i64 0])]) rfl (by kernel_rfl) (by kernel_rfl) (by kernel_rfl) (fun _ _ _ h => h) (Or.inl ⟨by rfl, by intro w hs; go_simp⟩) hHeld ?_
                            refine norm_any' (fun K hK => ?_)
                            go_simp
                            refine hK _ _ ?_
                            clear hK K
                            as_aux_lemma =>
                              refine wpAnyH_ready (rs := [45]) (by kernel_rfl) (by simp) (AllReadyH.cons rfl (fun K hK => ?_) AllReadyH.nil)
                              go_simp
                              refine Calls.mono (free_r (some ⟨P, 4, none⟩) _) ?_
                              rintro e X2 ⟨rfl, hX2⟩
                              subst X2
                              refine hK.out _ _ hHeld (fun hHeld => ?_)
                              clear hK K
                              refine norm_any' (fun K hK => ?_)
                              go_simp
                              refine hK _ _ ?_
                              clear hK K
                              refine wpAnyH_take (i := 46) (v := .agg #[.int .i64 6, .bool false, .bool false, .iface 83 (.agg #[.pointer (some ⟨P, 4, none⟩), .int .i64 0, .int .i64 4611686018427387903, .int .i64 0])]) rfl (by kernel_rfl) (by kernel_rfl) (by kernel_rfl) (fun _ _ _ h => h) (Or.inl ⟨by rfl, by intro w hs; go_simp⟩) hHeld ?_
                              refine norm_any' (fun K hK => ?_)
                              go_simp
                              refine hK _ _ ?_
                              clear hK K
                              refine wpAnyH_ready (rs := [51]) (by kernel_rfl) (by simp) (AllReadyH.cons rfl (fun K hK => ?_) AllReadyH.nil)
                              go_simp
                              refine Calls.mono (free_r (some ⟨P, 5, none⟩) _) ?_
                              rintro e X2 ⟨rfl, hX2⟩
                              subst X2
                              refine hK.out _ _ hHeld (fun hHeld => ?_)
                              clear hK K
                              refine norm_any' (fun K hK => ?_)
                              go_simp
                              refine hK _ _ ?_
                              clear hK K
                              refine wpAnyH_take (i := 52) (v := .agg #[.int .i64 7, .bool false, .bool false, .iface 83 (.agg #[.pointer (some ⟨P, 5, none⟩), .int .i64 0, .int .i64 4611686018427387903, .int .i64 0])]) rfl (by kernel_rfl) (by kernel_rfl) (by kernel_rfl) (fun _ _ _ h => h) (Or.inl ⟨by rfl, by intro w hs; go_simp⟩) hHeld ?_
                              refine norm_any' (fun K hK => ?_)
                              go_simp
                              refine hK _ _ ?_
                              clear hK K
                              refine wpAnyH_ready (rs := [115]) (by kernel_rfl) (by simp) (AllReadyH.cons rfl (fun K hK => ?_) AllReadyH.nil)
                              go_simp
                              refine Calls.mono (free_r (some ⟨P, 12, none⟩) _) ?_
                              rintro e X2 ⟨rfl, hX2⟩
                              subst X2
                              refine hK.out _ _ hHeld (fun hHeld => ?_)
                              clear hK K
                              refine norm_any' (fun K hK => ?_)
                              go_simp
                              refine hK _ _ ?_
                              clear hK K
                              refine wpAnyH_take (i := 116) (v := .agg #[.int .i64 32, .bool false, .bool false, .iface 83 (.agg #[.pointer (some ⟨P, 12, none⟩), .int .i64 0, .int .i64 4611686018427387903, .int .i64 0])]) rfl (by kernel_rfl) (by kernel_rfl) (by kernel_rfl) (fun _ _ _ h => h) (Or.inl ⟨by rfl, by intro w hs; go_simp⟩) hHeld ?_
                              refine norm_any' (fun K hK => ?_)
                              go_simp
                              refine hK _ _ ?_
                              clear hK K
                              refine wpAnyH_ready (rs := [117]) (by kernel_rfl) (by simp) (AllReadyH.cons rfl (fun K hK => ?_) AllReadyH.nil)
                              refine step_bsP P rfl rfl (by kernel_rfl) (by kernel_rfl) (by kernel_rfl) (by kernel_rfl) (by kernel_rfl) (by kernel_rfl) (by kernel_rfl) (by kernel_rfl) (by kernel_rfl) (by kernel_rfl) (by kernel_rfl) (by kernel_rfl) (by kernel_rfl) (by kernel_rfl) (by kernel_rfl) (by kernel_rfl) (by kernel_rfl) ?_
                              refine hK.out _ _ ⟨cell_bel g1 (bel1 _ _), cell_bel g8 (bel1 _ _), cell_bel g9 (bel1 _ _), cell_bel g11 (bel1 _ _)⟩ (fun hHeld => ?_)
                              clear hK K
                              obtain ⟨W4, hW4⟩ : ∃ W4, W3.drew.alloc (.cells ((rowsV P).flatMap fun v => v.cells.toList).toArray 58) = W4 := ⟨_, rfl⟩
                              have HE : Aside (W4.heap[W3.drew.heap.size]? = some (.cells ((rowsV P).flatMap fun v => v.cells.toList).toArray 58 (0, 0)) ∧ Below w.heap.size w W4) := by
                                rw [← hW4]; exact ⟨heap_alloc_new _ _, (HB3.out.drew).trans ((bel1 _ _).mono HB3.out.size)⟩
                              rw [hW4] at hHeld ⊢
                              clear hW4
                              obtain ⟨GG, hGG⟩ : ∃ GG, W3.drew.heap.size = GG := ⟨_, rfl⟩
                              rw [hGG] at HE ⊢
                              clear hGG
                              refine norm_any' (fun K hK => ?_)
                              go_simp
                              refine hK _ _ ?_
                              clear hK K
                              refine wpAnyH_take (i := 118) (v := .slice (some ⟨GG, 0, none⟩) 17 17) rfl (by kernel_rfl) (by kernel_rfl) (by kernel_rfl) (fun _ _ _ h => h) (Or.inl ⟨by rfl, by intro w hs; go_simp⟩) hHeld ?_
                              refine norm_any' (fun K hK => ?_)
                              go_simp
                              refine hK _ _ ?_
                              clear hK K
                              skip
                              refine wpAnyH_done (by kernel_rfl) ?_ _
                              clear hHeld
                              go_wp2
                              go_ret
                              exact ⟨_, rfl, HE.out⟩
end Go.Proofs.YtcppnellgkbndaaDoor
