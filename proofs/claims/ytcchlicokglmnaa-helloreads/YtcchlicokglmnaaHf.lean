/- The putter's flags. -/
import Derived.Test.YtcchlicokglmnaaHs
import Derived.LoopN
namespace Go.Proofs.Ytcchlicokglmnaa
open Go.ChangeShapes Go.WideShapes Go.ChangeAt Go.RowKit Go.Lib
set_option linter.unusedVariables false

theorem alloc_c {w : World} (o : Value) (t : Nat) : (w.alloc (.cells #[o] t)).cell? ⟨w.heap.size, 0, none⟩ = some o := by unfold World.cell?; rw [heap_alloc_new]; rfl
/-- The box of bits as it lies. -/
structure Bx (w W : World) (x : Int) : Prop where
  bel : Below w.heap.size w W
  row : W.heap[w.heap.size]? = some (.cells #[.int .i64 x] 3 (0, 0))
theorem Bx.cell {w W : World} {x : Int} (h : Bx w W x) : W.cell? ⟨w.heap.size, 0, none⟩ = some (.int .i64 x) := by unfold World.cell?; rw [h.row]; rfl
theorem Bx.fr {w W : World} {x : Int} (h : Bx w W x) : W.frozen? ⟨w.heap.size, 0, none⟩ = false := by unfold World.frozen?; rw [h.row]; rfl
theorem Bx.old {w W : World} {x : Int} (h : Bx w W x) {b j : Nat} {v : Value} (hc : w.cell? ⟨b, j, none⟩ = some v) : W.cell? ⟨b, j, none⟩ = some v := (h.bel.cell (p := ⟨b, j, none⟩) (World.block_lt_of_cell? w _ hc)).trans hc
theorem Bx.new (w : World) : Bx w (w.alloc (.cells #[.int .i64 0] 3)) 0 := ⟨(Below.refl _ w).alloc (Nat.le_refl _) _, heap_alloc_new w _⟩
theorem Bx.set {w W : World} {x : Int} (h : Bx w W x) (y : Int) : Bx w (W.setCell ⟨w.heap.size, 0, none⟩ (.int .i64 y)).drew y :=
  ⟨(h.bel.setCell (Nat.le_refl _) _).drew, by show (W.setCell _ _).heap[_]? = _; rw [heap_setCell_same W w.heap.size 0 _ 3 _ h.row]; rfl⟩
section
variable {w : World} {p B : Nat} {v : Value} {X : List UInt8} {r : Bool}
set_option maxRecDepth 10000 in
set_option maxHeartbeats 1000000 in
theorem flags1_c (h : Pu w p B v X r) (hB : B ≤ w.heap.size) (hX : X.length ≤ 900000) (k : Nat) (q0 j0 : Nat) (b0 : Bool) (hk : w.heap[k]? = some (.cells #[.pointer (some ⟨q0, j0, none⟩)] 84 (0, 0))) (hq0 : w.cell? ⟨q0, j0, none⟩ = some (.bool b0)) :
    Calls Try.prog 55 #[.pointer (some ⟨p, 0, none⟩), .slice (some ⟨k, 0, none⟩) 1 1] w (PuR p B (X ++ [UInt8.ofNat ((if b0 then 1 else 0))]) r w) := by
  have HN : Hid (∀ (W : World) (x : Int), 0 ≤ x → x ≤ 1 → Bx w W x → Calls Try.prog 58 #[.pointer (some ⟨p, 0, none⟩), .pointer (some ⟨w.heap.size, 0, none⟩), .int .i64 1, .int .i64 0, .int .i64 1] W (PuR p B (X ++ be 1 (uN x)) r W)) := fun W x h0 h1 hb => by
    have := number_c (h.below hb.bel) (Nat.le_trans hB hb.bel.size) (by omega) w.heap.size 0 x hb.cell (by have := lt_block h.row; omega) 1 (by omega) (by omega) 0 1 true (by simp; omega)
    simpa using this
  have hk0 : w.cell? ⟨k, 0, none⟩ = some (.pointer (some ⟨q0, j0, none⟩)) := by unfold World.cell?; rw [hk]; rfl
  have o1 : bits .or .i64 0 1 = 1 := by rfl
  have o2 : bits .or .i64 0 2 = 2 := by rfl
  have o3 : bits .or .i64 1 2 = 3 := by rfl
  have HX : Hid _ := Bx.new w
  clear h hk
  obtain ⟨W1, hW1⟩ : ∃ W1, W1 = w.alloc (.cells #[.int .i64 0] 3) := ⟨_, rfl⟩
  rw [← hW1] at HX
  have HW : Hid _ := hW1
  clear hW1
  cases b0
  · go_enter Try.func55, Try.ntmps55
    go_wp2_with fail
    rw [← HW.out]
    refine wp_loop_rounds 2 ?_
    have k0_ := HX.out.old hk0
    have q0_ := HX.out.old hq0
    have b_ := HX.out.cell
    have f_ := HX.out.fr
    rw [rounds_succ]
    go_wp2_with fail
    clear k0_ q0_ b_ f_
    rw [rounds_succ]
    go_wp2_with fail
    refine (HN.out W1 0 (by decide) (by decide) HX.out).mono ?_
    rintro e w2 ⟨rfl, hp, hg⟩
    have HP : Hid _ := hp
    have HG : Hid (Gr p B w w2) := (Gr.of_below HX.out.bel).trans hg
    clear hp hg
    go_wp2_with fail
    go_end0
    exact ⟨rfl, HP.out, HG.out⟩
  · go_enter Try.func55, Try.ntmps55
    go_wp2_with fail
    rw [← HW.out]
    refine wp_loop_rounds 2 ?_
    have k0_ := HX.out.old hk0
    have q0_ := HX.out.old hq0
    have b_ := HX.out.cell
    have f_ := HX.out.fr
    rw [rounds_succ]
    go_wp2_with fail
    go_region
    have HX2 : Hid (Bx w (W1.setCell ⟨w.heap.size, 0, none⟩ (.int .i64 1)).drew 1) := HX.out.set 1
    clear HX k0_ q0_ b_ f_
    try rw [o1]
    generalize (W1.setCell ⟨w.heap.size, 0, none⟩ (.int .i64 1)).drew = V0 at *
    have HX : Hid _ := HX2.out
    clear HX2
    go_wp2_with fail
    rw [rounds_succ]
    go_wp2_with fail
    refine (HN.out V0 1 (by decide) (by decide) HX.out).mono ?_
    rintro e w2 ⟨rfl, hp, hg⟩
    have HP : Hid _ := hp
    have HG : Hid (Gr p B w w2) := (Gr.of_below HX.out.bel).trans hg
    clear hp hg
    go_wp2_with fail
    go_end0
    exact ⟨rfl, HP.out, HG.out⟩
set_option maxRecDepth 10000 in
set_option maxHeartbeats 1000000 in
theorem flags2_c (h : Pu w p B v X r) (hB : B ≤ w.heap.size) (hX : X.length ≤ 900000) (k : Nat) (q0 j0 : Nat) (b0 : Bool) (q1 j1 : Nat) (b1 : Bool) (hk : w.heap[k]? = some (.cells #[.pointer (some ⟨q0, j0, none⟩), .pointer (some ⟨q1, j1, none⟩)] 84 (0, 0))) (hq0 : w.cell? ⟨q0, j0, none⟩ = some (.bool b0)) (hq1 : w.cell? ⟨q1, j1, none⟩ = some (.bool b1)) :
    Calls Try.prog 55 #[.pointer (some ⟨p, 0, none⟩), .slice (some ⟨k, 0, none⟩) 2 2] w (PuR p B (X ++ [UInt8.ofNat ((if b0 then 1 else 0) + (if b1 then 2 else 0))]) r w) := by
  have HN : Hid (∀ (W : World) (x : Int), 0 ≤ x → x ≤ 3 → Bx w W x → Calls Try.prog 58 #[.pointer (some ⟨p, 0, none⟩), .pointer (some ⟨w.heap.size, 0, none⟩), .int .i64 1, .int .i64 0, .int .i64 3] W (PuR p B (X ++ be 1 (uN x)) r W)) := fun W x h0 h1 hb => by
    have := number_c (h.below hb.bel) (Nat.le_trans hB hb.bel.size) (by omega) w.heap.size 0 x hb.cell (by have := lt_block h.row; omega) 1 (by omega) (by omega) 0 3 true (by simp; omega)
    simpa using this
  have hk0 : w.cell? ⟨k, 0, none⟩ = some (.pointer (some ⟨q0, j0, none⟩)) := by unfold World.cell?; rw [hk]; rfl
  have hk1 : w.cell? ⟨k, 1, none⟩ = some (.pointer (some ⟨q1, j1, none⟩)) := by unfold World.cell?; rw [hk]; rfl
  have o1 : bits .or .i64 0 1 = 1 := by rfl
  have o2 : bits .or .i64 0 2 = 2 := by rfl
  have o3 : bits .or .i64 1 2 = 3 := by rfl
  have HX : Hid _ := Bx.new w
  clear h hk
  obtain ⟨W1, hW1⟩ : ∃ W1, W1 = w.alloc (.cells #[.int .i64 0] 3) := ⟨_, rfl⟩
  rw [← hW1] at HX
  have HW : Hid _ := hW1
  clear hW1
  cases b0 <;> cases b1
  · go_enter Try.func55, Try.ntmps55
    go_wp2_with fail
    rw [← HW.out]
    refine wp_loop_rounds 3 ?_
    have k0_ := HX.out.old hk0
    have q0_ := HX.out.old hq0
    have k1_ := HX.out.old hk1
    have q1_ := HX.out.old hq1
    have b_ := HX.out.cell
    have f_ := HX.out.fr
    rw [rounds_succ]
    go_wp2_with fail
    clear k0_ q0_ k1_ q1_ b_ f_
    have k0_ := HX.out.old hk0
    have q0_ := HX.out.old hq0
    have k1_ := HX.out.old hk1
    have q1_ := HX.out.old hq1
    have b_ := HX.out.cell
    have f_ := HX.out.fr
    rw [rounds_succ]
    go_wp2_with fail
    clear k0_ q0_ k1_ q1_ b_ f_
    rw [rounds_succ]
    go_wp2_with fail
    refine (HN.out W1 0 (by decide) (by decide) HX.out).mono ?_
    rintro e w2 ⟨rfl, hp, hg⟩
    have HP : Hid _ := hp
    have HG : Hid (Gr p B w w2) := (Gr.of_below HX.out.bel).trans hg
    clear hp hg
    go_wp2_with fail
    go_end0
    exact ⟨rfl, HP.out, HG.out⟩
  · go_enter Try.func55, Try.ntmps55
    go_wp2_with fail
    rw [← HW.out]
    refine wp_loop_rounds 3 ?_
    have k0_ := HX.out.old hk0
    have q0_ := HX.out.old hq0
    have k1_ := HX.out.old hk1
    have q1_ := HX.out.old hq1
    have b_ := HX.out.cell
    have f_ := HX.out.fr
    rw [rounds_succ]
    go_wp2_with fail
    clear k0_ q0_ k1_ q1_ b_ f_
    have k0_ := HX.out.old hk0
    have q0_ := HX.out.old hq0
    have k1_ := HX.out.old hk1
    have q1_ := HX.out.old hq1
    have b_ := HX.out.cell
    have f_ := HX.out.fr
    rw [rounds_succ]
    go_wp2_with fail
    go_region
    have HX2 : Hid (Bx w (W1.setCell ⟨w.heap.size, 0, none⟩ (.int .i64 2)).drew 2) := HX.out.set 2
    clear HX k0_ q0_ k1_ q1_ b_ f_
    try rw [o2]
    generalize (W1.setCell ⟨w.heap.size, 0, none⟩ (.int .i64 2)).drew = V1 at *
    have HX : Hid _ := HX2.out
    clear HX2
    go_wp2_with fail
    rw [rounds_succ]
    go_wp2_with fail
    refine (HN.out V1 2 (by decide) (by decide) HX.out).mono ?_
    rintro e w2 ⟨rfl, hp, hg⟩
    have HP : Hid _ := hp
    have HG : Hid (Gr p B w w2) := (Gr.of_below HX.out.bel).trans hg
    clear hp hg
    go_wp2_with fail
    go_end0
    exact ⟨rfl, HP.out, HG.out⟩
  · go_enter Try.func55, Try.ntmps55
    go_wp2_with fail
    rw [← HW.out]
    refine wp_loop_rounds 3 ?_
    have k0_ := HX.out.old hk0
    have q0_ := HX.out.old hq0
    have k1_ := HX.out.old hk1
    have q1_ := HX.out.old hq1
    have b_ := HX.out.cell
    have f_ := HX.out.fr
    rw [rounds_succ]
    go_wp2_with fail
    go_region
    have HX2 : Hid (Bx w (W1.setCell ⟨w.heap.size, 0, none⟩ (.int .i64 1)).drew 1) := HX.out.set 1
    clear HX k0_ q0_ k1_ q1_ b_ f_
    try rw [o1]
    generalize (W1.setCell ⟨w.heap.size, 0, none⟩ (.int .i64 1)).drew = V0 at *
    have HX : Hid _ := HX2.out
    clear HX2
    go_wp2_with fail
    have k0_ := HX.out.old hk0
    have q0_ := HX.out.old hq0
    have k1_ := HX.out.old hk1
    have q1_ := HX.out.old hq1
    have b_ := HX.out.cell
    have f_ := HX.out.fr
    rw [rounds_succ]
    go_wp2_with fail
    clear k0_ q0_ k1_ q1_ b_ f_
    rw [rounds_succ]
    go_wp2_with fail
    refine (HN.out V0 1 (by decide) (by decide) HX.out).mono ?_
    rintro e w2 ⟨rfl, hp, hg⟩
    have HP : Hid _ := hp
    have HG : Hid (Gr p B w w2) := (Gr.of_below HX.out.bel).trans hg
    clear hp hg
    go_wp2_with fail
    go_end0
    exact ⟨rfl, HP.out, HG.out⟩
  · go_enter Try.func55, Try.ntmps55
    go_wp2_with fail
    rw [← HW.out]
    refine wp_loop_rounds 3 ?_
    have k0_ := HX.out.old hk0
    have q0_ := HX.out.old hq0
    have k1_ := HX.out.old hk1
    have q1_ := HX.out.old hq1
    have b_ := HX.out.cell
    have f_ := HX.out.fr
    rw [rounds_succ]
    go_wp2_with fail
    go_region
    have HX2 : Hid (Bx w (W1.setCell ⟨w.heap.size, 0, none⟩ (.int .i64 1)).drew 1) := HX.out.set 1
    clear HX k0_ q0_ k1_ q1_ b_ f_
    try rw [o1]
    generalize (W1.setCell ⟨w.heap.size, 0, none⟩ (.int .i64 1)).drew = V0 at *
    have HX : Hid _ := HX2.out
    clear HX2
    go_wp2_with fail
    have k0_ := HX.out.old hk0
    have q0_ := HX.out.old hq0
    have k1_ := HX.out.old hk1
    have q1_ := HX.out.old hq1
    have b_ := HX.out.cell
    have f_ := HX.out.fr
    rw [rounds_succ]
    go_wp2_with fail
    go_region
    have HX2 : Hid (Bx w (V0.setCell ⟨w.heap.size, 0, none⟩ (.int .i64 3)).drew 3) := HX.out.set 3
    clear HX k0_ q0_ k1_ q1_ b_ f_
    try rw [o3]
    generalize (V0.setCell ⟨w.heap.size, 0, none⟩ (.int .i64 3)).drew = V1 at *
    have HX : Hid _ := HX2.out
    clear HX2
    go_wp2_with fail
    rw [rounds_succ]
    go_wp2_with fail
    refine (HN.out V1 3 (by decide) (by decide) HX.out).mono ?_
    rintro e w2 ⟨rfl, hp, hg⟩
    have HP : Hid _ := hp
    have HG : Hid (Gr p B w w2) := (Gr.of_below HX.out.bel).trans hg
    clear hp hg
    go_wp2_with fail
    go_end0
    exact ⟨rfl, HP.out, HG.out⟩
end
end Go.Proofs.Ytcchlicokglmnaa
