/- params: what the methods of values answer: numerals, identifiers, flags, tokens. -/
import Derived.Test.YtcppnellgkbndaaDoorPuts
import Derived.Test.YtcppnellgkbndaaDoorZeros
import Derived.Deep.RegionHeld3
import Derived.Deep.LoopGhost
import Derived.Laws.StructEq
namespace Go.Proofs.YtcppnellgkbndaaDoor
open Go.ChangeShapes Go.WideShapes Go.ChangeAt Go.RowKit
set_option linter.unusedVariables false
set_option maxRecDepth 100000

theorem norm_any' {φ : Act → World → Prop} {a : Act} {w : World} (h : ∀ K : Act → World → Prop, (∀ a w, φ a w → K a w) → K a w) : φ a w := h φ (fun _ _ h => h)
theorem bel1 (w : World) (o : Obj) : Below w.heap.size w (w.alloc o) := (Below.refl _ w).alloc (Nat.le_refl _) o
theorem bel_trans {a b c : World} (h : Below a.heap.size a b) (k : Below b.heap.size b c) : Below a.heap.size a c := h.trans (k.mono h.size)
theorem cell_bel {w w' : World} {b j : Nat} {v : Value} (h : w.cell? ⟨b, j, none⟩ = some v) (hb : Below w.heap.size w w') : w'.cell? ⟨b, j, none⟩ = some v := by
  rw [hb.cell (p := ⟨b, j, none⟩) (World.block_lt_of_cell? _ _ h)]; exact h
theorem cell_new (w : World) (cs : Array Value) (t : TypeId) (j : Nat) (v : Value) (h : cs[j]? = some v) : (w.alloc (.cells cs t)).cell? ⟨w.heap.size, j, none⟩ = some v := by
  unfold World.cell?
  rw [heap_alloc_new w (.cells cs t)]
  simpa using h
/-- A numeral's value, over the cell of a number. -/
def numV (b j : Nat) (lo hi un : Int) : Value := .agg #[.pointer (some ⟨b, j, none⟩), .int .i64 lo, .int .i64 hi, .int .i64 un]
set_option maxHeartbeats 1000000 in
theorem num_allowed (b j : Nat) (lo hi un x : Int) (w : World) (h : w.cell? ⟨b, j, none⟩ = some (.int .i64 x)) : Calls Tryd.prog 75 #[numV b j lo hi un] w fun e w' => e = .returned (.bool (decide (lo ≤ x ∧ x ≤ hi))) ∧ Below w.heap.size w w' := by
  obtain ⟨W1, hW1⟩ : ∃ W1, w.alloc (.cells #[.pointer (some ⟨b, j, none⟩), .int .i64 lo, .int .i64 hi, .int .i64 un] 83) = W1 := ⟨_, rfl⟩
  have hr : W1.heap[w.heap.size]? = some (.cells #[.pointer (some ⟨b, j, none⟩), .int .i64 lo, .int .i64 hi, .int .i64 un] 83 (0, 0)) := by rw [← hW1]; exact heap_alloc_new w _
  have HB : Aside (Below w.heap.size w W1.drew) := by show Below _ _ _; rw [← hW1]; exact (bel1 w _).drew
  have d0 : W1.drew.cell? ⟨w.heap.size, 0, none⟩ = some (.pointer (some ⟨b, j, none⟩)) := by show W1.cell? _ = _; simp [World.cell?, hr]
  have d1 : W1.drew.cell? ⟨w.heap.size, 1, none⟩ = some (.int .i64 lo) := by show W1.cell? _ = _; simp [World.cell?, hr]
  have d2 : W1.drew.cell? ⟨w.heap.size, 2, none⟩ = some (.int .i64 hi) := by show W1.cell? _ = _; simp [World.cell?, hr]
  have dx : W1.drew.cell? ⟨b, j, none⟩ = some (.int .i64 x) := by rw [← hW1]; exact cell_bel h (bel1 w _).drew
  clear h hr
  unfold numV
  by_cases h1 : lo ≤ x
  · rw [show decide (lo ≤ x ∧ x ≤ hi) = decide (x ≤ hi) by simp [h1]]
    go_enter Tryd.func75, Tryd.ntmps75
    go_wp2_with fail
    go_region_held3 (fun X => X.cell? ⟨w.heap.size, 0, none⟩ = some (.pointer (some ⟨b, j, none⟩)) ∧ X.cell? ⟨w.heap.size, 1, none⟩ = some (.int .i64 lo) ∧ X.cell? ⟨w.heap.size, 2, none⟩ = some (.int .i64 hi) ∧ X.cell? ⟨b, j, none⟩ = some (.int .i64 x)) (exact ⟨d0, d1, d2, dx⟩) (fail)
    go_wp2
    go_ret
    exact ⟨rfl, HB.out⟩
  · rw [show decide (lo ≤ x ∧ x ≤ hi) = false by simp [h1]]
    have h1d : decide (lo ≤ x) = false := decide_eq_false h1
    go_enter Tryd.func75, Tryd.ntmps75
    go_wp2_with fail
    refine wp_region_held_drew (S := fun X => X.cell? ⟨w.heap.size, 0, none⟩ = some (.pointer (some ⟨b, j, none⟩)) ∧ X.cell? ⟨w.heap.size, 1, none⟩ = some (.int .i64 lo) ∧ X.cell? ⟨b, j, none⟩ = some (.int .i64 x)) (by kernel_rfl) ⟨d0, d1, dx⟩ (fun hHeld => ?_)
    refine wpAnyH_take (i := 0) (v := .pointer (some ⟨w.heap.size, 0, none⟩)) rfl (by kernel_rfl) (by kernel_rfl) (by kernel_rfl) (fun _ _ _ h => h) (Or.inl ⟨by rfl, by intro w hs; go_simp⟩) hHeld ?_
    refine norm_any' (fun K hK => ?_)
    go_simp
    refine hK _ _ ?_
    clear hK K
    refine wpAnyH_take (i := 1) (v := .pointer (some ⟨b, j, none⟩)) rfl (by kernel_rfl) (by kernel_rfl) (by kernel_rfl) (fun _ _ _ h => h) (Or.inl ⟨by rfl, by rintro w ⟨s0, s1, s2⟩; go_simp⟩) hHeld ?_
    refine norm_any' (fun K hK => ?_)
    go_simp
    refine hK _ _ ?_
    clear hK K
    refine wpAnyH_take (i := 2) (v := .pointer (some ⟨b, j, none⟩)) rfl (by kernel_rfl) (by kernel_rfl) (by kernel_rfl) (fun _ _ _ h => h) (Or.inl ⟨by rfl, by intro w hs; go_simp⟩) hHeld ?_
    refine norm_any' (fun K hK => ?_)
    go_simp
    refine hK _ _ ?_
    clear hK K
    refine wpAnyH_take (i := 3) (v := .int .i64 x) rfl (by kernel_rfl) (by kernel_rfl) (by kernel_rfl) (fun _ _ _ h => h) (Or.inl ⟨by rfl, by rintro w ⟨s0, s1, s2⟩; go_simp⟩) hHeld ?_
    refine norm_any' (fun K hK => ?_)
    go_simp
    refine hK _ _ ?_
    clear hK K
    refine wpAnyH_take (i := 4) (v := .pointer (some ⟨w.heap.size, 1, none⟩)) rfl (by kernel_rfl) (by kernel_rfl) (by kernel_rfl) (fun _ _ _ h => h) (Or.inl ⟨by rfl, by intro w hs; go_simp⟩) hHeld ?_
    refine norm_any' (fun K hK => ?_)
    go_simp
    refine hK _ _ ?_
    clear hK K
    refine wpAnyH_take (i := 5) (v := .int .i64 lo) rfl (by kernel_rfl) (by kernel_rfl) (by kernel_rfl) (fun _ _ _ h => h) (Or.inl ⟨by rfl, by rintro w ⟨s0, s1, s2⟩; go_simp⟩) hHeld ?_
    refine norm_any' (fun K hK => ?_)
    go_simp
    refine hK _ _ ?_
    clear hK K
    refine wpAnyH_take (i := 6) (v := .bool false) rfl (by kernel_rfl) (by kernel_rfl) (by kernel_rfl) (fun _ _ _ h => h) (Or.inl ⟨by rfl, by intro w hs; go_simp⟩) hHeld ?_
    refine norm_any' (fun K hK => ?_)
    go_simp
    refine hK _ _ ?_
    clear hK K
    refine wpAnyH_take (i := 7) (v := .bool false) rfl (by kernel_rfl) (by kernel_rfl) (by kernel_rfl) (fun _ _ _ h => h) (Or.inl ⟨by rfl, by intro w hs; go_simp⟩) hHeld ?_
    refine norm_any' (fun K hK => ?_)
    go_simp
    refine hK _ _ ?_
    clear hK K
    refine wpAnyH_take (i := 8) (v := undef) rfl (by kernel_rfl) (by kernel_rfl) (by kernel_rfl) (fun _ _ _ h => h) (Or.inr ⟨by rfl, rfl⟩) hHeld ?_
    refine norm_any' (fun K hK => ?_)
    go_simp
    refine hK _ _ ?_
    clear hK K
    refine wpAnyH_take (i := 9) (v := undef) rfl (by kernel_rfl) (by kernel_rfl) (by kernel_rfl) (fun _ _ _ h => h) (Or.inr ⟨by rfl, rfl⟩) hHeld ?_
    refine norm_any' (fun K hK => ?_)
    go_simp
    refine hK _ _ ?_
    clear hK K
    refine wpAnyH_take (i := 10) (v := undef) rfl (by kernel_rfl) (by kernel_rfl) (by kernel_rfl) (fun _ _ _ h => h) (Or.inr ⟨by rfl, rfl⟩) hHeld ?_
    refine norm_any' (fun K hK => ?_)
    go_simp
    refine hK _ _ ?_
    clear hK K
    refine wpAnyH_take (i := 11) (v := undef) rfl (by kernel_rfl) (by kernel_rfl) (by kernel_rfl) (fun _ _ _ h => h) (Or.inr ⟨by rfl, rfl⟩) hHeld ?_
    refine norm_any' (fun K hK => ?_)
    go_simp
    refine hK _ _ ?_
    clear hK K
    refine wpAnyH_take (i := 12) (v := undef) rfl (by kernel_rfl) (by kernel_rfl) (by kernel_rfl) (fun _ _ _ h => h) (Or.inr ⟨by rfl, rfl⟩) hHeld ?_
    refine norm_any' (fun K hK => ?_)
    go_simp
    refine hK _ _ ?_
    clear hK K
    refine wpAnyH_take (i := 13) (v := undef) rfl (by kernel_rfl) (by kernel_rfl) (by kernel_rfl) (fun _ _ _ h => h) (Or.inr ⟨by rfl, rfl⟩) hHeld ?_
    refine norm_any' (fun K hK => ?_)
    go_simp
    refine hK _ _ ?_
    clear hK K
    refine wpAnyH_take (i := 14) (v := undef) rfl (by kernel_rfl) (by kernel_rfl) (by kernel_rfl) (fun _ _ _ h => h) (Or.inr ⟨by rfl, rfl⟩) hHeld ?_
    refine norm_any' (fun K hK => ?_)
    go_simp
    refine hK _ _ ?_
    clear hK K
    refine wpAnyH_take (i := 15) (v := .bool false) rfl (by kernel_rfl) (by kernel_rfl) (by kernel_rfl) (fun _ _ _ h => h) (Or.inl ⟨by rfl, by intro w hs; go_simp⟩) hHeld ?_
    refine norm_any' (fun K hK => ?_)
    go_simp
    refine hK _ _ ?_
    clear hK K
    refine wpAnyH_take (i := 16) (v := .bool false) rfl (by kernel_rfl) (by kernel_rfl) (by kernel_rfl) (fun _ _ _ h => h) (Or.inl ⟨by rfl, by intro w hs; go_simp⟩) hHeld ?_
    refine norm_any' (fun K hK => ?_)
    go_simp
    refine hK _ _ ?_
    clear hK K
    refine wpAnyH_done (by kernel_rfl) ?_ _
    clear hHeld
    go_wp2
    go_ret
    exact ⟨rfl, HB.out⟩
theorem num_there (b j : Nat) (lo hi un x : Int) (w : World) (h : w.cell? ⟨b, j, none⟩ = some (.int .i64 x)) : Calls Tryd.prog 78 #[numV b j lo hi un] w fun e w' => e = .returned (.bool (!(x == un))) ∧ Below w.heap.size w w' := by
  obtain ⟨W1, hW1⟩ : ∃ W1, w.alloc (.cells #[.pointer (some ⟨b, j, none⟩), .int .i64 lo, .int .i64 hi, .int .i64 un] 83) = W1 := ⟨_, rfl⟩
  have hr : W1.heap[w.heap.size]? = some (.cells #[.pointer (some ⟨b, j, none⟩), .int .i64 lo, .int .i64 hi, .int .i64 un] 83 (0, 0)) := by rw [← hW1]; exact heap_alloc_new w _
  have HB : Aside (Below w.heap.size w W1.drew) := by show Below _ _ _; rw [← hW1]; exact (bel1 w _).drew
  have d0 : W1.drew.cell? ⟨w.heap.size, 0, none⟩ = some (.pointer (some ⟨b, j, none⟩)) := by show W1.cell? _ = _; simp [World.cell?, hr]
  have d3 : W1.drew.cell? ⟨w.heap.size, 3, none⟩ = some (.int .i64 un) := by show W1.cell? _ = _; simp [World.cell?, hr]
  have dx : W1.drew.cell? ⟨b, j, none⟩ = some (.int .i64 x) := by rw [← hW1]; exact cell_bel h (bel1 w _).drew
  clear h hr
  unfold numV
  go_enter Tryd.func78, Tryd.ntmps78
  go_wp2_with fail
  go_region_held3 (fun X => X.cell? ⟨w.heap.size, 0, none⟩ = some (.pointer (some ⟨b, j, none⟩)) ∧ X.cell? ⟨w.heap.size, 3, none⟩ = some (.int .i64 un) ∧ X.cell? ⟨b, j, none⟩ = some (.int .i64 x)) (exact ⟨d0, d3, dx⟩) (fail)
  go_wp2
  go_ret
  exact ⟨rfl, HB.out⟩
/-- An identifier's value, over the cell of bytes. -/
def idV (b j : Nat) : Value := .agg #[.pointer (some ⟨b, j, none⟩)]
section
variable (b j : Nat) (o : Option Addr) (n c : Nat) (w : World)
theorem id_cells (h : w.cell? ⟨b, j, none⟩ = some (.slice o n c)) : ∃ W1, w.alloc (.cells #[.pointer (some ⟨b, j, none⟩)] 87) = W1 ∧ Aside (Below w.heap.size w W1) ∧ W1.cell? ⟨w.heap.size, 0, none⟩ = some (.pointer (some ⟨b, j, none⟩)) ∧ W1.cell? ⟨b, j, none⟩ = some (.slice o n c) := by
  exact ⟨_, rfl, bel1 w _, cell_new w _ 87 0 _ rfl, cell_bel h (bel1 w _)⟩
theorem id_allowed (h : w.cell? ⟨b, j, none⟩ = some (.slice o n c)) : Calls Tryd.prog 79 #[idV b j] w fun e w' => e = .returned (.bool (decide (n ≤ 20))) ∧ Below w.heap.size w w' := by
  obtain ⟨W1, hW1, HB, d0, dx⟩ := id_cells b j o n c w h
  clear h
  unfold idV
  go_enter Tryd.func79, Tryd.ntmps79
  go_wp2
  go_ret
  refine ⟨?_, HB.out⟩
  first | rfl | (congr 2; simp; omega)
theorem id_there (h : w.cell? ⟨b, j, none⟩ = some (.slice o n c)) : Calls Tryd.prog 82 #[idV b j] w fun e w' => e = .returned (.bool (decide (0 < n))) ∧ Below w.heap.size w w' := by
  obtain ⟨W1, hW1, HB, d0, dx⟩ := id_cells b j o n c w h
  clear h
  unfold idV
  go_enter Tryd.func82, Tryd.ntmps82
  go_wp2
  go_ret
  refine ⟨?_, HB.out⟩
  first | rfl | (congr 2; simp; omega)
theorem id_bytes (h : w.cell? ⟨b, j, none⟩ = some (.slice o n c)) : Calls Tryd.prog 80 #[idV b j] w fun e w' => e = .returned (.slice o n c) ∧ Below w.heap.size w w' := by
  obtain ⟨W1, hW1, HB, d0, dx⟩ := id_cells b j o n c w h
  clear h
  unfold idV
  go_enter Tryd.func80, Tryd.ntmps80
  go_wp2
  go_ret
  exact ⟨rfl, HB.out⟩
end
/-- A flag's value. -/
def flagV (b j : Nat) : Value := .agg #[.pointer (some ⟨b, j, none⟩)]
theorem flag_allowed (b j : Nat) (w : World) : Calls Tryd.prog 88 #[flagV b j] w fun e w' => e = .returned (.bool true) ∧ Below w.heap.size w w' := by
  have HB : Aside (Below w.heap.size w (w.alloc (.cells #[.pointer (some ⟨b, j, none⟩)] 93))) := bel1 w _
  unfold flagV
  go_enter Tryd.func88, Tryd.ntmps88
  go_wp2
  go_ret
  exact ⟨rfl, HB.out⟩
theorem flag_bytes (b j : Nat) (w : World) : Calls Tryd.prog 89 #[flagV b j] w fun e w' => e = .returned (.slice none 0 0) ∧ Below w.heap.size w w' := by
  have HB : Aside (Below w.heap.size w (w.alloc (.cells #[.pointer (some ⟨b, j, none⟩)] 93))) := bel1 w _
  unfold flagV
  go_enter Tryd.func89, Tryd.ntmps89
  go_wp2
  go_ret
  exact ⟨rfl, HB.out⟩
theorem flag_there (b j : Nat) (x : Bool) (w : World) (h : w.cell? ⟨b, j, none⟩ = some (.bool x)) : Calls Tryd.prog 91 #[flagV b j] w fun e w' => e = .returned (.bool x) ∧ Below w.heap.size w w' := by
  obtain ⟨W1, hW1⟩ : ∃ W1, w.alloc (.cells #[.pointer (some ⟨b, j, none⟩)] 93) = W1 := ⟨_, rfl⟩
  have HB : Aside (Below w.heap.size w W1) := by show Below _ _ _; rw [← hW1]; exact bel1 w _
  have d0 : W1.cell? ⟨w.heap.size, 0, none⟩ = some (.pointer (some ⟨b, j, none⟩)) := by rw [← hW1]; exact cell_new w _ 93 0 _ rfl
  have dx : W1.cell? ⟨b, j, none⟩ = some (.bool x) := by rw [← hW1]; exact cell_bel h (bel1 w _)
  clear h
  unfold flagV
  go_enter Tryd.func91, Tryd.ntmps91
  go_wp2
  go_ret
  exact ⟨rfl, HB.out⟩
end Go.Proofs.YtcppnellgkbndaaDoor
