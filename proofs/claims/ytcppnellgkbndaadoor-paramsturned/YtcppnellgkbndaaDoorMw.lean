/- params: what the methods of values answer: tokens, optional identifiers, a numeral's bytes. -/
import Derived.Test.YtcppnellgkbndaaDoorMv
namespace Go.Proofs.YtcppnellgkbndaaDoor
open Go.ChangeShapes Go.WideShapes Go.ChangeAt Go.RowKit
set_option linter.unusedVariables false
set_option maxRecDepth 100000

/-- A token's value: its bytes' first cell, and whether it is there. -/
def resetV (b j k : Nat) : Value := .agg #[.pointer (some ⟨b, j, none⟩), .pointer (some ⟨b, k, none⟩)]
theorem two_cells (b j k : Nat) (t : TypeId) (w : World) : ∃ W1, w.alloc (.cells #[.pointer (some ⟨b, j, none⟩), .pointer (some ⟨b, k, none⟩)] t) = W1 ∧ Below w.heap.size w W1 ∧ W1.cell? ⟨w.heap.size, 0, none⟩ = some (.pointer (some ⟨b, j, none⟩)) ∧ W1.cell? ⟨w.heap.size, 1, none⟩ = some (.pointer (some ⟨b, k, none⟩)) :=
  ⟨_, rfl, bel1 w _, cell_new w _ t 0 _ rfl, cell_new w _ t 1 _ rfl⟩
theorem reset_there (b j k : Nat) (x : Bool) (w : World) (h : w.cell? ⟨b, k, none⟩ = some (.bool x)) : Calls Tryd.prog 87 #[resetV b j k] w fun e w' => e = .returned (.bool x) ∧ Below w.heap.size w w' := by
  obtain ⟨W1, hW1, hB, d0, d1⟩ := two_cells b j k 91 w
  have HB : Aside (Below w.heap.size w W1) := hB
  have dx : W1.cell? ⟨b, k, none⟩ = some (.bool x) := cell_bel h hB
  clear h hB
  unfold resetV
  go_enter Tryd.func87, Tryd.ntmps87
  go_wp2
  go_ret
  exact ⟨rfl, HB.out⟩
theorem reset_bytes (b j k : Nat) (w : World) : Calls Tryd.prog 85 #[resetV b j k] w fun e w' => e = .returned (.slice (some ⟨b, j, none⟩) 16 16) ∧ Below w.heap.size w w' := by
  obtain ⟨W1, hW1, hB, d0, d1⟩ := two_cells b j k 91 w
  have HB : Aside (Below w.heap.size w W1) := hB
  clear hB
  unfold resetV
  go_enter Tryd.func85, Tryd.ntmps85
  go_wp2
  go_ret
  exact ⟨rfl, HB.out⟩
/-- An optional identifier's value. -/
def optV (b j k : Nat) : Value := .agg #[.pointer (some ⟨b, j, none⟩), .pointer (some ⟨b, k, none⟩)]
theorem opt_there (b j k : Nat) (x : Bool) (w : World) (h : w.cell? ⟨b, k, none⟩ = some (.bool x)) : Calls Tryd.prog 94 #[optV b j k] w fun e w' => e = .returned (.bool x) ∧ Below w.heap.size w w' := by
  obtain ⟨W1, hW1, hB, d0, d1⟩ := two_cells b j k 95 w
  have HB : Aside (Below w.heap.size w W1) := hB
  have dx : W1.cell? ⟨b, k, none⟩ = some (.bool x) := cell_bel h hB
  clear h hB
  unfold optV
  go_enter Tryd.func94, Tryd.ntmps94
  go_wp2
  go_ret
  exact ⟨rfl, HB.out⟩
theorem opt_allowed (b j k : Nat) (o : Option Addr) (n c : Nat) (x : Bool) (w : World) (h0 : w.cell? ⟨b, j, none⟩ = some (.slice o n c)) (h : w.cell? ⟨b, k, none⟩ = some (.bool x)) : Calls Tryd.prog 92 #[optV b j k] w fun e w' => e = .returned (.bool (decide (n ≤ 20) && (x || !decide (0 < n)))) ∧ Below w.heap.size w w' := by
  obtain ⟨W1, hW1, hB, d0, d1⟩ := two_cells b j k 95 w
  have ha := id_allowed b j o n c W1 (cell_bel h0 hB)
  have HB : Aside (Below w.heap.size w W1) := hB
  have HX : Aside (∀ X, Below W1.heap.size W1 X → X.cell? ⟨w.heap.size, 0, none⟩ = some (.pointer (some ⟨b, j, none⟩)) ∧ X.cell? ⟨w.heap.size, 1, none⟩ = some (.pointer (some ⟨b, k, none⟩)) ∧ X.cell? ⟨b, k, none⟩ = some (.bool x) ∧ X.cell? ⟨b, j, none⟩ = some (.slice o n c)) := fun X hX => ⟨cell_bel d0 hX, cell_bel d1 hX, cell_bel (cell_bel h hB) hX, cell_bel (cell_bel h0 hB) hX⟩
  clear h hB h0
  unfold optV
  by_cases hn : n ≤ 20
  · rw [decide_eq_true hn] at ha ⊢
    cases x with
    | true =>
      go_enter Tryd.func92, Tryd.ntmps92
      go_wp2_with fail
      refine ha.mono ?_
      rintro e W2 ⟨rfl, hb2⟩
      obtain ⟨e0, e1, ex, _⟩ := HX.out W2 hb2
      have HB2 : Aside (Below w.heap.size w W2) := HB.out.trans (hb2.mono HB.out.size)
      clear ha hb2 HX d0 d1 hW1
      go_wp2
      go_ret
      exact ⟨rfl, HB2.out⟩
    | false =>
      have HT : Aside (∀ X, X.cell? ⟨b, j, none⟩ = some (.slice o n c) → Calls Tryd.prog 82 #[idV b j] X fun e w' => e = .returned (.bool (decide (0 < n))) ∧ Below X.heap.size X w') := fun X hX => id_there b j o n c X hX
      generalize decide (0 < n) = y at *
      go_enter Tryd.func92, Tryd.ntmps92
      go_wp2_with fail
      refine ha.mono ?_
      rintro e W2 ⟨rfl, hb2⟩
      obtain ⟨e0, e1, ex, ej⟩ := HX.out W2 hb2
      have ht := HT.out W2 ej
      have HB2 : Aside (Below w.heap.size w W2) := HB.out.trans (hb2.mono HB.out.size)
      clear ha hb2 HX d0 d1 hW1 ej
      go_wp2_with fail
      refine ht.mono ?_
      rintro e W3 ⟨rfl, hb3⟩
      have HB3 : Aside (Below w.heap.size w W3) := HB2.out.trans (hb3.mono HB2.out.size)
      clear ht hb3 HT
      cases y <;> {
        go_wp2
        go_ret
        exact ⟨rfl, HB3.out⟩ }
  · rw [decide_eq_false hn] at ha ⊢
    go_enter Tryd.func92, Tryd.ntmps92
    go_wp2_with fail
    refine ha.mono ?_
    rintro e W2 ⟨rfl, hb2⟩
    have HB2 : Aside (Below w.heap.size w W2) := HB.out.trans (hb2.mono HB.out.size)
    clear ha hb2 HX d0 d1 hW1
    go_wp2
    go_ret
    exact ⟨rfl, HB2.out⟩
theorem num_bytes (b j : Nat) (lo hi un x : Int) (w : World) (ht : Tb w) (h : w.cell? ⟨b, j, none⟩ = some (.int .i64 x)) : Calls Tryd.prog 76 #[numV b j lo hi un] w fun e w' => ∃ v, e = .returned v ∧ Res w.heap.size w' v (vaE x) (enc (szN x) x) ∧ Below w.heap.size w w' := by
  obtain ⟨W1, hW1⟩ : ∃ W1, w.alloc (.cells #[.pointer (some ⟨b, j, none⟩), .int .i64 lo, .int .i64 hi, .int .i64 un] 83) = W1 := ⟨_, rfl⟩
  have hB : Below w.heap.size w W1 := by rw [← hW1]; exact bel1 w _
  have d0 : W1.cell? ⟨w.heap.size, 0, none⟩ = some (.pointer (some ⟨b, j, none⟩)) := by rw [← hW1]; exact cell_new w _ 83 0 _ rfl
  have dx : W1.cell? ⟨b, j, none⟩ = some (.int .i64 x) := cell_bel h hB
  have hpv := putv_any none [] 0 x W1 (Tb_below ht hB (Tb_pos ht)) (fun j hj => absurd hj (by simp)) (by simp)
  have HB : Aside _ := hB
  clear h ht hB
  unfold numV
  go_enter Tryd.func76, Tryd.ntmps76
  go_wp2_with fail
  refine hpv.mono ?_
  rintro e W2 ⟨v, rfl, hres, hb2⟩
  have HE : Aside (Res w.heap.size W2 v (vaE x) (enc (szN x) x) ∧ Below w.heap.size w W2) := by
    refine ⟨?_, HB.out.trans (hb2.mono HB.out.size)⟩
    rw [List.nil_append] at hres
    rcases hres with ⟨q1, q2, q3⟩ | q
    · refine .inl ⟨q1, q2, ?_⟩
      obtain ⟨a1, a2 | ⟨g, cap, cur, rfl, k1, k2⟩⟩ := q3
      · exact ⟨a1, .inl a2⟩
      · exact ⟨a1, .inr ⟨g, cap, cur, rfl, Nat.le_trans HB.out.size k1, k2⟩⟩
    · exact .inr q
  clear hpv hres hb2
  go_wp2
  go_ret
  exact ⟨v, rfl, HE.out⟩
end Go.Proofs.YtcppnellgkbndaaDoor
