/- ecn: how many can be on their way; counts that could be said; counts that are wrong. -/
import Derived.Test.YthfloemckhbljaaWn
namespace Go.Proofs.Ythfloemckhbljaa
open Go.RowKit
set_option linter.unusedVariables false

theorem bdn {B : Nat} {a : World} (w : World) (n : Nat) (h : Below B a w) : Below B a (w.drewN n) := h.trans ⟨rfl, rfl, rfl, Nat.le_refl _, fun _ _ => rfl⟩
/-- So many can be on their way. -/
abbrev Ev.way (v : Ev) (m : Int) : Prop := 0 ≤ m ∧ m ≤ v.n - v.l - v.h
set_option maxRecDepth 100000 in
theorem onWay_c (b : Nat) (v : Ev) (m : Int) (w : World) (h : Rt 43 w b v) (ho : v.ok) : Calls Try.prog 18 #[.pointer (some ⟨b, 0, none⟩), .int .i64 m] w fun e w' => e = .returned (.bool (decide (v.way m))) ∧ Below w.heap.size w w' := by
  obtain ⟨c0, c1, c2, c3, c4, c5, c6⟩ := h.cells
  obtain ⟨d0, d1, d2, d3, d4, d5, d6⟩ := (h.below (Below.refl _ w).drew).cells
  have := ho.n0
  have := ho.n1
  have := ho.l0
  have := ho.h0
  have i1 : IntKind.i64.wrap (v.n - v.l) = v.n - v.l := wrp _ (by omega) (by omega)
  have i2 : IntKind.i64.wrap (v.n - v.l - v.h) = v.n - v.l - v.h := wrp _ (by omega) (by omega)
  clear h ho
  by_cases h0 : 0 ≤ m
  · by_cases h1 : m ≤ v.n - v.l - v.h
    · rw [show decide (v.way m) = true from decide_eq_true ⟨h0, h1⟩]
      have k0 : decide (0 ≤ m) = true := decide_eq_true h0
      have k1 : decide (m ≤ v.n - v.l - v.h) = true := decide_eq_true h1
      go_enter Try.func18, Try.ntmps18
      go_wp2_with fail
      go_quiet (fail)
      go_wp2
      go_ret
      exact ⟨rfl, bdn _ _ (Below.refl _ _)⟩
    · rw [show decide (v.way m) = false from decide_eq_false (fun h => h1 h.2)]
      have k0 : decide (0 ≤ m) = true := decide_eq_true h0
      have k1 : decide (m ≤ v.n - v.l - v.h) = false := decide_eq_false h1
      go_enter Try.func18, Try.ntmps18
      go_wp2_with fail
      go_quiet (fail)
      go_wp2
      go_ret
      exact ⟨rfl, bdn _ _ (Below.refl _ _)⟩
  · rw [show decide (v.way m) = false from decide_eq_false (fun h => h0 h.1)]
    have k0 : decide (0 ≤ m) = false := decide_eq_false h0
    go_enter Try.func18, Try.ntmps18
    go_wp2_with fail
    go_quiet (fail)
    go_wp2
    go_ret
    exact ⟨rfl, bdn _ _ (Below.refl _ _)⟩

theorem ix0 (a b c : Int) (w : World) : Sem.run Try.prog (Instr.index 28 (.agg #[.int .i64 a, .int .i64 b, .int .i64 c]) (.int .i64 0)) w = .ok (.int .i64 a) w := by kernel_rfl
theorem ix1 (a b c : Int) (w : World) : Sem.run Try.prog (Instr.index 28 (.agg #[.int .i64 a, .int .i64 b, .int .i64 c]) (.int .i64 1)) w = .ok (.int .i64 b) w := by kernel_rfl
theorem ix2 (a b c : Int) (w : World) : Sem.run Try.prog (Instr.index 28 (.agg #[.int .i64 a, .int .i64 b, .int .i64 c]) (.int .i64 2)) w = .ok (.int .i64 c) w := by kernel_rfl
/-- A count that could be said. -/
abbrev sd (x : Int) : Prop := 0 ≤ x ∧ x ≤ 4611686018427387903
abbrev cnts (a b c : Int) : Prop := sd a ∧ sd b ∧ sd c
theorem sd_not {x : Int} (h : ¬ sd x) : x < 0 ∨ (¬ x < 0 ∧ 4611686018427387903 < x) := by unfold sd at h; omega
set_option maxRecDepth 100000 in
theorem counts_c (a b c : Int) (w : World) : Calls Try.prog 20 #[.agg #[.int .i64 a, .int .i64 b, .int .i64 c]] w fun e w' => e = .returned (.bool (decide (cnts a b c))) ∧ Below w.heap.size w w' := by
  have x0 := ix0 a b c
  have x1 := ix1 a b c
  have x2 := ix2 a b c
  have hB := bel1 w (.cells #[.int .i64 a, .int .i64 b, .int .i64 c] 28)
  by_cases ha : sd a
  · have a0 : ¬ a < 0 := by have := ha.1; omega
    have a1 : ¬ 4611686018427387903 < a := by have := ha.2; omega
    by_cases hb : sd b
    · have b0 : ¬ b < 0 := by have := hb.1; omega
      have b1 : ¬ 4611686018427387903 < b := by have := hb.2; omega
      by_cases hc : sd c
      · have e0 : ¬ c < 0 := by have := hc.1; omega
        have e1 : ¬ 4611686018427387903 < c := by have := hc.2; omega
        rw [show decide (cnts a b c) = true from decide_eq_true ⟨ha, hb, hc⟩]
        clear ha hb hc
        go_enter Try.func20, Try.ntmps20
        go_wp2
        refine wp_loop_rounds 4 ?_
        rw [rounds_succ]
        go_wp2
        rw [rounds_succ]
        go_wp2
        rw [rounds_succ]
        go_wp2
        rw [rounds_succ]
        go_wp2
        go_ret
        exact ⟨rfl, hB⟩
      · rw [show decide (cnts a b c) = false from decide_eq_false (fun h => hc h.2.2)]
        rcases sd_not hc with e0 | ⟨e0, e1⟩ <;>
        · clear ha hb hc
          go_enter Try.func20, Try.ntmps20
          go_wp2
          refine wp_loop_rounds 4 ?_
          rw [rounds_succ]
          go_wp2
          rw [rounds_succ]
          go_wp2
          rw [rounds_succ]
          go_wp2
          go_ret
          exact ⟨rfl, hB⟩
    · rw [show decide (cnts a b c) = false from decide_eq_false (fun h => hb h.2.1)]
      rcases sd_not hb with e0 | ⟨e0, e1⟩ <;>
      · clear ha hb
        go_enter Try.func20, Try.ntmps20
        go_wp2
        refine wp_loop_rounds 4 ?_
        rw [rounds_succ]
        go_wp2
        rw [rounds_succ]
        go_wp2
        go_ret
        exact ⟨rfl, hB⟩
  · rw [show decide (cnts a b c) = false from decide_eq_false (fun h => ha h.1)]
    rcases sd_not ha with e0 | ⟨e0, e1⟩ <;>
    · clear ha
      go_enter Try.func20, Try.ntmps20
      go_wp2
      refine wp_loop_rounds 4 ?_
      rw [rounds_succ]
      go_wp2
      go_ret
      exact ⟨rfl, hB⟩
/-- Counts that are wrong. -/
abbrev Ev.wrg (v : Ev) (m a b c : Int) : Prop := a < v.a ∨ b < v.b ∨ c < v.c ∨ 0 < b ∨ a + c - (v.a + v.c) < m ∨ v.n < a + c
set_option maxRecDepth 100000 in
set_option maxHeartbeats 1000000 in
theorem wrong_c (p : Nat) (v : Ev) (m a b c : Int) (w : World) (h : Rt 43 w p v) (ho : v.ok) (hc : cnts a b c) : Calls Try.prog 21 #[.pointer (some ⟨p, 0, none⟩), .int .i64 m, .agg #[.int .i64 a, .int .i64 b, .int .i64 c]] w fun e w' => e = .returned (.bool (decide (v.wrg m a b c))) ∧ Below w.heap.size w w' := by
  obtain ⟨⟨p0, p1⟩, ⟨p2, p3⟩, ⟨p4, p5⟩⟩ := hc
  have x0 := ix0 a b c
  have x1 := ix1 a b c
  have x2 := ix2 a b c
  have hB : Aside (Below w.heap.size w (w.alloc (.cells #[.int .i64 a, .int .i64 b, .int .i64 c] 28))) := bel1 w (.cells #[.int .i64 a, .int .i64 b, .int .i64 c] 28)
  obtain ⟨W, hW⟩ : ∃ W, w.alloc (.cells #[.int .i64 a, .int .i64 b, .int .i64 c] 28) = W := ⟨_, rfl⟩
  have hB' : Below w.heap.size w W := by rw [← hW]; exact hB.out
  obtain ⟨c0, c1, c2, c3, c4, c5, c6⟩ := (h.below hB').cells
  have q0 : W.cell? ⟨w.heap.size, 0, none⟩ = some (.int .i64 a) := by rw [← hW]; simp [go_sem]
  have q1 : W.cell? ⟨w.heap.size, 1, none⟩ = some (.int .i64 b) := by rw [← hW]; simp [go_sem]
  have q2 : W.cell? ⟨w.heap.size, 2, none⟩ = some (.int .i64 c) := by rw [← hW]; simp [go_sem]
  have HB : Aside (Below w.heap.size w W) := hB'
  have := ho.a0
  have := ho.a1
  have := ho.c0
  have := ho.c1
  have i1 : IntKind.i64.wrap (a + c) = a + c := wrp _ (by omega) (by omega)
  have i2 : IntKind.i64.wrap (v.a + v.c) = v.a + v.c := wrp _ (by omega) (by omega)
  have i3 : IntKind.i64.wrap (a + c - (v.a + v.c)) = a + c - (v.a + v.c) := wrp _ (by omega) (by omega)
  clear h ho hB hB'
  by_cases k0 : a < v.a
  · rw [show decide (v.wrg m a b c) = true from decide_eq_true (.inl k0)]
    go_enter Try.func21, Try.ntmps21
    go_wp2_with fail
    refine wp_loop_rounds 4 ?_
    rw [rounds_succ]
    go_wp2
    go_ret
    exact ⟨rfl, HB.out⟩
  by_cases k1 : b < v.b
  · rw [show decide (v.wrg m a b c) = true from decide_eq_true (.inr (.inl k1))]
    go_enter Try.func21, Try.ntmps21
    go_wp2_with fail
    refine wp_loop_rounds 4 ?_
    rw [rounds_succ]
    go_wp2
    rw [rounds_succ]
    go_wp2
    go_ret
    exact ⟨rfl, HB.out⟩
  by_cases k2 : c < v.c
  · rw [show decide (v.wrg m a b c) = true from decide_eq_true (.inr (.inr (.inl k2)))]
    go_enter Try.func21, Try.ntmps21
    go_wp2_with fail
    refine wp_loop_rounds 4 ?_
    rw [rounds_succ]
    go_wp2
    rw [rounds_succ]
    go_wp2
    rw [rounds_succ]
    go_wp2
    go_ret
    exact ⟨rfl, HB.out⟩
  have j0 : decide (a < v.a) = false := decide_eq_false k0
  by_cases k3 : 0 < b
  · rw [show decide (v.wrg m a b c) = true from decide_eq_true (.inr (.inr (.inr (.inl k3))))]
    have j3 : decide (0 < b) = true := decide_eq_true k3
    go_enter Try.func21, Try.ntmps21
    go_wp2_with fail
    refine wp_loop_rounds 4 ?_
    rw [rounds_succ]
    go_wp2
    rw [rounds_succ]
    go_wp2
    rw [rounds_succ]
    go_wp2
    rw [rounds_succ]
    go_wp2_with fail
    go_quiet (fail)
    go_wp2
    go_ret
    exact ⟨rfl, bdn _ _ HB.out⟩
  by_cases k4 : a + c - (v.a + v.c) < m
  · rw [show decide (v.wrg m a b c) = true from decide_eq_true (.inr (.inr (.inr (.inr (.inl k4)))))]
    go_enter Try.func21, Try.ntmps21
    go_wp2_with fail
    refine wp_loop_rounds 4 ?_
    rw [rounds_succ]
    go_wp2
    rw [rounds_succ]
    go_wp2
    rw [rounds_succ]
    go_wp2
    rw [rounds_succ]
    go_wp2_with fail
    go_quiet (fail)
    go_wp2
    go_ret
    exact ⟨rfl, bdn _ _ HB.out⟩
  by_cases k5 : v.n < a + c
  · rw [show decide (v.wrg m a b c) = true from decide_eq_true (.inr (.inr (.inr (.inr (.inr k5)))))]
    go_enter Try.func21, Try.ntmps21
    go_wp2_with fail
    refine wp_loop_rounds 4 ?_
    rw [rounds_succ]
    go_wp2
    rw [rounds_succ]
    go_wp2
    rw [rounds_succ]
    go_wp2
    rw [rounds_succ]
    go_wp2_with fail
    go_quiet (fail)
    go_wp2
    go_ret
    exact ⟨rfl, bdn _ _ HB.out⟩
  · rw [show decide (v.wrg m a b c) = false from decide_eq_false (by rintro (h | h | h | h | h | h) <;> omega)]
    have j3 : decide (0 < b) = false := decide_eq_false k3
    have j4 : decide (a + c - (v.a + v.c) < m) = false := decide_eq_false k4
    have j5 : decide (v.n < a + c) = false := decide_eq_false k5
    go_enter Try.func21, Try.ntmps21
    go_wp2_with fail
    refine wp_loop_rounds 4 ?_
    rw [rounds_succ]
    go_wp2
    rw [rounds_succ]
    go_wp2
    rw [rounds_succ]
    go_wp2
    rw [rounds_succ]
    go_wp2_with fail
    go_quiet (fail)
    go_wp2
    go_ret
    exact ⟨rfl, bdn _ _ HB.out⟩
end Go.Proofs.Ythfloemckhbljaa
