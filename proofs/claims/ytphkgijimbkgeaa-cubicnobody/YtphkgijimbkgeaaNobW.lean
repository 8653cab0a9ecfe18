/- CubicNobody: the walk. -/
import Derived.Test.YtphkgijimbkgeaaNob
namespace Go.Proofs.Ytphkgijimbkgeaa
open Go.RowKit
set_option linter.unusedVariables false

set_option maxRecDepth 100000 in
set_option maxHeartbeats 1000000 in
theorem nobody_walk (k n s t r : Int) (f : Bool) (w : World) : Calls Try.prog 5 #[.agg #[.int .i64 k, .int .i64 n, .int .i64 s, .int .i64 t, .int .i64 r, .bool f]] w fun e w' => e = .returned (.bool true) ∧ Below w.heap.size w w' := by
  go_enter Try.func5, Try.ntmps5
  go_wp2
  refine wp_loop_rounds 3 ?_
  rw [rounds_succ]
  obtain ⟨W0, hW0⟩ : ∃ W0, (((w.alloc (.cells #[.int .i64 k, .int .i64 n, .int .i64 s, .int .i64 t, .int .i64 r, .bool f] 36)).alloc (.cells #[.int .i64 0, .int .i64 0, .int .i64 0, .int .i64 0, .int .i64 0, .int .i64 0, .int .i64 0, .int .i64 0, .int .i64 0] 45)).alloc (.cells #[.pointer none, .pointer (some ⟨w.heap.size + 1, 0, none⟩)] 23)) = W0 := ⟨_, rfl⟩
  rw [hW0]
  have hB0 : Below w.heap.size w W0 := by rw [← hW0]; exact (((Below.refl _ w).alloc (Nat.le_refl _) _).alloc (by simp) _).alloc (by simp; omega) _
  have ca0 : W0.cell? ⟨w.heap.size, 0, none⟩ = some (.int .i64 k) := by rw [← hW0]; simp [go_sem]
  have ca1 : W0.cell? ⟨w.heap.size, 1, none⟩ = some (.int .i64 n) := by rw [← hW0]; simp [go_sem]
  have ca2 : W0.cell? ⟨w.heap.size, 2, none⟩ = some (.int .i64 s) := by rw [← hW0]; simp [go_sem]
  have ca3 : W0.cell? ⟨w.heap.size, 3, none⟩ = some (.int .i64 t) := by rw [← hW0]; simp [go_sem]
  have ca4 : W0.cell? ⟨w.heap.size, 4, none⟩ = some (.int .i64 r) := by rw [← hW0]; simp [go_sem]
  have ca5 : W0.cell? ⟨w.heap.size, 5, none⟩ = some (.bool f) := by rw [← hW0]; simp [go_sem]
  have cc0 : W0.cell? ⟨w.heap.size + 1 + 1, 0, none⟩ = some (.pointer none) := by rw [← hW0]; simp [go_sem]
  have cc1 : W0.cell? ⟨w.heap.size + 1 + 1, 1, none⟩ = some (.pointer (some ⟨w.heap.size + 1, 0, none⟩)) := by rw [← hW0]; simp [go_sem]
  have no2 : No W0 (some ⟨w.heap.size + 1, 0, none⟩) := by
    refine .inr ⟨_, rfl, ?_, ?_, ?_, ?_, ?_, ?_, ?_, ?_, ?_⟩ <;> (rw [← hW0]; simp [go_sem])
  clear hW0
  have no1 : No W0 none := .inl rfl
  generalize w.heap.size + 1 + 1 = C at *
  have HB : Aside _ := hB0
  clear hB0
  go_wp2_with fail
  refine (no_collapse none _ no1).mono ?_
  rintro e u ⟨rfl, h⟩
  subst u
  go_wp2_with fail
  refine (no_told none _ no1).mono ?_
  rintro e u ⟨rfl, h⟩
  subst u
  go_wp2_with fail
  refine (no_acked none _ _ _ _ _ _ no1).mono ?_
  rintro e u ⟨rfl, h⟩
  subst u
  go_wp2_with fail
  refine (no_lost none _ _ _ no1).mono ?_
  rintro e u ⟨rfl, h⟩
  subst u
  go_wp2
  rw [rounds_succ]
  go_wp2_with fail
  refine (no_collapse _ _ no2).mono ?_
  rintro e u ⟨rfl, h⟩
  subst u
  go_wp2_with fail
  refine (no_told _ _ no2).mono ?_
  rintro e u ⟨rfl, h⟩
  subst u
  go_wp2_with fail
  refine (no_acked _ _ _ _ _ _ _ no2).mono ?_
  rintro e u ⟨rfl, h⟩
  subst u
  go_wp2_with fail
  refine (no_lost _ _ _ _ no2).mono ?_
  rintro e u ⟨rfl, h⟩
  subst u
  go_wp2
  rw [rounds_succ]
  go_wp2
  go_ret
  exact ⟨rfl, HB.out⟩
end Go.Proofs.Ytphkgijimbkgeaa
