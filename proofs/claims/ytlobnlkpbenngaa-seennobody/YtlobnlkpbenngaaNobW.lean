/- SeenNobody, the walk. -/
import Derived.Test.YtlobnlkpbenngaaNob
namespace Go.Proofs.Ytlobnlkpbenngaa
open Go.RowKit
set_option linter.unusedVariables false

set_option maxRecDepth 100000 in
set_option maxHeartbeats 1000000 in
theorem nobody_walk (k n t : Int) (el : Bool) (w : World) : Calls Try.prog 4 #[.agg #[.int .i64 k, .int .i64 n, .bool el, .int .i64 t]] w fun e w' => e = .returned (.bool true) ∧ Below w.heap.size w w' := by
  go_enter Try.func4, Try.ntmps4
  go_wp2
  refine wp_loop_rounds 3 ?_
  rw [rounds_succ]
  obtain ⟨W0, hW0⟩ : ∃ W0, (((w.alloc (.cells #[.int .i64 k, .int .i64 n, .bool el, .int .i64 t] 32)).alloc (.cells #[.int .i64 0, .pointer none, .int .i64 0, .int .i64 0, .int .i64 0, .int .i64 0, .int .i64 0] 43)).alloc (.cells #[.pointer none, .pointer (some ⟨w.heap.size + 1, 0, none⟩)] 23)) = W0 := ⟨_, rfl⟩
  rw [hW0]
  have hB0 : Below w.heap.size w W0 := by rw [← hW0]; exact (((Below.refl _ w).alloc (Nat.le_refl _) _).alloc (by simp) _).alloc (by simp; omega) _
  have ca1 : W0.cell? ⟨w.heap.size, 1, none⟩ = some (.int .i64 n) := by rw [← hW0]; simp [go_sem]
  have ca2 : W0.cell? ⟨w.heap.size, 2, none⟩ = some (.bool el) := by rw [← hW0]; simp [go_sem]
  have ca3 : W0.cell? ⟨w.heap.size, 3, none⟩ = some (.int .i64 t) := by rw [← hW0]; simp [go_sem]
  have cc0 : W0.cell? ⟨w.heap.size + 1 + 1, 0, none⟩ = some (.pointer none) := by rw [← hW0]; simp [go_sem]
  have cc1 : W0.cell? ⟨w.heap.size + 1 + 1, 1, none⟩ = some (.pointer (some ⟨w.heap.size + 1, 0, none⟩)) := by rw [← hW0]; simp [go_sem]
  have no2 : No W0 (some ⟨w.heap.size + 1, 0, none⟩) := by
    refine .inr ⟨_, rfl, ?_, ?_, ?_, ?_, ?_, ?_, ?_⟩ <;> (rw [← hW0]; simp [go_sem])
  clear hW0
  have no1 : No W0 none := .inl rfl
  generalize w.heap.size + 1 + 1 = C at *
  have HB : Aside _ := hB0
  clear hB0
  go_wp2_with fail
  refine (no_take none _ _ _ _ no1).mono ?_
  rintro e u ⟨rfl, h⟩
  subst u
  go_wp2_with fail
  refine (no_due none _ no1).mono ?_
  rintro e u ⟨rfl, h⟩
  subst u
  go_wp2_with fail
  refine (no_acks none _ _ no1).mono ?_
  rintro e u1 ⟨rfl, h⟩
  have c1 := cell_bel ca1 h
  have c2 := cell_bel ca2 h
  have c3 := cell_bel ca3 h
  have cd := cell_bel cc1 h
  have no2a := no2.bel h
  have no1a : No u1 none := .inl rfl
  have HB1 : Aside _ := h
  clear h ca1 ca2 ca3 cc0 cc1 no2 no1
  go_wp2_with fail
  refine (no_sent none _ _ no1a).mono ?_
  rintro e u ⟨rfl, h⟩
  subst u
  go_wp2_with fail
  refine (no_forget none _ _ no1a).mono ?_
  rintro e u ⟨rfl, h⟩
  subst u
  go_wp2_with fail
  refine (no_greatest none _ no1a).mono ?_
  rintro e u ⟨rfl, h⟩
  subst u
  go_wp2
  rw [rounds_succ]
  go_wp2_with fail
  refine (no_take _ _ _ _ _ no2a).mono ?_
  rintro e u ⟨rfl, h⟩
  subst u
  go_wp2_with fail
  refine (no_due _ _ no2a).mono ?_
  rintro e u ⟨rfl, h⟩
  subst u
  go_wp2_with fail
  refine (no_acks _ _ _ no2a).mono ?_
  rintro e u2 ⟨rfl, h⟩
  have d1 := cell_bel c1 h
  have d3 := cell_bel c3 h
  have no2b := no2a.bel h
  have HB2 : Aside _ := h
  clear h c1 c2 c3 cd no2a no1a
  go_wp2_with fail
  refine (no_sent _ _ _ no2b).mono ?_
  rintro e u ⟨rfl, h⟩
  subst u
  go_wp2_with fail
  refine (no_forget _ _ _ no2b).mono ?_
  rintro e u ⟨rfl, h⟩
  subst u
  go_wp2_with fail
  refine (no_greatest _ _ no2b).mono ?_
  rintro e u ⟨rfl, h⟩
  subst u
  go_wp2
  rw [rounds_succ]
  go_wp2
  go_ret
  exact ⟨rfl, HB.out.trans ((bel_trans HB1.out HB2.out).mono HB.out.size)⟩
end Go.Proofs.Ytlobnlkpbenngaa
