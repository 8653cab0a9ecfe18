/- OutboxNobody, the walk. -/
import Derived.Test.YtfgfomkhlhiiiaaNob
namespace Go.Proofs.Ytfgfomkhlhiiiaa
open Go.RowKit
set_option linter.unusedVariables false

set_option maxRecDepth 100000 in
set_option maxHeartbeats 1000000 in
theorem nobody_walk (k : Int) (la : Option Addr) (ln cp : Nat) (mo li wh : Int) (od fi : Bool) (w : World) : Calls Try.prog 4 #[.agg #[.int .i64 k, .slice la ln cp, .int .i64 mo, .int .i64 li, .int .i64 wh, .bool od, .bool fi]] w fun e w' => e = .returned (.bool true) ∧ Below w.heap.size w w' := by
  go_enter Try.func4, Try.ntmps4
  go_wp2
  refine wp_loop_rounds 3 ?_
  rw [rounds_succ]
  obtain ⟨W0, hW0⟩ : ∃ W0, (((w.alloc (.cells #[.int .i64 k, .slice la ln cp, .int .i64 mo, .int .i64 li, .int .i64 wh, .bool od, .bool fi] 34)).alloc (.cells #[.int .i64 0, .slice none 0 0, .int .i64 0, .int .i64 0, .pointer none, .pointer none, .int .i64 0] 55)).alloc (.cells #[.pointer none, .pointer (some ⟨w.heap.size + 1, 0, none⟩)] 23)) = W0 := ⟨_, rfl⟩
  rw [hW0]
  have hs0 : W0.heap.size = w.heap.size + 3 := by rw [← hW0]; simp
  have hB0 : Below w.heap.size w W0 := by rw [← hW0]; exact (((Below.refl _ w).alloc (Nat.le_refl _) _).alloc (by simp) _).alloc (by simp; omega) _
  have ca : ∀ j, j < 7 → W0.cell? ⟨w.heap.size, j, none⟩ = [Value.int .i64 k, .slice la ln cp, .int .i64 mo, .int .i64 li, .int .i64 wh, .bool od, .bool fi][j]? := by
    intro j hj
    rw [← hW0]
    rcases j with _ | _ | _ | _ | _ | _ | _ | j <;> first | omega | simp [go_sem]
  have ca1 := ca 1 (by decide); have ca2 := ca 2 (by decide); have ca3 := ca 3 (by decide)
  have cb0 : W0.cell? ⟨w.heap.size + 1, 4, none⟩ = some (.pointer none) := by rw [← hW0]; simp [go_sem]
  have cc0 : W0.cell? ⟨w.heap.size + 1 + 1, 0, none⟩ = some (.pointer none) := by rw [← hW0]; simp [go_sem]
  have cc1 : W0.cell? ⟨w.heap.size + 1 + 1, 1, none⟩ = some (.pointer (some ⟨w.heap.size + 1, 0, none⟩)) := by rw [← hW0]; simp [go_sem]
  simp at ca1 ca2 ca3
  have no2 : No W0 (some ⟨w.heap.size + 1, 0, none⟩) := .inr ⟨_, rfl, cb0⟩
  clear ca hW0 cb0
  have no1 : No W0 none := .inl rfl
  clear hs0
  generalize w.heap.size + 1 + 1 = C at *
  have HB : Aside _ := hB0
  clear hB0
  go_wp2_with fail
  refine (no_write none _ _ no1).mono ?_
  rintro e u10 ⟨rfl, h⟩
  subst u10
  go_wp2_with fail
  refine (no_next none _ _ _ no1).mono ?_
  rintro e u11 ⟨rfl, h⟩
  have no1a := (no1.bel h).alloc pb
  have hh := bel_trans h (bel1 u11 pb)
  have HH11 : Aside _ := hh
  have q0 : (u11.alloc pb).cell? ⟨u11.heap.size, 0, none⟩ = some (.int .i64 0) := by simp [go_sem]
  have q1 : (u11.alloc pb).cell? ⟨u11.heap.size, 1, none⟩ = some (.slice none 0 0) := by simp [go_sem]
  have q2 : (u11.alloc pb).cell? ⟨u11.heap.size, 2, none⟩ = some (.bool false) := by simp [go_sem]
  have d3 := cell_bel ca3 hh
  have dc0 := cell_bel cc1 hh
  clear h hh
  go_wp2_with fail
  generalize hX : u11.alloc (.cells #[.int .i64 0, .slice none 0 0, .bool false] 42) = X1 at *
  generalize u11.heap.size = P1 at *
  clear hX
  refine (no_sizes none _ no1a).mono ?_
  rintro e u12 ⟨rfl, h⟩
  subst u12
  go_wp2_with fail
  refine (no_finish none _ no1a).mono ?_
  rintro e u13 ⟨rfl, h⟩
  subst u13
  go_wp2_with fail
  refine (no_acked none _ no1a).mono ?_
  rintro e Y1 ⟨rfl, h⟩
  have no1b := no1a.bel h
  have r0 := cell_bel q0 h
  have r1 := cell_bel q1 h
  have r2 := cell_bel q2 h
  have d3b := cell_bel d3 h
  have dc0b := cell_bel dc0 h
  have HH21 : Aside _ := h
  clear h q0 q1 q2 d3 dc0
  go_wp2_with fail
  refine (no_lost none _ no1b).mono ?_
  rintro e Z1 ⟨rfl, h⟩
  have no1c := no1b.bel h
  have d3c := cell_bel d3b h
  have x3 := cell_bel d3b h
  have xc1 := cell_bel dc0b h
  have HH31 : Aside _ := h
  clear h r0 r1 r2 d3b dc0b
  go_wp2_with fail
  refine (no_done none _ no1c).mono ?_
  rintro e v11 ⟨rfl, h⟩
  subst v11
  go_wp2_with fail
  refine (no_waits none _ _ no1c).mono ?_
  rintro e v12 ⟨rfl, h⟩
  subst v12
  go_wp2
  rw [rounds_succ]
  have no2z := ((no2.bel HH11.out).bel HH21.out).bel HH31.out
  have y1 := cell_bel (cell_bel (cell_bel ca1 HH11.out) HH21.out) HH31.out
  have y2 := cell_bel (cell_bel (cell_bel ca2 HH11.out) HH21.out) HH31.out
  clear no2 ca1 ca2 ca3 cc0 cc1
  have no2 := no2z
  clear no2z d3c
  go_wp2_with fail
  refine (no_write _ _ _ no2).mono ?_
  rintro e u20 ⟨rfl, h⟩
  subst u20
  go_wp2_with fail
  refine (no_next _ _ _ _ no2).mono ?_
  rintro e u21 ⟨rfl, h⟩
  have no2a := (no2.bel h).alloc pb
  have hh := bel_trans h (bel1 u21 pb)
  have HH12 : Aside _ := hh
  have q0 : (u21.alloc pb).cell? ⟨u21.heap.size, 0, none⟩ = some (.int .i64 0) := by simp [go_sem]
  have q1 : (u21.alloc pb).cell? ⟨u21.heap.size, 1, none⟩ = some (.slice none 0 0) := by simp [go_sem]
  have q2 : (u21.alloc pb).cell? ⟨u21.heap.size, 2, none⟩ = some (.bool false) := by simp [go_sem]
  have d3 := cell_bel x3 hh
  clear h hh
  go_wp2_with fail
  generalize hX : u21.alloc (.cells #[.int .i64 0, .slice none 0 0, .bool false] 42) = X2 at *
  generalize u21.heap.size = P2 at *
  clear hX
  refine (no_sizes _ _ no2a).mono ?_
  rintro e u22 ⟨rfl, h⟩
  subst u22
  go_wp2_with fail
  refine (no_finish _ _ no2a).mono ?_
  rintro e u23 ⟨rfl, h⟩
  subst u23
  go_wp2_with fail
  refine (no_acked _ _ no2a).mono ?_
  rintro e Y2 ⟨rfl, h⟩
  have no2b := no2a.bel h
  have r0 := cell_bel q0 h
  have r1 := cell_bel q1 h
  have r2 := cell_bel q2 h
  have d3b := cell_bel d3 h
  have HH22 : Aside _ := h
  clear h q0 q1 q2 d3 
  go_wp2_with fail
  refine (no_lost _ _ no2b).mono ?_
  rintro e Z2 ⟨rfl, h⟩
  have no2c := no2b.bel h
  have d3c := cell_bel d3b h
  have HH32 : Aside _ := h
  clear h r0 r1 r2 d3b 
  go_wp2_with fail
  refine (no_done _ _ no2c).mono ?_
  rintro e v21 ⟨rfl, h⟩
  subst v21
  go_wp2_with fail
  refine (no_waits _ _ _ no2c).mono ?_
  rintro e v22 ⟨rfl, h⟩
  subst v22
  go_wp2
  rw [rounds_succ]
  go_wp2
  go_ret
  exact ⟨rfl, HB.out.trans ((bel_trans (bel_trans (bel_trans (bel_trans (bel_trans HH11.out HH21.out) HH31.out) HH12.out) HH22.out) HH32.out).mono HB.out.size)⟩
end Go.Proofs.Ytfgfomkhlhiiiaa
