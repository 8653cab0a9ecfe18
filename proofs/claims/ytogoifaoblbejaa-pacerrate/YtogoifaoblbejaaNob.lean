/- pacer: a pacer that is nil, or that no call made. -/
import Derived.Test.YtogoifaoblbejaaRows
import Derived.WalkKit
import Derived.ProofKit
import Derived.OpenShut
import Derived.Deep.LoopGhost
import Derived.Laws.StructEq
namespace Go.Proofs.Ytogoifaoblbejaa
open Go.RowKit
set_option linter.unusedVariables false

set_option maxRecDepth 100000 in
/-- A pacer's cells against those of a plain one. -/
theorem eq42 (z b t : Int) (w : World) : (binOp .eql 42 (.agg #[.int .i64 z, .int .i64 b, .int .i64 t]) (.agg #[.int .i64 0, .int .i64 0, .int .i64 0])).run Try.prog w = .ok (.bool (decide (z = 0 ∧ b = 0 ∧ t = 0))) w := by
  have u3 := Try.underlying3
  have a3 := Try.isAgg3
  have z3 := Try.sizeOf3
  have hS : Try.prog.underlying 42 = some (.struct (Try.prog.fieldsOf 42)) := by kernel_rfl
  have hp : Try.prog.stoodInHeld 42 = false := by kernel_rfl
  rw [run_eql_struct, show (10000 : Nat) = 9999 + 1 from rfl, run_equalIn_agg w 9999 42 _ _ hS hp]
  simp only [Program.fieldsOf, Try.underlying42]
  go_simp
  by_cases h1 : z = 0
  · by_cases h2 : b = 0 <;> by_cases h3 : t = 0 <;> simp [h1, h2, h3]
  · simp [h1]

/-- A pacer that is none: nil, or a plain one. -/
def No (w : World) (p : Option Addr) : Prop := p = none ∨ ∃ b, p = some ⟨b, 0, none⟩ ∧ w.cell? ⟨b, 0, none⟩ = some (.int .i64 0) ∧ w.cell? ⟨b, 1, none⟩ = some (.int .i64 0) ∧ w.cell? ⟨b, 2, none⟩ = some (.int .i64 0)
theorem bel1 (w : World) (o : Obj) : Below w.heap.size w (w.alloc o) := (Below.refl _ w).alloc (Nat.le_refl _) o
theorem bel_trans {a b c : World} (h : Below a.heap.size a b) (k : Below b.heap.size b c) : Below a.heap.size a c := h.trans (k.mono h.size)

set_option maxRecDepth 100000 in
theorem no_none (p : Option Addr) (w : World) (h : No w p) : Calls Try.prog 17 #[.pointer p] w fun e w' => e = .returned (.bool true) ∧ w' = w := by
  rcases h with rfl | ⟨b, rfl, h0, h1, h2⟩
  · go_enter Try.func17, Try.ntmps17
    go_wp2
    go_ret
    exact ⟨rfl, rfl⟩
  · have hq : ∀ w, (binOp .eql 42 (.agg #[.int .i64 0, .int .i64 0, .int .i64 0]) (.agg #[.int .i64 0, .int .i64 0, .int .i64 0])).run Try.prog w = .ok (.bool true) w := by
      intro w
      rw [eq42]
      simp
    go_enter Try.func17, Try.ntmps17
    go_wp2
    go_ret
    exact ⟨rfl, rfl⟩
theorem no_budget (p : Option Addr) (t v r : Int) (w : World) (h : No w p) : Calls Try.prog 14 #[.pointer p, .int .i64 t, .int .i64 v, .int .i64 r] w fun e w' => e = .returned (.int .i64 0) ∧ w' = w := by
  go_enter Try.func14, Try.ntmps14
  go_wp2_with fail
  refine (no_none p w h).mono ?_
  rintro e w' ⟨rfl, rfl⟩
  go_wp2
  go_ret
  exact ⟨rfl, rfl⟩
theorem no_sent (p : Option Addr) (n t v r : Int) (w : World) (h : No w p) : Calls Try.prog 10 #[.pointer p, .int .i64 n, .int .i64 t, .int .i64 v, .int .i64 r] w fun e w' => e = .returned (.int .i64 1) ∧ w' = w := by
  go_enter Try.func10, Try.ntmps10
  go_wp2_with fail
  refine (no_none p w h).mono ?_
  rintro e w' ⟨rfl, rfl⟩
  go_wp2
  go_ret
  exact ⟨rfl, rfl⟩
theorem no_when (p : Option Addr) (n v r : Int) (w : World) (h : No w p) : Calls Try.prog 12 #[.pointer p, .int .i64 n, .int .i64 v, .int .i64 r] w fun e w' => e = .returned (.tuple #[.int .i64 0, .int .i64 1]) ∧ w' = w := by
  go_enter Try.func12, Try.ntmps12
  go_wp2_with fail
  refine (no_none p w h).mono ?_
  rintro e w' ⟨rfl, rfl⟩
  go_wp2
  go_ret2
  exact ⟨rfl, rfl⟩

set_option maxRecDepth 100000 in
set_option maxHeartbeats 1000000 in
theorem nobody_walk (n t v r q : Int) (w : World) : Calls Try.prog 4 #[.agg #[.int .i64 n, .int .i64 t, .int .i64 v, .int .i64 r, .int .i64 q]] w fun e w' => e = .returned (.bool true) ∧ Below w.heap.size w w' := by
  go_enter Try.func4, Try.ntmps4
  go_wp2
  refine wp_loop_rounds 3 ?_
  rw [rounds_succ]
  obtain ⟨W0, hW0⟩ : ∃ W0, (((w.alloc (.cells #[.int .i64 n, .int .i64 t, .int .i64 v, .int .i64 r, .int .i64 q] 32)).alloc (.cells #[.int .i64 0, .int .i64 0, .int .i64 0] 42)).alloc (.cells #[.pointer none, .pointer (some ⟨w.heap.size + 1, 0, none⟩)] 23)) = W0 := ⟨_, rfl⟩
  rw [hW0]
  have hB0 : Below w.heap.size w W0 := by rw [← hW0]; exact (((Below.refl _ w).alloc (Nat.le_refl _) _).alloc (by simp) _).alloc (by simp; omega) _
  have ca0 : W0.cell? ⟨w.heap.size, 0, none⟩ = some (.int .i64 n) := by rw [← hW0]; simp [go_sem]
  have ca1 : W0.cell? ⟨w.heap.size, 1, none⟩ = some (.int .i64 t) := by rw [← hW0]; simp [go_sem]
  have ca2 : W0.cell? ⟨w.heap.size, 2, none⟩ = some (.int .i64 v) := by rw [← hW0]; simp [go_sem]
  have ca3 : W0.cell? ⟨w.heap.size, 3, none⟩ = some (.int .i64 r) := by rw [← hW0]; simp [go_sem]
  have ca4 : W0.cell? ⟨w.heap.size, 4, none⟩ = some (.int .i64 q) := by rw [← hW0]; simp [go_sem]
  have cc0 : W0.cell? ⟨w.heap.size + 1 + 1, 0, none⟩ = some (.pointer none) := by rw [← hW0]; simp [go_sem]
  have cc1 : W0.cell? ⟨w.heap.size + 1 + 1, 1, none⟩ = some (.pointer (some ⟨w.heap.size + 1, 0, none⟩)) := by rw [← hW0]; simp [go_sem]
  have no2 : No W0 (some ⟨w.heap.size + 1, 0, none⟩) := by
    refine .inr ⟨_, rfl, ?_, ?_, ?_⟩ <;> (rw [← hW0]; simp [go_sem])
  clear hW0
  have no1 : No W0 none := .inl rfl
  generalize w.heap.size + 1 + 1 = C at *
  have HB : Aside _ := hB0
  clear hB0
  go_wp2_with fail
  refine (no_when none _ _ _ _ no1).mono ?_
  rintro e u ⟨rfl, h⟩
  subst u
  go_wp2_with fail
  refine (no_sent none _ _ _ _ _ no1).mono ?_
  rintro e u ⟨rfl, h⟩
  subst u
  go_wp2_with fail
  refine (no_budget none _ _ _ _ no1).mono ?_
  rintro e u ⟨rfl, h⟩
  subst u
  go_wp2
  rw [rounds_succ]
  go_wp2_with fail
  refine (no_when _ _ _ _ _ no2).mono ?_
  rintro e u ⟨rfl, h⟩
  subst u
  go_wp2_with fail
  refine (no_sent _ _ _ _ _ _ no2).mono ?_
  rintro e u ⟨rfl, h⟩
  subst u
  go_wp2_with fail
  refine (no_budget _ _ _ _ _ no2).mono ?_
  rintro e u ⟨rfl, h⟩
  subst u
  go_wp2
  rw [rounds_succ]
  go_wp2
  go_ret
  exact ⟨rfl, HB.out⟩
end Go.Proofs.Ytogoifaoblbejaa
