/- A box that is nil, or that no call made: what each call of inbox answers for it; InboxNobody's walk. -/
import Derived.Test.YtpbiokcelglaaaaDoorRows
import Derived.WalkKit
import Derived.ProofKit
import Derived.OpenShut
namespace Go.Proofs.YtpbiokcelglaaaaDoor
open Go.RowKit
set_option linter.unusedVariables false

/-- A box that is none: nil, or a plain one. -/
def No (w : World) (p : Option Addr) : Prop := p = none ∨ ∃ b, p = some ⟨b, 0, none⟩ ∧ w.cell? ⟨b, 0, none⟩ = some (.map none)

theorem eql_map_none (w : World) : (binOp .eql 47 (.map none) (.map none)).run Tryd.prog w = .ok (.bool true) w := by
  kernel_rfl
theorem eql_map_some (x : Nat) (w : World) : (binOp .eql 47 (.map (some x)) (.map none)).run Tryd.prog w = .ok (.bool false) w := by
  kernel_rfl
attribute [local go_sem] eql_map_none

theorem no_none (p : Option Addr) (w : World) (h : No w p) : Calls Tryd.prog 25 #[.pointer p] w fun e w' => e = .returned (.bool true) ∧ w' = w := by
  rcases h with rfl | ⟨b, rfl, hc⟩
  · go_enter Tryd.func25, Tryd.ntmps25
    go_wp2
    go_ret
    exact ⟨rfl, rfl⟩
  · go_enter Tryd.func25, Tryd.ntmps25
    go_wp2
    go_ret
    exact ⟨rfl, rfl⟩

theorem no_read (p : Option Addr) (n : Int) (w : World) (h : No w p) : Calls Tryd.prog 12 #[.pointer p, .int .i64 n] w fun e w' => e = .returned (.tuple #[.slice none 0 0, .bool false]) ∧ w' = w := by
  go_enter Tryd.func12, Tryd.ntmps12
  go_wp2_with fail
  refine (no_none p w h).mono ?_
  rintro e w' ⟨rfl, rfl⟩
  go_wp2
  go_ret2
  exact ⟨rfl, rfl⟩

theorem no_final (p : Option Addr) (w : World) (h : No w p) : Calls Tryd.prog 18 #[.pointer p] w fun e w' => e = .returned (.tuple #[.int .i64 0, .bool false]) ∧ w' = w := by
  go_enter Tryd.func18, Tryd.ntmps18
  go_wp2_with fail
  refine (no_none p w h).mono ?_
  rintro e w' ⟨rfl, rfl⟩
  go_wp2
  go_ret2
  exact ⟨rfl, rfl⟩

theorem no_put (p : Option Addr) (o : Int) (s : Value) (f : Bool) (w : World) (h : No w p) : Calls Tryd.prog 10 #[.pointer p, .int .i64 o, s, .bool f] w fun e w' => e = .returned (.int .i64 1) ∧ w' = w := by
  go_enter Tryd.func10, Tryd.ntmps10
  go_wp2_with fail
  refine (no_none p w h).mono ?_
  rintro e w' ⟨rfl, rfl⟩
  go_wp2
  go_ret
  exact ⟨rfl, rfl⟩

theorem no_end (p : Option Addr) (n : Int) (w : World) (h : No w p) : Calls Tryd.prog 14 #[.pointer p, .int .i64 n] w fun e w' => e = .returned (.int .i64 1) ∧ w' = w := by
  go_enter Tryd.func14, Tryd.ntmps14
  go_wp2_with fail
  refine (no_put p n _ _ w h).mono ?_
  rintro e w' ⟨rfl, rfl⟩
  go_wp2
  go_ret
  exact ⟨rfl, rfl⟩

theorem no_grow (p : Option Addr) (n : Int) (w : World) (h : No w p) : Calls Tryd.prog 16 #[.pointer p, .int .i64 n] w fun e w' => e = .returned (.int .i64 1) ∧ w' = w := by
  go_enter Tryd.func16, Tryd.ntmps16
  go_wp2_with fail
  refine (no_none p w h).mono ?_
  rintro e w' ⟨rfl, rfl⟩
  go_wp2
  go_ret
  exact ⟨rfl, rfl⟩

theorem no_ready (p : Option Addr) (w : World) (h : No w p) : Calls Tryd.prog 19 #[.pointer p] w fun e w' => e = .returned (.int .i64 0) ∧ w' = w := by
  go_enter Tryd.func19, Tryd.ntmps19
  go_wp2_with fail
  refine (no_none p w h).mono ?_
  rintro e w' ⟨rfl, rfl⟩
  go_wp2
  go_ret
  exact ⟨rfl, rfl⟩

theorem no_limit (p : Option Addr) (w : World) (h : No w p) : Calls Tryd.prog 21 #[.pointer p] w fun e w' => e = .returned (.int .i64 0) ∧ w' = w := by
  go_enter Tryd.func21, Tryd.ntmps21
  go_wp2_with fail
  refine (no_none p w h).mono ?_
  rintro e w' ⟨rfl, rfl⟩
  go_wp2
  go_ret
  exact ⟨rfl, rfl⟩

theorem no_reach (p : Option Addr) (w : World) (h : No w p) : Calls Tryd.prog 22 #[.pointer p] w fun e w' => e = .returned (.int .i64 0) ∧ w' = w := by
  go_enter Tryd.func22, Tryd.ntmps22
  go_wp2_with fail
  refine (no_none p w h).mono ?_
  rintro e w' ⟨rfl, rfl⟩
  go_wp2
  go_ret
  exact ⟨rfl, rfl⟩

theorem no_held (p : Option Addr) (w : World) (h : No w p) : Calls Tryd.prog 23 #[.pointer p] w fun e w' => e = .returned (.int .i64 0) ∧ w' = w := by
  go_enter Tryd.func23, Tryd.ntmps23
  go_wp2_with fail
  refine (no_none p w h).mono ?_
  rintro e w' ⟨rfl, rfl⟩
  go_wp2
  go_ret
  exact ⟨rfl, rfl⟩

set_option maxRecDepth 100000 in
set_option maxHeartbeats 1000000 in
theorem nobody_walk (k o : Int) (la : Option Addr) (ln cp : Nat) (f : Bool) (n : Int) (w : World) : Calls Tryd.prog 4 #[.agg #[.int .i64 k, .int .i64 o, .slice la ln cp, .bool f, .int .i64 n]] w fun e w' => e = .returned (.bool true) ∧ Below w.heap.size w w' := by
  go_enter Tryd.func4, Tryd.ntmps4
  go_wp2
  refine wp_loop_rounds 3 ?_
  rw [rounds_succ]
  obtain ⟨W0, hW0⟩ : ∃ W0, (((w.alloc (.cells #[.int .i64 k, .int .i64 o, .slice la ln cp, .bool f, .int .i64 n] 33)).alloc (.cells #[.map none, .int .i64 0, .int .i64 0, .int .i64 0, .int .i64 0, .int .i64 0, .int .i64 0, .bool false] 49)).alloc (.cells #[.pointer none, .pointer (some ⟨w.heap.size + 1, 0, none⟩)] 23)) = W0 := ⟨_, rfl⟩
  rw [hW0]
  have hs0 : W0.heap.size = w.heap.size + 3 := by rw [← hW0]; simp
  have hB0 : Below w.heap.size w W0 := by rw [← hW0]; exact (((Below.refl _ w).alloc (Nat.le_refl _) _).alloc (by simp) _).alloc (by simp; omega) _
  have ca : ∀ j, j < 5 → W0.cell? ⟨w.heap.size, j, none⟩ = [Value.int .i64 k, .int .i64 o, .slice la ln cp, .bool f, .int .i64 n][j]? := by
    intro j hj
    rw [← hW0]
    rcases j with _ | _ | _ | _ | _ | j <;> first | omega | simp [go_sem]
  have ca1 := ca 1 (by decide); have ca2 := ca 2 (by decide); have ca3 := ca 3 (by decide); have ca4 := ca 4 (by decide)
  have cb0 : W0.cell? ⟨w.heap.size + 1, 0, none⟩ = some (.map none) := by rw [← hW0]; simp [go_sem]
  have cc0 : W0.cell? ⟨w.heap.size + 1 + 1, 0, none⟩ = some (.pointer none) := by rw [← hW0]; simp [go_sem]
  have cc1 : W0.cell? ⟨w.heap.size + 1 + 1, 1, none⟩ = some (.pointer (some ⟨w.heap.size + 1, 0, none⟩)) := by rw [← hW0]; simp [go_sem]
  simp at ca1 ca2 ca3 ca4
  have no1 : No W0 none := .inl rfl
  have no2 : No W0 (some ⟨w.heap.size + 1, 0, none⟩) := .inr ⟨_, rfl, cb0⟩
  clear ca hW0 cb0
  go_wp2_with (first
    | (go_at_call 12; refine (no_read none _ _ no1).mono ?_; rintro e w' ⟨rfl, h⟩; subst w')
    | (go_at_call 18; refine (no_final none _ no1).mono ?_; rintro e w' ⟨rfl, h⟩; subst w')
    | (go_at_call 10; refine (no_put none _ _ _ _ no1).mono ?_; rintro e w' ⟨rfl, h⟩; subst w')
    | (go_at_call 14; refine (no_end none _ _ no1).mono ?_; rintro e w' ⟨rfl, h⟩; subst w')
    | (go_at_call 16; refine (no_grow none _ _ no1).mono ?_; rintro e w' ⟨rfl, h⟩; subst w')
    | (go_at_call 19; refine (no_ready none _ no1).mono ?_; rintro e w' ⟨rfl, h⟩; subst w')
    | (go_at_call 21; refine (no_limit none _ no1).mono ?_; rintro e w' ⟨rfl, h⟩; subst w')
    | (go_at_call 22; refine (no_reach none _ no1).mono ?_; rintro e w' ⟨rfl, h⟩; subst w')
    | (go_at_call 23; refine (no_held none _ no1).mono ?_; rintro e w' ⟨rfl, h⟩; subst w'))
  rw [rounds_succ]
  go_wp2_with (first
    | (go_at_call 12; refine (no_read _ _ _ no2).mono ?_; rintro e w' ⟨rfl, h⟩; subst w')
    | (go_at_call 18; refine (no_final _ _ no2).mono ?_; rintro e w' ⟨rfl, h⟩; subst w')
    | (go_at_call 10; refine (no_put _ _ _ _ _ no2).mono ?_; rintro e w' ⟨rfl, h⟩; subst w')
    | (go_at_call 14; refine (no_end _ _ _ no2).mono ?_; rintro e w' ⟨rfl, h⟩; subst w')
    | (go_at_call 16; refine (no_grow _ _ _ no2).mono ?_; rintro e w' ⟨rfl, h⟩; subst w')
    | (go_at_call 19; refine (no_ready _ _ no2).mono ?_; rintro e w' ⟨rfl, h⟩; subst w')
    | (go_at_call 21; refine (no_limit _ _ no2).mono ?_; rintro e w' ⟨rfl, h⟩; subst w')
    | (go_at_call 22; refine (no_reach _ _ no2).mono ?_; rintro e w' ⟨rfl, h⟩; subst w')
    | (go_at_call 23; refine (no_held _ _ no2).mono ?_; rintro e w' ⟨rfl, h⟩; subst w'))
  rw [rounds_succ]
  go_wp2
  go_ret
  exact ⟨rfl, hB0⟩

end Go.Proofs.YtpbiokcelglaaaaDoor
