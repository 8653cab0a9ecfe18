/- A Seen that is nil, or that no call made: what each call of seen answers for it. -/
import Derived.Test.YtlobnlkpbenngaaRows
import Derived.WalkKit
import Derived.ProofKit
import Derived.OpenShut
import Derived.Deep.LoopGhost
import Derived.Laws.StructEq
namespace Go.Proofs.Ytlobnlkpbenngaa
open Go.RowKit
set_option linter.unusedVariables false

theorem eqp41 (p q : Option Addr) (w : World) (d : Nat) (h : q = none) : (Op.equalIn (d + 1) 41 (.pointer p) (.pointer q)).run Try.prog w = .ok (p == none) w := by
  subst h
  cases p <;> simp [Op.equalIn, run_underlying Try.underlying41, go_sem]
set_option maxRecDepth 100000 in
/-- A Seen's cells against those of a plain one: where came is nil. -/
theorem eq43_none (d f g a n t : Int) (w : World) : (binOp .eql 43 (.agg #[.int .i64 d, .pointer none, .int .i64 f, .int .i64 g, .int .i64 a, .int .i64 n, .int .i64 t]) (.agg #[.int .i64 0, .pointer none, .int .i64 0, .int .i64 0, .int .i64 0, .int .i64 0, .int .i64 0])).run Try.prog w = .ok (.bool (d == 0 && f == 0 && g == 0 && a == 0 && n == 0 && t == 0)) w := by
  have u3 := Try.underlying3
  have a3 := Try.isAgg3
  have z3 := Try.sizeOf3
  have u41 := Try.underlying41
  have a41 := Try.isAgg41
  have z41 := Try.sizeOf41
  have hS : Try.prog.underlying 43 = some (.struct (Try.prog.fieldsOf 43)) := by kernel_rfl
  have hp : Try.prog.stoodInHeld 43 = false := by kernel_rfl
  rw [run_eql_struct, show (10000 : Nat) = 9999 + 1 from rfl, run_equalIn_agg w 9999 43 _ _ hS hp]
  simp only [Program.fieldsOf, Try.underlying43]
  have hq := eqp41 none none w 9998 rfl
  go_simp
  by_cases h1 : d = 0 <;> by_cases h2 : f = 0 <;> by_cases h3 : g = 0 <;> by_cases h4 : a = 0 <;> by_cases h5 : n = 0 <;> by_cases h6 : t = 0 <;> simp [h1, h2, h3, h4, h5, h6]

set_option maxRecDepth 100000 in
/-- .. and where it is not. -/
theorem eq43_some (d f g a n t : Int) (q : Addr) (w : World) : (binOp .eql 43 (.agg #[.int .i64 d, .pointer (some q), .int .i64 f, .int .i64 g, .int .i64 a, .int .i64 n, .int .i64 t]) (.agg #[.int .i64 0, .pointer none, .int .i64 0, .int .i64 0, .int .i64 0, .int .i64 0, .int .i64 0])).run Try.prog w = .ok (.bool false) w := by
  have u3 := Try.underlying3
  have a3 := Try.isAgg3
  have z3 := Try.sizeOf3
  have u41 := Try.underlying41
  have a41 := Try.isAgg41
  have z41 := Try.sizeOf41
  have hS : Try.prog.underlying 43 = some (.struct (Try.prog.fieldsOf 43)) := by kernel_rfl
  have hp : Try.prog.stoodInHeld 43 = false := by kernel_rfl
  rw [run_eql_struct, show (10000 : Nat) = 9999 + 1 from rfl, run_equalIn_agg w 9999 43 _ _ hS hp]
  simp only [Program.fieldsOf, Try.underlying43]
  have hq := eqp41 (some q) none w 9998 rfl
  go_simp

/-- A Seen that is none: nil, or a plain one. -/
def No (w : World) (p : Option Addr) : Prop := p = none ∨ ∃ b, p = some ⟨b, 0, none⟩ ∧ w.cell? ⟨b, 0, none⟩ = some (.int .i64 0) ∧ w.cell? ⟨b, 1, none⟩ = some (.pointer none) ∧ w.cell? ⟨b, 2, none⟩ = some (.int .i64 0) ∧ w.cell? ⟨b, 3, none⟩ = some (.int .i64 0) ∧ w.cell? ⟨b, 4, none⟩ = some (.int .i64 0) ∧ w.cell? ⟨b, 5, none⟩ = some (.int .i64 0) ∧ w.cell? ⟨b, 6, none⟩ = some (.int .i64 0)
theorem cell_bel {w w' : World} {b j : Nat} {v : Value} (h : w.cell? ⟨b, j, none⟩ = some v) (hb : Below w.heap.size w w') : w'.cell? ⟨b, j, none⟩ = some v := by
  rw [hb.cell (p := ⟨b, j, none⟩) (World.block_lt_of_cell? _ _ h)]; exact h
theorem No.bel {w w' : World} {p : Option Addr} (h : No w p) (hb : Below w.heap.size w w') : No w' p := by
  rcases h with rfl | ⟨b, rfl, h0, h1, h2, h3, h4, h5, h6⟩
  · exact .inl rfl
  · exact .inr ⟨b, rfl, cell_bel h0 hb, cell_bel h1 hb, cell_bel h2 hb, cell_bel h3 hb, cell_bel h4 hb, cell_bel h5 hb, cell_bel h6 hb⟩
theorem bel1 (w : World) (o : Obj) : Below w.heap.size w (w.alloc o) := (Below.refl _ w).alloc (Nat.le_refl _) o
theorem bel_trans {a b c : World} (h : Below a.heap.size a b) (k : Below b.heap.size b c) : Below a.heap.size a c := h.trans (k.mono h.size)
theorem No.alloc {w : World} {p : Option Addr} (h : No w p) (o : Obj) : No (w.alloc o) p := h.bel (bel1 w o)

theorem no_none (p : Option Addr) (w : World) (h : No w p) : Calls Try.prog 28 #[.pointer p] w fun e w' => e = .returned (.bool true) ∧ w' = w := by
  rcases h with rfl | ⟨b, rfl, h0, h1, h2, h3, h4, h5, h6⟩
  · go_enter Try.func28, Try.ntmps28
    go_wp2
    go_ret
    exact ⟨rfl, rfl⟩
  · go_enter Try.func28, Try.ntmps28
    have hq := fun w => eq43_none 0 0 0 0 0 0 w
    simp only [beq_self_eq_true, Bool.and_self] at hq
    go_wp2
    go_ret
    exact ⟨rfl, rfl⟩
theorem no_wrong (p : Option Addr) (n t : Int) (w : World) (h : No w p) : Calls Try.prog 22 #[.pointer p, .int .i64 n, .int .i64 t] w fun e w' => e = .returned (.int .i64 1) ∧ w' = w := by
  go_enter Try.func22, Try.ntmps22
  go_wp2_with fail
  refine (no_none p w h).mono ?_
  rintro e w' ⟨rfl, rfl⟩
  go_wp2
  go_ret
  exact ⟨rfl, rfl⟩
theorem no_take (p : Option Addr) (n t : Int) (el : Bool) (w : World) (h : No w p) : Calls Try.prog 10 #[.pointer p, .int .i64 n, .bool el, .int .i64 t] w fun e w' => e = .returned (.tuple #[.bool false, .int .i64 1]) ∧ w' = w := by
  go_enter Try.func10, Try.ntmps10
  go_wp2_with fail
  refine (no_wrong p n t w h).mono ?_
  rintro e w' ⟨rfl, rfl⟩
  go_wp2
  go_ret2
  exact ⟨rfl, rfl⟩
theorem no_due (p : Option Addr) (w : World) (h : No w p) : Calls Try.prog 17 #[.pointer p] w fun e w' => e = .returned (.tuple #[.int .i64 0, .bool false]) ∧ w' = w := by
  go_enter Try.func17, Try.ntmps17
  go_wp2_with fail
  refine (no_none p w h).mono ?_
  rintro e w' ⟨rfl, rfl⟩
  go_wp2
  go_ret2
  exact ⟨rfl, rfl⟩
theorem no_acks (p : Option Addr) (m : Int) (w : World) (h : No w p) : Calls Try.prog 18 #[.pointer p, .int .i64 m] w fun e w' => e = .returned (.slice none 0 0) ∧ Below w.heap.size w w' := by
  go_enter Try.func18, Try.ntmps18
  go_wp2_with fail
  refine (no_none p _ (h.alloc _)).mono ?_
  rintro e w' ⟨rfl, rfl⟩
  go_wp2
  go_ret
  exact ⟨rfl, bel1 _ _⟩
theorem no_sent (p : Option Addr) (t : Int) (w : World) (h : No w p) : Calls Try.prog 12 #[.pointer p, .int .i64 t] w fun e w' => e = .returned (.int .i64 0) ∧ w' = w := by
  go_enter Try.func12, Try.ntmps12
  go_wp2_with fail
  refine (no_none p w h).mono ?_
  rintro e w' ⟨rfl, rfl⟩
  go_wp2
  go_ret
  exact ⟨rfl, rfl⟩
theorem no_forget (p : Option Addr) (t : Int) (w : World) (h : No w p) : Calls Try.prog 14 #[.pointer p, .int .i64 t] w fun e w' => e = .returned (.int .i64 1) ∧ w' = w := by
  go_enter Try.func14, Try.ntmps14
  go_wp2_with fail
  refine (no_none p w h).mono ?_
  rintro e w' ⟨rfl, rfl⟩
  go_wp2
  go_ret
  exact ⟨rfl, rfl⟩
theorem no_greatest (p : Option Addr) (w : World) (h : No w p) : Calls Try.prog 19 #[.pointer p] w fun e w' => e = .returned (.int .i64 0) ∧ w' = w := by
  go_enter Try.func19, Try.ntmps19
  go_wp2_with fail
  refine (no_none p w h).mono ?_
  rintro e w' ⟨rfl, rfl⟩
  go_wp2
  go_ret
  exact ⟨rfl, rfl⟩
end Go.Proofs.Ytlobnlkpbenngaa
