/- rtt: the closure of bounds; an estimate as it lies; its looks. -/
import Derived.Test.YthjfhckpgindfaaNob
import Derived.Deep.QuietTactic
import Derived.BigQuiet
namespace Go.Proofs.Ythjfhckpgindfaa
open Go.RowKit
set_option linter.unusedVariables false

theorem wrp (x : Int) (h0 : -9223372036854775808 ≤ x) (h1 : x ≤ 9223372036854775807) : IntKind.i64.wrap x = x := by rw [IntKind.wrap_i64]; omega
theorem max_if (a b : Int) : (if a < b then b else a) = max a b := by omega
theorem min_if (a b : Int) : (if b < a then b else a) = min a b := by omega

set_option maxRecDepth 100000 in
theorem between_c (lo hi : Int) (w : World) : Calls Try.prog 19 #[.int .i64 lo, .int .i64 hi] w fun e w' => e = .returned (.func (.func 22) #[] #[.pointer (some ⟨w.heap.size, 0, none⟩), .pointer (some ⟨w.heap.size + 1, 0, none⟩)]) ∧ w' = (w.alloc (.cells #[.int .i64 lo] 3)).alloc (.cells #[.int .i64 hi] 3) := by
  have hmf : ∀ (fn : Fn) (first cap : Array Value) (w : World), (Instr.makeFunc fn first cap).run Try.prog w = .ok (.func fn first cap) w := fun _ _ _ _ => rfl
  go_enter Try.func19, Try.ntmps19
  go_wp2
  go_ret
  exact ⟨rfl, rfl⟩
set_option maxRecDepth 100000 in
theorem clos_c (lo hi n : Int) (a b : Nat) (w : World) (h1 : w.cell? ⟨a, 0, none⟩ = some (.int .i64 lo)) (h2 : w.cell? ⟨b, 0, none⟩ = some (.int .i64 hi)) : Calls Try.prog 22 #[.int .i64 n, .pointer (some ⟨a, 0, none⟩), .pointer (some ⟨b, 0, none⟩)] w fun e w' => e = .returned (.int .i64 (min (max n lo) hi)) ∧ w' = w := by
  have i2 := max_if n lo
  have i3 := min_if (max n lo) hi
  go_enter Try.func22, Try.ntmps22
  go_wp2
  go_ret
  exact ⟨rfl, rfl⟩
theorem bt_cells (lo hi : Int) (w : World) : ((w.alloc (.cells #[.int .i64 lo] 3)).alloc (.cells #[.int .i64 hi] 3)).cell? ⟨w.heap.size, 0, none⟩ = some (.int .i64 lo) ∧ ((w.alloc (.cells #[.int .i64 lo] 3)).alloc (.cells #[.int .i64 hi] 3)).cell? ⟨w.heap.size + 1, 0, none⟩ = some (.int .i64 hi) ∧ Below w.heap.size w ((w.alloc (.cells #[.int .i64 lo] 3)).alloc (.cells #[.int .i64 hi] 3)) := by
  refine ⟨by simp [go_sem], by simp [go_sem], ((Below.refl _ w).alloc (Nat.le_refl _) _).alloc (by simp) _⟩

set_option maxRecDepth 100000 in
theorem isTime_c (n : Int) (w : World) : Calls Try.prog 17 #[.int .i64 n] w fun e w' => e = .returned (.bool (decide (0 ≤ n ∧ n ≤ 1125899906842624))) ∧ Below w.heap.size w w' := by
  obtain ⟨c1, c2, hb⟩ := bt_cells 0 1125899906842624 w
  have hcl := clos_c 0 1125899906842624 n _ _ _ c1 c2
  have HB : Aside _ := hb
  clear c1 c2 hb
  go_enter Try.func17, Try.ntmps17
  go_wp2_with fail
  refine (between_c _ _ w).mono ?_
  rintro e w' ⟨rfl, h⟩
  subst w'
  go_wp2_with fail
  refine hcl.mono ?_
  rintro e w' ⟨rfl, h⟩
  subst w'
  generalize hm : min (max n 0) 1125899906842624 = mm
  go_wp2
  go_ret
  refine ⟨congrArg (fun b => Ending.returned (.bool b)) (?_ : (mm == n) = decide (0 ≤ n ∧ n ≤ 1125899906842624)), HB.out⟩
  rw [Bool.eq_iff_iff]
  simp only [beq_iff_eq, decide_eq_true_eq]
  omega
set_option maxRecDepth 100000 in
theorem apart_c (a b : Int) (w : World) (ha : 0 ≤ a) (ha' : a ≤ 4611686018427387904) (hb : 0 ≤ b) (hb' : b ≤ 4611686018427387904) : Calls Try.prog 23 #[.int .i64 a, .int .i64 b] w fun e w' => e = .returned (.int .i64 (max a b - min a b)) ∧ w' = w := by
  have i1 : IntKind.i64.wrap (max a b - min a b) = max a b - min a b := wrp _ (by omega) (by omega)
  have i2 := max_if a b
  have i3 := min_if a b
  go_enter Try.func23, Try.ntmps23
  go_wp2
  go_ret
  exact ⟨rfl, rfl⟩
end Go.Proofs.Ythjfhckpgindfaa
