/- errors.Is and errors.As at what frame's reader tells. -/
import Derived.Test.YtaeapgkfmofjlaaDoorSa
import Derived.WalkKit
import Derived.Stop.Asserts
import Derived.RowKitTokens
import Derived.Below
namespace Go.Proofs.YtaeapgkfmofjlaaDoor
open Go.RowKit Go.Extern.Stop Go.Stop Go.Extern
set_option linter.unusedVariables false
set_option maxRecDepth 100000

/-- a type's handle -/
abbrev hdl (t : Nat) : Value := .pointer (some ⟨3, t, none⟩)
abbrev rtp (t : Nat) : Value := .iface 135 (.agg #[hdl t])
theorem hidIt {p : Prop} (h : p) : Hid p := h
theorem eqlE (a b : Int) (w : World) : (binOp .eql 38 (.iface 29 (.int .i64 a)) (.iface 29 (.int .i64 b))).run Tryd.prog w = .ok (.bool (a == b)) w := by kernel_rfl
theorem c50 (v : Value) (w : World) : (callFunc 50 #[.iface 29 v]).run Tryd.prog w = .ok (.value (rtp 29)) w := by
  rw [@run_callFunc_extern Tryd.prog 50 _ ReflectliteType.typeOf Tryd.func50 (by kernel_rfl) (by kernel_rfl) (by kernel_rfl) (by kernel_rfl)]
  kernel_rfl
theorem c50p (v : Value) (w : World) : (callFunc 50 #[.iface 155 v]).run Tryd.prog w = .ok (.value (rtp 155)) w := by
  rw [@run_callFunc_extern Tryd.prog 50 _ ReflectliteType.typeOf Tryd.func50 (by kernel_rfl) (by kernel_rfl) (by kernel_rfl) (by kernel_rfl)]
  kernel_rfl
theorem comparable_c : ∃ M : Array Value → Sem Value, (∀ (args : Array Value) (w : World), (callFunc 114 args).run Tryd.prog w = ((M args).run Tryd.prog w).andThen fun v w' => .ok (.value v) w') ∧ (∀ w, (M #[.agg #[hdl 29]]).run Tryd.prog w = .ok (.bool true) w) ∧ ∀ w, (M #[.agg #[hdl 155]]).run Tryd.prog w = .ok (.bool true) w :=
  ⟨_, @run_callFunc_extern Tryd.prog 114 _ (Extern.ReflectliteType.method fun t => do Go.Extern.Rtype.noPackHeld "Comparable" t; pure (.bool (← typeInfo t).comparable)) Tryd.func114 (by kernel_rfl) (by kernel_rfl) (by kernel_rfl) (by kernel_rfl), fun w => by kernel_rfl, fun w => by kernel_rfl⟩
theorem mCmp (t : Nat) (w : World) : (Go.method 292 135 (.agg #[hdl t]) "Comparable").run Tryd.prog w = .ok (114, .agg #[hdl t]) w := by kernel_rfl
theorem noIsN (v : Value) (xT : TypeId) (w : World) : (Instr.typeAssert (.iface 29 v) xT 137 true).run Tryd.prog w = .ok (.tuple #[.nilIface, .bool false]) w := run_typeAssert_lacksB Tryd.underlying137 (by kernel_rfl) (by kernel_rfl) v xT w
theorem noUnN (v : Value) (xT : TypeId) (w : World) : (Instr.typeAssert (.iface 29 v) xT 140 true).run Tryd.prog w = .ok (.tuple #[.nilIface, .bool false]) w := run_typeAssert_lacksB Tryd.underlying140 (by kernel_rfl) (by kernel_rfl) v xT w
theorem noUnsN (v : Value) (xT : TypeId) (w : World) : (Instr.typeAssert (.iface 29 v) xT 142 true).run Tryd.prog w = .ok (.tuple #[.nilIface, .bool false]) w := run_typeAssert_lacksB Tryd.underlying142 (by kernel_rfl) (by kernel_rfl) v xT w
theorem noAsN (v : Value) (xT : TypeId) (w : World) : (Instr.typeAssert (.iface 29 v) xT 147 true).run Tryd.prog w = .ok (.tuple #[.nilIface, .bool false]) w := run_typeAssert_lacksB Tryd.underlying147 (by kernel_rfl) (by kernel_rfl) v xT w
theorem noIsP (v : Value) (xT : TypeId) (w : World) : (Instr.typeAssert (.iface 155 v) xT 137 true).run Tryd.prog w = .ok (.tuple #[.nilIface, .bool false]) w := run_typeAssert_lacksB Tryd.underlying137 (by kernel_rfl) (by kernel_rfl) v xT w
theorem noUnP (v : Value) (xT : TypeId) (w : World) : (Instr.typeAssert (.iface 155 v) xT 140 true).run Tryd.prog w = .ok (.tuple #[.nilIface, .bool false]) w := run_typeAssert_lacksB Tryd.underlying140 (by kernel_rfl) (by kernel_rfl) v xT w
theorem noUnsP (v : Value) (xT : TypeId) (w : World) : (Instr.typeAssert (.iface 155 v) xT 142 true).run Tryd.prog w = .ok (.tuple #[.nilIface, .bool false]) w := run_typeAssert_lacksB Tryd.underlying142 (by kernel_rfl) (by kernel_rfl) v xT w
/-- What errors.Is answers at a target: y. -/
def IsR (ev tv : Value) (y : Bool) : Prop := ∀ w, Calls Tryd.prog 36 #[ev, tv] w fun e w' => e = .returned (.bool y) ∧ w' = w
def IsI (ev tv : Value) (y : Bool) : Prop := ∀ w, Calls Tryd.prog 51 #[ev, tv, .bool true] w fun e w' => e = .returned (.bool y) ∧ w' = w
theorem is_numI (a t : Int) : IsI (.iface 29 (.int .i64 a)) (.iface 29 (.int .i64 t)) (a == t) := by
  intro w
  have nE := noIsN
  have uE := noUnN
  have vE := noUnsN
  have heq := eqlE a t
  generalize (a == t) = y at *
  cases y
  all_goals
    go_enter Tryd.func51, Tryd.ntmps51
    go_wp2
    refine wp_loop_rounds 1 ?_
    rw [rounds_succ]
    go_wp2
    go_ret
    exact ⟨rfl, rfl⟩
theorem is_num (a t : Int) : IsR (.iface 29 (.int .i64 a)) (.iface 29 (.int .i64 t)) (a == t) := by
  intro w
  have h8 := c50
  obtain ⟨M, h32, cT, cP⟩ := comparable_c
  have mR := mCmp
  have hI := is_numI a t w
  have n1 := run_eql_iface_nil (P := Tryd.prog) (w := w) 38 (by kernel_rfl) 29 (.int .i64 a)
  have n2 := run_eql_iface_nil (P := Tryd.prog) (w := w) 38 (by kernel_rfl) 29 (.int .i64 t)
  go_enter Tryd.func36, Tryd.ntmps36
  go_wp2_with fail
  refine hI.mono ?_
  rintro e w' ⟨rfl, hw⟩
  subst w'
  go_wp2
  go_ret
  exact ⟨rfl, rfl⟩
theorem is_nwI (a : Int) (x : Option Addr) : IsI (.iface 29 (.int .i64 a)) (.iface 155 (.pointer x)) false := by
  intro w
  have nE := noIsN
  have uE := noUnN
  have vE := noUnsN
  have heq := run_eql_iface_types (P := Tryd.prog) 29 155 (.int .i64 a) (.pointer x) Tryd.underlying38 (by decide) w
  go_enter Tryd.func51, Tryd.ntmps51
  go_wp2
  refine wp_loop_rounds 1 ?_
  rw [rounds_succ]
  go_wp2
  go_ret
  exact ⟨rfl, rfl⟩
theorem is_nw (a : Int) (x : Option Addr) : IsR (.iface 29 (.int .i64 a)) (.iface 155 (.pointer x)) false := by
  intro w
  have h8 := c50p
  obtain ⟨M, h32, cT, cP⟩ := comparable_c
  have mR := mCmp
  have hI := is_nwI a x w
  have n1 := run_eql_iface_nil (P := Tryd.prog) (w := w) 38 (by kernel_rfl) 29 (.int .i64 a)
  have n2 := run_eql_iface_nil (P := Tryd.prog) (w := w) 38 (by kernel_rfl) 155 (.pointer x)
  go_enter Tryd.func36, Tryd.ntmps36
  go_wp2_with fail
  refine hI.mono ?_
  rintro e w' ⟨rfl, hw⟩
  subst w'
  go_wp2
  go_ret
  exact ⟨rfl, rfl⟩
theorem is_wnI (t : Int) (x : Option Addr) : IsI (.iface 155 (.pointer x)) (.iface 29 (.int .i64 t)) false := by
  intro w
  have nE := noIsP
  have uE := noUnP
  have vE := noUnsP
  have heq := run_eql_iface_types (P := Tryd.prog) 155 29 (.pointer x) (.int .i64 t) Tryd.underlying38 (by decide) w
  go_enter Tryd.func51, Tryd.ntmps51
  go_wp2
  refine wp_loop_rounds 1 ?_
  rw [rounds_succ]
  go_wp2
  go_ret
  exact ⟨rfl, rfl⟩
theorem is_wn (t : Int) (x : Option Addr) : IsR (.iface 155 (.pointer x)) (.iface 29 (.int .i64 t)) false := by
  intro w
  have h8 := c50
  obtain ⟨M, h32, cT, cP⟩ := comparable_c
  have mR := mCmp
  have hI := is_wnI t x w
  have n1 := run_eql_iface_nil (P := Tryd.prog) (w := w) 38 (by kernel_rfl) 155 (.pointer x)
  have n2 := run_eql_iface_nil (P := Tryd.prog) (w := w) 38 (by kernel_rfl) 29 (.int .i64 t)
  go_enter Tryd.func36, Tryd.ntmps36
  go_wp2_with fail
  refine hI.mono ?_
  rintro e w' ⟨rfl, hw⟩
  subst w'
  go_wp2
  go_ret
  exact ⟨rfl, rfl⟩
theorem eqlP (x : Option Addr) (w : World) : (binOp .eql 38 (.iface 155 (.pointer x)) (.iface 155 (.pointer x))).run Tryd.prog w = .ok (.bool true) w := by
  cases x with
  | none => kernel_rfl
  | some a =>
    have k1 : (Tryd.prog.info? 155).map (·.comparable) = some true := by kernel_rfl
    obtain ⟨i, hi, hc⟩ := Option.map_eq_some_iff.1 k1
    have k2 : (Tryd.prog.info? 180).map (·.size) = some 1 := by kernel_rfl
    obtain ⟨j, hj, _⟩ := Option.map_eq_some_iff.1 k2
    exact run_eql_iface_ptr_same w a Tryd.underlying38 Tryd.underlying155 hi hc hj
theorem is_wwI (x : Option Addr) : IsI (.iface 155 (.pointer x)) (.iface 155 (.pointer x)) true := by
  intro w
  have heq := eqlP x
  go_enter Tryd.func51, Tryd.ntmps51
  go_wp2
  refine wp_loop_rounds 1 ?_
  rw [rounds_succ]
  go_wp2
  go_ret
  exact ⟨rfl, rfl⟩
theorem is_ww (x : Option Addr) : IsR (.iface 155 (.pointer x)) (.iface 155 (.pointer x)) true := by
  intro w
  have h8 := c50p
  obtain ⟨M, h32, cT, cP⟩ := comparable_c
  have mR := mCmp
  have hI := is_wwI x w
  have n1 := run_eql_iface_nil (P := Tryd.prog) (w := w) 38 (by kernel_rfl) 155 (.pointer x)
  go_enter Tryd.func36, Tryd.ntmps36
  go_wp2_with fail
  refine hI.mono ?_
  rintro e w' ⟨rfl, hw⟩
  subst w'
  go_wp2
  go_ret
  exact ⟨rfl, rfl⟩
end Go.Proofs.YtaeapgkfmofjlaaDoor
