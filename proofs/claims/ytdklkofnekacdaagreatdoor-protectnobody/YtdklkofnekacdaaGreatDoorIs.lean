/- errors.Is by its contracts, for a target that is an api.Errno. -/
import Derived.Test.YtdklkofnekacdaaGreatDoorProg
import Derived.WalkKit
import Derived.LaidEql
import Derived.Stop.Asserts
import Derived.RowKitTokens
namespace Go.Proofs.YtdklkofnekacdaaGreatDoor
open Go.RowKit Go.Extern.Stop Go.Stop Go.Extern
set_option linter.unusedVariables false

/-- a type's handle -/
abbrev hdl (t : Nat) : Value := .pointer (some ⟨2, t, none⟩)
abbrev rtp (t : Nat) : Value := .iface 199 (.agg #[hdl t])
theorem c88 (v : Value) (w : World) : (callFunc 88 #[.iface 39 v]).run Tryz.prog w = .ok (.value (rtp 39)) w := by
  rw [@run_callFunc_extern Tryz.prog 88 _ ReflectliteType.typeOf Tryz.func88 (by kernel_rfl) (by kernel_rfl) (by kernel_rfl) (by kernel_rfl)]
  kernel_rfl
theorem mComp (t : Nat) (w : World) : (Go.method 374 199 (.agg #[hdl t]) "Comparable").run Tryz.prog w = .ok (169, .agg #[hdl t]) w := by kernel_rfl
theorem c169 (w : World) : (callFunc 169 #[.agg #[hdl 39]]).run Tryz.prog w = .ok (.value (.bool true)) w := by
  rw [@run_callFunc_extern Tryz.prog 169 _ (Extern.ReflectliteType.method fun t => do Go.Extern.Rtype.noPackHeld "Comparable" t; pure (.bool (← typeInfo t).comparable)) Tryz.func169 (by kernel_rfl) (by kernel_rfl) (by kernel_rfl) (by kernel_rfl)]
  kernel_rfl
theorem eqE (w : World) : (binOp .eql 57 (.iface 39 (.int .i64 1)) (.iface 39 (.int .i64 1))).run Tryz.prog w = .ok (.bool true) w := by kernel_rfl
set_option maxRecDepth 10000 in
theorem is_one (w : World) : Calls Tryz.prog 55 #[.iface 39 (.int .i64 1), .iface 39 (.int .i64 1)] w fun e w' => e = .returned (.bool true) ∧ w' = w := by
  have h88 := c88
  have h169 := c169
  have mR := mComp
  have heq := eqE
  go_enter Tryz.func55, Tryz.ntmps55
  go_wp2
  refine wp_loop_rounds 1 ?_
  rw [rounds_succ]
  go_wp2
  go_ret
  exact ⟨rfl, rfl⟩
end Go.Proofs.YtdklkofnekacdaaGreatDoor
