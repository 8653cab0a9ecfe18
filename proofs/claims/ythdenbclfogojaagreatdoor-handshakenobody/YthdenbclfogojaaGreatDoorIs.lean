/- errors.Is by its contracts, for a target that is an api.Errno. -/
import Derived.Test.YthdenbclfogojaaGreatDoorChecked
import Derived.WalkKit
import Derived.LaidEql
import Derived.Stop.Asserts
import Derived.RowKitTokens
namespace Go.Proofs.YthdenbclfogojaaGreatDoor
open Go.RowKit Go.Extern.Stop Go.Stop Go.Extern
set_option linter.unusedVariables false

/-- a type's handle -/
abbrev hdl (t : Nat) : Value := .pointer (some ⟨1, t, none⟩)
abbrev rtp (t : Nat) : Value := .iface 150 (.agg #[hdl t])
theorem c29 (v : Value) (w : World) : (callFunc 29 #[.iface 42 v]).run Tryz.prog w = .ok (.value (rtp 42)) w := by
  rw [@run_callFunc_extern Tryz.prog 29 _ ReflectliteType.typeOf Tryz.func29 (by kernel_rfl) (by kernel_rfl) (by kernel_rfl) (by kernel_rfl)]
  kernel_rfl
theorem mComp (t : Nat) (w : World) : (Go.method 422 150 (.agg #[hdl t]) "Comparable").run Tryz.prog w = .ok (164, .agg #[hdl t]) w := by kernel_rfl
theorem c164 (w : World) : (callFunc 164 #[.agg #[hdl 42]]).run Tryz.prog w = .ok (.value (.bool true)) w := by
  rw [@run_callFunc_extern Tryz.prog 164 _ (Extern.ReflectliteType.method fun t => do Go.Extern.Rtype.noPackHeld "Comparable" t; pure (.bool (← typeInfo t).comparable)) Tryz.func164 (by kernel_rfl) (by kernel_rfl) (by kernel_rfl) (by kernel_rfl)]
  kernel_rfl
theorem eqE (w : World) : (binOp .eql 50 (.iface 42 (.int .i64 1)) (.iface 42 (.int .i64 1))).run Tryz.prog w = .ok (.bool true) w := by kernel_rfl
set_option maxRecDepth 10000 in
theorem is_one (w : World) : Calls Tryz.prog 9 #[.iface 42 (.int .i64 1), .iface 42 (.int .i64 1)] w fun e w' => e = .returned (.bool true) ∧ w' = w := by
  have h29 := c29
  have h164 := c164
  have mR := mComp
  have heq := eqE
  go_enter Tryz.func9, Tryz.ntmps9
  go_wp2
  refine wp_loop_rounds 1 ?_
  rw [rounds_succ]
  go_wp2
  go_ret
  exact ⟨rfl, rfl⟩
end Go.Proofs.YthdenbclfogojaaGreatDoor
