/- errors.Is by its contracts, for a target that is an api.Errno. -/
import Derived.Test.YtijndpjdmiljkaaGreatDoorNob
import Derived.WalkKit
import Derived.LaidEql
import Derived.Stop.Asserts
import Derived.RowKitTokens
namespace Go.Proofs.YtijndpjdmiljkaaGreatDoor
open Go.RowKit Go.Extern.Stop Go.Stop Go.Extern
set_option linter.unusedVariables false

/-- a type's handle -/
abbrev hdl (t : Nat) : Value := .pointer (some ⟨3, t, none⟩)
abbrev rtp (t : Nat) : Value := .iface 214 (.agg #[hdl t])
theorem c70 (v : Value) (w : World) : (callFunc 70 #[.iface 53 v]).run Tryz.prog w = .ok (.value (rtp 53)) w := by
  rw [@run_callFunc_extern Tryz.prog 70 _ ReflectliteType.typeOf Tryz.func70 (by kernel_rfl) (by kernel_rfl) (by kernel_rfl) (by kernel_rfl)]
  kernel_rfl
theorem mComp (t : Nat) (w : World) : (Go.method 443 214 (.agg #[hdl t]) "Comparable").run Tryz.prog w = .ok (272, .agg #[hdl t]) w := by kernel_rfl
theorem c272 (w : World) : (callFunc 272 #[.agg #[hdl 53]]).run Tryz.prog w = .ok (.value (.bool true)) w := by
  rw [@run_callFunc_extern Tryz.prog 272 _ (Extern.ReflectliteType.method fun t => do Go.Extern.Rtype.noPackHeld "Comparable" t; pure (.bool (← typeInfo t).comparable)) Tryz.func272 (by kernel_rfl) (by kernel_rfl) (by kernel_rfl) (by kernel_rfl)]
  kernel_rfl
theorem eqE (w : World) : (binOp .eql 70 (.iface 53 (.int .i64 1)) (.iface 53 (.int .i64 1))).run Tryz.prog w = .ok (.bool true) w := by kernel_rfl
set_option maxRecDepth 10000 in
theorem is_one (w : World) : Calls Tryz.prog 25 #[.iface 53 (.int .i64 1), .iface 53 (.int .i64 1)] w fun e w' => e = .returned (.bool true) ∧ w' = w := by
  have h70 := c70
  have h272 := c272
  have mR := mComp
  have heq := eqE
  go_enter Tryz.func25, Tryz.ntmps25
  go_wp2
  refine wp_loop_rounds 1 ?_
  rw [rounds_succ]
  go_wp2
  go_ret
  exact ⟨rfl, rfl⟩
end Go.Proofs.YtijndpjdmiljkaaGreatDoor
