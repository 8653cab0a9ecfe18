/- errors.As by its contracts, for a target of *api.Close. -/
import Derived.Test.YtmgknknjlpdciaaDoorChecked
import Derived.WalkKit
import Derived.LaidEql
import Derived.Stop.Asserts
import Derived.RowKitTokens
namespace Go.Proofs.YtmgknknjlpdciaaDoor
open Go.RowKit Go.Extern.Stop Go.Stop Go.Extern
set_option linter.unusedVariables false

/-- a type's handle -/
abbrev hdl (t : Nat) : Value := .pointer (some ⟨3, t, none⟩)
abbrev rtp (t : Nat) : Value := .iface 135 (.agg #[hdl t])

theorem c59 (q : Option Addr) (w : World) : (callFunc 59 #[.iface 88 (.pointer q)]).run Tryd.prog w = .ok (.value (.agg #[hdl 88, .pointer (some ⟨w.heap.size, 0, none⟩), .int .u64 150])) (w.alloc (.cells #[.pointer q] 88)) := by
  rw [@run_callFunc_extern Tryd.prog 59 _ (fun args => ReflectliteValue.unpack (args.getD 0 (.tuple #[]))) Tryd.func59 (by kernel_rfl) (by kernel_rfl) (by kernel_rfl) (by kernel_rfl)]
  kernel_rfl
theorem c59c (q : Option Addr) (w : World) : (callFunc 59 #[.iface 58 (.pointer q)]).run Tryd.prog w = .ok (.value (.agg #[hdl 58, .pointer (some ⟨w.heap.size, 0, none⟩), .int .u64 150])) (w.alloc (.cells #[.pointer q] 58)) := by
  rw [@run_callFunc_extern Tryd.prog 59 _ (fun args => ReflectliteValue.unpack (args.getD 0 (.tuple #[]))) Tryd.func59 (by kernel_rfl) (by kernel_rfl) (by kernel_rfl) (by kernel_rfl)]
  kernel_rfl
theorem c60 (a : Addr) (w : World) : (callFunc 60 #[.agg #[hdl 88, .pointer (some a), .int .u64 150]]).run Tryd.prog w = .ok (.value (rtp 88)) w := by
  rw [@run_callFunc_extern Tryd.prog 60 _ (ReflectliteValue.methodAny (ReflectliteValue.valueError "reflectlite.Value.Type" 0) fun t _ _ _ => ReflectliteType.toType t) Tryd.func60 (by kernel_rfl) (by kernel_rfl) (by kernel_rfl) (by kernel_rfl)]
  kernel_rfl
theorem c57 (v : Value) (w : World) : (callFunc 57 #[.iface 58 v]).run Tryd.prog w = .ok (.value (rtp 58)) w := by
  rw [@run_callFunc_extern Tryd.prog 57 _ ReflectliteType.typeOf Tryd.func57 (by kernel_rfl) (by kernel_rfl) (by kernel_rfl) (by kernel_rfl)]
  kernel_rfl
theorem mKind (t : Nat) (w : World) : (Go.method 292 135 (.agg #[hdl t]) "Kind").run Tryd.prog w = .ok (91, hdl t) w := by kernel_rfl
theorem mElem (t : Nat) (w : World) : (Go.method 292 135 (.agg #[hdl t]) "Elem").run Tryd.prog w = .ok (122, .agg #[hdl t]) w := by kernel_rfl
theorem mImpl (t : Nat) (w : World) : (Go.method 292 135 (.agg #[hdl t]) "Implements").run Tryd.prog w = .ok (123, .agg #[hdl t]) w := by kernel_rfl
theorem mAss (t : Nat) (w : World) : (Go.method 292 135 (.agg #[hdl t]) "AssignableTo").run Tryd.prog w = .ok (120, .agg #[hdl t]) w := by kernel_rfl
theorem c91 (w : World) : (callFunc 91 #[hdl 88]).run Tryd.prog w = .ok (.value (.int .u8 22)) w := by
  rw [@run_callFunc_extern Tryd.prog 91 _ (ReflectliteType.abiMethod fun t => do pure (.int .u8 (← Rtype.kind t))) Tryd.func91 (by kernel_rfl) (by kernel_rfl) (by kernel_rfl) (by kernel_rfl)]
  kernel_rfl
theorem c91c (w : World) : (callFunc 91 #[hdl 58]).run Tryd.prog w = .ok (.value (.int .u8 22)) w := by
  rw [@run_callFunc_extern Tryd.prog 91 _ (ReflectliteType.abiMethod fun t => do pure (.int .u8 (← Rtype.kind t))) Tryd.func91 (by kernel_rfl) (by kernel_rfl) (by kernel_rfl) (by kernel_rfl)]
  kernel_rfl
theorem c122 (w : World) : (callFunc 122 #[.agg #[hdl 88]]).run Tryd.prog w = .ok (.value (rtp 58)) w := by
  rw [@run_callFunc_extern Tryd.prog 122 _ (ReflectliteType.method ReflectliteType.elem) Tryd.func122 (by kernel_rfl) (by kernel_rfl) (by kernel_rfl) (by kernel_rfl)]
  kernel_rfl
theorem c123 (w : World) : (callFunc 123 #[.agg #[hdl 58], rtp 38]).run Tryd.prog w = .ok (.value (.bool true)) w := by
  rw [@run_callFunc_extern Tryd.prog 123 _ (ReflectliteType.relation "Implements" ReflectliteType.implements_) Tryd.func123 (by kernel_rfl) (by kernel_rfl) (by kernel_rfl) (by kernel_rfl)]
  kernel_rfl
theorem c120 (w : World) : (callFunc 120 #[.agg #[hdl 58], rtp 58]).run Tryd.prog w = .ok (.value (.bool true)) w := by
  rw [@run_callFunc_extern Tryd.prog 120 _ (ReflectliteType.relation "AssignableTo" ReflectliteType.assignableTo) Tryd.func120 (by kernel_rfl) (by kernel_rfl) (by kernel_rfl) (by kernel_rfl)]
  kernel_rfl
end Go.Proofs.YtmgknknjlpdciaaDoor
