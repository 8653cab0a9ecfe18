/- errors.As by its contracts, for a target of *api.Close. -/
import Derived.Test.YtijndpjdmiljkaaGreatDoorIs
import Derived.WalkKit
import Derived.LaidEql
import Derived.Stop.Asserts
import Derived.RowKitTokens
namespace Go.Proofs.YtijndpjdmiljkaaGreatDoor
open Go.RowKit Go.Extern.Stop Go.Stop Go.Extern
set_option linter.unusedVariables false
set_option maxRecDepth 100000


theorem axc59 (q : Option Addr) (w : World) : (callFunc 135 #[.iface 141 (.pointer q)]).run Tryz.prog w = .ok (.value (.agg #[hdl 141, .pointer (some ⟨w.heap.size, 0, none⟩), .int .u64 150])) (w.alloc (.cells #[.pointer q] 141)) := by
  rw [@run_callFunc_extern Tryz.prog 135 _ (fun args => ReflectliteValue.unpack (args.getD 0 (.tuple #[]))) Tryz.func135 (by kernel_rfl) (by kernel_rfl) (by kernel_rfl) (by kernel_rfl)]
  kernel_rfl
theorem axc59c (q : Option Addr) (w : World) : (callFunc 135 #[.iface 139 (.pointer q)]).run Tryz.prog w = .ok (.value (.agg #[hdl 139, .pointer (some ⟨w.heap.size, 0, none⟩), .int .u64 150])) (w.alloc (.cells #[.pointer q] 139)) := by
  rw [@run_callFunc_extern Tryz.prog 135 _ (fun args => ReflectliteValue.unpack (args.getD 0 (.tuple #[]))) Tryz.func135 (by kernel_rfl) (by kernel_rfl) (by kernel_rfl) (by kernel_rfl)]
  kernel_rfl
theorem axc60 (a : Addr) (w : World) : (callFunc 136 #[.agg #[hdl 141, .pointer (some a), .int .u64 150]]).run Tryz.prog w = .ok (.value (rtp 141)) w := by
  rw [@run_callFunc_extern Tryz.prog 136 _ (ReflectliteValue.methodAny (ReflectliteValue.valueError "reflectlite.Value.Type" 0) fun t _ _ _ => ReflectliteType.toType t) Tryz.func136 (by kernel_rfl) (by kernel_rfl) (by kernel_rfl) (by kernel_rfl)]
  kernel_rfl
theorem axc57 (v : Value) (w : World) : (callFunc 70 #[.iface 139 v]).run Tryz.prog w = .ok (.value (rtp 139)) w := by
  rw [@run_callFunc_extern Tryz.prog 70 _ ReflectliteType.typeOf Tryz.func70 (by kernel_rfl) (by kernel_rfl) (by kernel_rfl) (by kernel_rfl)]
  kernel_rfl
theorem mKind (t : Nat) (w : World) : (Go.method 443 214 (.agg #[hdl t]) "Kind").run Tryz.prog w = .ok (254, hdl t) w := by kernel_rfl
theorem mElem (t : Nat) (w : World) : (Go.method 443 214 (.agg #[hdl t]) "Elem").run Tryz.prog w = .ok (273, .agg #[hdl t]) w := by kernel_rfl
theorem mImpl (t : Nat) (w : World) : (Go.method 443 214 (.agg #[hdl t]) "Implements").run Tryz.prog w = .ok (274, .agg #[hdl t]) w := by kernel_rfl
theorem mAss (t : Nat) (w : World) : (Go.method 443 214 (.agg #[hdl t]) "AssignableTo").run Tryz.prog w = .ok (271, .agg #[hdl t]) w := by kernel_rfl
theorem axc91 (w : World) : (callFunc 254 #[hdl 141]).run Tryz.prog w = .ok (.value (.int .u8 22)) w := by
  rw [@run_callFunc_extern Tryz.prog 254 _ (ReflectliteType.abiMethod fun t => do pure (.int .u8 (← Rtype.kind t))) Tryz.func254 (by kernel_rfl) (by kernel_rfl) (by kernel_rfl) (by kernel_rfl)]
  kernel_rfl
theorem axc91c (w : World) : (callFunc 254 #[hdl 139]).run Tryz.prog w = .ok (.value (.int .u8 22)) w := by
  rw [@run_callFunc_extern Tryz.prog 254 _ (ReflectliteType.abiMethod fun t => do pure (.int .u8 (← Rtype.kind t))) Tryz.func254 (by kernel_rfl) (by kernel_rfl) (by kernel_rfl) (by kernel_rfl)]
  kernel_rfl
theorem axc122 (w : World) : (callFunc 273 #[.agg #[hdl 141]]).run Tryz.prog w = .ok (.value (rtp 139)) w := by
  rw [@run_callFunc_extern Tryz.prog 273 _ (ReflectliteType.method ReflectliteType.elem) Tryz.func273 (by kernel_rfl) (by kernel_rfl) (by kernel_rfl) (by kernel_rfl)]
  kernel_rfl
theorem axc123 (w : World) : (callFunc 274 #[.agg #[hdl 139], rtp 70]).run Tryz.prog w = .ok (.value (.bool true)) w := by
  rw [@run_callFunc_extern Tryz.prog 274 _ (ReflectliteType.relation "Implements" ReflectliteType.implements_) Tryz.func274 (by kernel_rfl) (by kernel_rfl) (by kernel_rfl) (by kernel_rfl)]
  kernel_rfl
theorem axc120 (w : World) : (callFunc 271 #[.agg #[hdl 139], rtp 139]).run Tryz.prog w = .ok (.value (.bool true)) w := by
  rw [@run_callFunc_extern Tryz.prog 271 _ (ReflectliteType.relation "AssignableTo" ReflectliteType.assignableTo) Tryz.func271 (by kernel_rfl) (by kernel_rfl) (by kernel_rfl) (by kernel_rfl)]
  kernel_rfl
end Go.Proofs.YtijndpjdmiljkaaGreatDoor
