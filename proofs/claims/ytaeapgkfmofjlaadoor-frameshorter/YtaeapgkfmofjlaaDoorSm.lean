/- frame's reader: which methods. -/
import Derived.Test.YtaeapgkfmofjlaaDoorSl
namespace Go.Proofs.YtaeapgkfmofjlaaDoor
open Go.ChangeShapes Go.WideShapes Go.ChangeAt Go.RowKit
set_option linter.unusedVariables false
set_option maxRecDepth 10000

theorem mNumR (v : Value) (w : World) : (Go.method 292 72 v "caravel/frame.numbers").run Tryd.prog w = .ok (99, v) w := by kernel_rfl
theorem mIdR (v : Value) (w : World) : (Go.method 292 72 v "caravel/frame.id").run Tryd.prog w = .ok (98, v) w := by kernel_rfl
theorem mArrR (v : Value) (w : World) : (Go.method 292 72 v "caravel/frame.array").run Tryd.prog w = .ok (96, v) w := by kernel_rfl
theorem mCntR (v : Value) (w : World) : (Go.method 292 72 v "caravel/frame.counted").run Tryd.prog w = .ok (97, v) w := by kernel_rfl
theorem mRestR (v : Value) (w : World) : (Go.method 292 72 v "caravel/frame.rest").run Tryd.prog w = .ok (101, v) w := by kernel_rfl
theorem mPadR (v : Value) (w : World) : (Go.method 292 72 v "caravel/frame.padding").run Tryd.prog w = .ok (100, v) w := by kernel_rfl
theorem mAckR (v : Value) (w : World) : (Go.method 292 72 v "caravel/frame.acks").run Tryd.prog w = .ok (95, v) w := by kernel_rfl
theorem nNumR (a : Addr) (w : World) : (nilAhead 292 72 (.pointer (some a)) "caravel/frame.numbers").run Tryd.prog w = .ok (some false) w := by kernel_rfl
theorem nIdR (a : Addr) (w : World) : (nilAhead 292 72 (.pointer (some a)) "caravel/frame.id").run Tryd.prog w = .ok (some false) w := by kernel_rfl
theorem nArrR (a : Addr) (w : World) : (nilAhead 292 72 (.pointer (some a)) "caravel/frame.array").run Tryd.prog w = .ok (some false) w := by kernel_rfl
theorem nCntR (a : Addr) (w : World) : (nilAhead 292 72 (.pointer (some a)) "caravel/frame.counted").run Tryd.prog w = .ok (some false) w := by kernel_rfl
theorem nRestR (a : Addr) (w : World) : (nilAhead 292 72 (.pointer (some a)) "caravel/frame.rest").run Tryd.prog w = .ok (some false) w := by kernel_rfl
theorem nPadR (a : Addr) (w : World) : (nilAhead 292 72 (.pointer (some a)) "caravel/frame.padding").run Tryd.prog w = .ok (some false) w := by kernel_rfl
theorem nAckR (a : Addr) (w : World) : (nilAhead 292 72 (.pointer (some a)) "caravel/frame.acks").run Tryd.prog w = .ok (some false) w := by kernel_rfl

end Go.Proofs.YtaeapgkfmofjlaaDoor
