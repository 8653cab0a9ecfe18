/- What header.shortByte and header.putVersions answer: contracts. -/
import Derived.Test.YtlllejgpmdeeiaaDoorMay
import Derived.Test.YtlllejgpmdeeiaaDoorClone
import Derived.Test.YtlllejgpmdeeiaaDoorPuts
namespace Go.Proofs.YtlllejgpmdeeiaaDoor
open Go.ChangeShapes Go.WideShapes Go.ChangeAt Go.RowKit
set_option linter.unusedVariables false

theorem or64 (n : Int) (h1 : 1 ≤ n) (h4 : n ≤ 4) : bits BinOp.or IntKind.i64 64 n = 64 + n := by
  have h : n = 1 ∨ n = 2 ∨ n = 3 ∨ n = 4 := by omega
  rcases h with rfl | rfl | rfl | rfl <;> decide
theorem or4 (n : Int) (h1 : 1 ≤ n) (h4 : n ≤ 4) : bits BinOp.or IntKind.u8 (63 + n) 4 = 67 + n := by
  have h : n = 1 ∨ n = 2 ∨ n = 3 ∨ n = 4 := by omega
  rcases h with rfl | rfl | rfl | rfl <;> decide
def sB (ph : Bool) (n : Int) : Int := if ph = true then 67 + n else 63 + n
theorem shortByte_any (ph : Bool) (n : Int) (w : World) (h1 : 1 ≤ n) (h4 : n ≤ 4) :
    Calls Tryd.prog 36 #[.bool ph, .int .i64 n] w fun e w' => e = .returned (.int .u8 (sB ph n)) ∧ w' = w := by
  have a1 := or64 n h1 h4
  have a2 := or4 n h1 h4
  have a3 : 64 + n - 1 = 63 + n := by omega
  cases ph
  · have hs : Hid (sB false n = 63 + n) := rfl
    go_enter Tryd.func36, Tryd.ntmps36
    go_wp2
    go_ret
    rw [hs.out]
    exact ⟨rfl, rfl⟩
  · have hs : Hid (sB true n = 67 + n) := rfl
    go_enter Tryd.func36, Tryd.ntmps36
    go_wp2
    go_ret
    rw [hs.out]
    exact ⟨rfl, rfl⟩
end Go.Proofs.YtlllejgpmdeeiaaDoor
