/- The walk of caravellaw02.HeaderOthers, for every input. -/
import Derived.Test.YtlllejgpmdeeiaaDoorOthers
import Derived.Test.YtlllejgpmdeeiaaDoorReadH
namespace Go.Proofs.YtlllejgpmdeeiaaDoor
open Go.ChangeShapes Go.WideShapes Go.ChangeAt Go.RowKit
set_option linter.unusedVariables false

theorem others_walk (v : Int) (ao : Option Addr) (D : List UInt8) (c : Nat) (ro : Option Addr) (X : List UInt8) (c' : Nat) (w : World) (ht : Tb w) (hD : Sl w ao D) (hDl : D.length ≤ 140737488351232) (hDn : ao = none → D.length = 0 ∧ c = 0)
    (hX : Sl w ro X) (hXl : X.length ≤ 140737488351232) (hXn : ro = none → X.length = 0 ∧ c' = 0) :
    Calls Tryd.prog 7 #[.int .i64 v, .slice ao D.length c, .slice ro X.length c'] w fun e w' => e = .returned (.bool true) ∧ Below w.heap.size w w' := by
  obtain ⟨hV0, hV1⟩ := and_32 v
  by_cases h0 : bits .and .i64 v 4294967295 = 0
  · exact others_0 v ao ro D.length c X.length c' w h0
  · by_cases h1 : bits .and .i64 v 4294967295 = 1
    · exact others_1 v ao ro D.length c X.length c' w h1
    · by_cases hn : D.length ≤ 20
      · exact others_in v ao ro D X c c' w _ rfl h0 h1 hV0 hV1 hn ht hD hX hDn hXn hXl read_any
      · exact others_long v ao ro D.length c X.length c' w _ rfl h0 h1 (by omega) (by omega)
end Go.Proofs.YtlllejgpmdeeiaaDoor
