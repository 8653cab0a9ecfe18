/- params: Default on both sides; what both are alike in. -/
import Derived.Test.YtcppnellgkbndaaDoorRe
import Derived.Test.YtcppnellgkbndaaDoorRu
import Derived.Test.YtcppnellgkbndaaDoorMq
namespace Go.Proofs.YtcppnellgkbndaaDoor
open Go.ChangeShapes Go.WideShapes Go.ChangeAt Go.RowKit Go.Shelf
set_option linter.unusedVariables false
set_option maxRecDepth 100000

/-- The program's parameters by default. -/
def dps : Ps where
  idle := 0
  payload := 65527
  data := 0
  bl := 0
  br := 0
  un := 0
  sb := 0
  su := 0
  ex := 3
  de := 25
  still := false
  ids := 2
  dg := 0
  orig := ⟨none, [], 0⟩
  first := ⟨none, [], 0⟩
  again := ⟨none, [], 0⟩
  hasAgain := false
  reset := List.replicate 16 0
  hasReset := false
theorem dps_cells : dps.cells.toArray = defA := by rfl
theorem dps_pl (w : World) : Pl w dps := ⟨⟨fun j hj => absurd hj (by simp [dps]), fun _ => ⟨rfl, rfl⟩⟩, ⟨fun j hj => absurd hj (by simp [dps]), fun _ => ⟨rfl, rfl⟩⟩, ⟨fun j hj => absurd hj (by simp [dps]), fun _ => ⟨rfl, rfl⟩⟩, rfl⟩
theorem dps_ref : (refq dps).cells = (dflQ.setT 2 ZS).cells := by rfl
theorem hq34 (w : World) : (binOp .neq 34 (.agg (dflQ.setT 2 ZS).cells.toArray) (.agg (dflQ.setT 2 ZS).cells.toArray)).run Tryd.prog w = .ok (.bool false) w := by kernel_rfl
end Go.Proofs.YtcppnellgkbndaaDoor
