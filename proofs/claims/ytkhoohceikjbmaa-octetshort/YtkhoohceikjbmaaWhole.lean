/- What octet.Whole answers, for every input: contracts. -/
import Derived.Test.YtkhoohceikjbmaaShort
namespace Go.Proofs.Ytkhoohceikjbmaa
open Go.ChangeShapes Go.WideShapes Go.ChangeAt Go.RowKit
set_option linter.unusedVariables false

set_option maxRecDepth 10000 in
theorem whole_1 (low g : Int) (w : World) (h0 : 0 ≤ low) (h1 : low < 256) (h2 : -1 ≤ g) (h3 : g ≤ 4611686018427387903) :
    Calls Try.prog 7 #[.int .u64 low, .int .i64 1, .int .i64 g] w fun e w' => e = .returned (.tuple #[.int .i64 (wh low 256 g), .int .i64 0]) ∧ w' = w := by
  go_enter Try.func7, Try.ntmps7
  go_wp2
  all_goals
    go_ret2
    refine ⟨ret_tup2 ?_, rfl⟩
  all_goals
    unfold wh whTop
    omega
set_option maxRecDepth 10000 in
theorem whole_2 (low g : Int) (w : World) (h0 : 0 ≤ low) (h1 : low < 65536) (h2 : -1 ≤ g) (h3 : g ≤ 4611686018427387903) :
    Calls Try.prog 7 #[.int .u64 low, .int .i64 2, .int .i64 g] w fun e w' => e = .returned (.tuple #[.int .i64 (wh low 65536 g), .int .i64 0]) ∧ w' = w := by
  go_enter Try.func7, Try.ntmps7
  go_wp2
  all_goals
    go_ret2
    refine ⟨ret_tup2 ?_, rfl⟩
  all_goals
    unfold wh whTop
    omega
set_option maxRecDepth 10000 in
theorem whole_3 (low g : Int) (w : World) (h0 : 0 ≤ low) (h1 : low < 16777216) (h2 : -1 ≤ g) (h3 : g ≤ 4611686018427387903) :
    Calls Try.prog 7 #[.int .u64 low, .int .i64 3, .int .i64 g] w fun e w' => e = .returned (.tuple #[.int .i64 (wh low 16777216 g), .int .i64 0]) ∧ w' = w := by
  go_enter Try.func7, Try.ntmps7
  go_wp2
  all_goals
    go_ret2
    refine ⟨ret_tup2 ?_, rfl⟩
  all_goals
    unfold wh whTop
    omega
set_option maxRecDepth 10000 in
theorem whole_4 (low g : Int) (w : World) (h0 : 0 ≤ low) (h1 : low < 4294967296) (h2 : -1 ≤ g) (h3 : g ≤ 4611686018427387903) :
    Calls Try.prog 7 #[.int .u64 low, .int .i64 4, .int .i64 g] w fun e w' => e = .returned (.tuple #[.int .i64 (wh low 4294967296 g), .int .i64 0]) ∧ w' = w := by
  go_enter Try.func7, Try.ntmps7
  go_wp2
  all_goals
    go_ret2
    refine ⟨ret_tup2 ?_, rfl⟩
  all_goals
    unfold wh whTop
    omega
end Go.Proofs.Ytkhoohceikjbmaa
