/- The reference's Read, of every input. -/
import Derived.Test.YtcchlicokglmnaaQi15
import Derived.Test.YtcchlicokglmnaaQi11
import Derived.Test.YtcchlicokglmnaaQi2
import Derived.Test.YtcchlicokglmnaaQi8
import Derived.Test.YtcchlicokglmnaaQi4
import Derived.Test.YtcchlicokglmnaaQi1
import Derived.Test.YtcchlicokglmnaaQr
namespace Go.Proofs.Ytcchlicokglmnaa
open Go.ChangeShapes Go.WideShapes Go.ChangeAt Go.RowKit Go.Lib
set_option linter.unusedVariables false

section
variable {w : World} {o : Option Addr} {L : List UInt8} {c : Nat} {a : Int}
theorem rread_c (hs : Sl w o L) (hL : L.length ≤ 9223372036854000000) (hc : L.length ≤ c) (hc63 : c ≤ 9223372036854775807) : Calls Try.prog 14 #[.slice o L.length c, .int .i64 a] w (ReadR L a w) := by
  by_cases h1 : a < 0 ∨ (L.length : Int) < a
  · refine rread_arg ?_ h1
    have e1 : getE L a 1 = 2 := by unfold getE; rw [if_pos h1]
    have e2 : cutE L a = 2 := by unfold cutE; rw [if_pos (by rw [e1]; decide), e1]
    unfold readE
    rw [if_pos (by rw [e2]; decide), e2]
  by_cases h2 : (L.length : Int) < a + 4
  · refine rread_end ?_ hc hc63 (by omega) (by omega) h2
    have e2 : cutE L a = 10 := by
      unfold cutE
      by_cases h3 : a + 1 ≤ (L.length : Int)
      · have e1 : getE L a 1 = 0 := by unfold getE; rw [if_neg h1, if_pos (by omega)]
        have e3 : getE L (a + 1) 3 = 10 := by unfold getE; rw [if_neg (by omega), if_neg (by omega)]
        rw [if_neg (by rw [e1]; decide), if_pos (by rw [e3]; decide), e3]
      · have e1 : getE L a 1 = 10 := by unfold getE; rw [if_neg h1, if_neg (by omega)]
        rw [if_pos (by rw [e1]; decide), e1]
    unfold readE
    rw [if_pos (by rw [e2]; decide), e2]
  by_cases h3 : cutE L a = 0
  · cases h4 : isK (getV L a 1) with
    | false => exact rread_kind hs hL hc hc63 (by omega) (by omega) h3 h4
    | true =>
      rcases of_decide_eq_true h4 with h | h | h | h | h | h | h
      · exact rread_1 hs hL hc hc63 h3 h
      · exact rread_2 hs hL hc hc63 h3 h
      · exact rread_8 hs hL hc hc63 h3 h
      · exact rread_11 hs hL hc hc63 h3 h
      · exact rread_15 hs hL hc hc63 h3 h
      · exact rread_20 hs hL hc hc63 h3 h
      · exact rread_4 hs hL hc hc63 h3 h
  · exact rread_cut hs hL hc hc63 (by omega) (by omega) h3
end
end Go.Proofs.Ytcchlicokglmnaa
