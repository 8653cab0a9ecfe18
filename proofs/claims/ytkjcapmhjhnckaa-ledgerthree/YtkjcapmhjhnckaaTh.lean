/- LedgerThree: what the ledger is behind n packets and one acknowledgement, reckoned. -/
import Derived.Test.YtkjcapmhjhnckaaOS
namespace Go.Proofs.Ytkjcapmhjhnckaa
open Go.RowKit Go.Maps Go.Shelf
set_option linter.unusedVariables false
set_option maxRecDepth 100000

/-- n packets, all sent at 100, of size 7, eliciting. -/
def sq : Nat → Ls
  | 0 => ls0
  | n + 1 => (sq n).sent ⟨(n : Int), 100, 7, true⟩
theorem sq_sent : ∀ n, n < 32 → snt (sq n) ⟨(n : Int), 100, 7, true⟩ = 0 := by decide +kernel
theorem sq_ok {n : Nat} (h : n ≤ 32) : (sq n).ok n := by
  induction n with
  | zero => exact ls0_ok
  | succ n ih => exact sent_ok (ih (by omega)) (sq_sent n (by omega)) (by omega)
def sqk (k : Nat) : List (Int × Int) := [((k : Int), (k : Int))]
/-- What the law asks. -/
def chk (n k : Nat) : Bool :=
  decide (wra (sq n) (sqk k) 100 50 = 0) && decide (((sq n).acked (sqk k)).map (fun p => p.n) = [(k : Int)]) && decide (smp ((sq n).acked (sqk k)) (hi (sqk k)) 100 = 0)
  && decide ((((sq n).arr (sqk k)).lost 100 50).map (fun p => p.n) = (List.range (k - 2)).map fun i : Nat => (i : Int)) && decide (((sq n).arr (sqk k)).spread 100 50 = 0)
  && decide ((((sq n).arr (sqk k)).pass 100 50).c = (n : Int) - 1 - ((k - 2 : Nat) : Int)) && decide ((((sq n).arr (sqk k)).pass 100 50).z = 7 * (((sq n).arr (sqk k)).pass 100 50).c) && decide ((((sq n).arr (sqk k)).pass 100 50).d = 100)
  && decide ((((sq n).arr (sqk k)).pass 100 50).due 50 = if 0 < k then (150, true) else (0, false))
theorem chk_all : ∀ n, n < 33 → ∀ k, k < n → chk n k = true := by decide +kernel
end Go.Proofs.Ytkjcapmhjhnckaa
