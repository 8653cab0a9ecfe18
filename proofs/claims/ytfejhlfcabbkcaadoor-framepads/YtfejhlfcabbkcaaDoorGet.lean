/- What octet.Get and the reference's Number and Get answer, for every input: contracts. -/
import Derived.Test.YtfejhlfcabbkcaaDoorTake
namespace Go.Proofs.YtfejhlfcabbkcaaDoor
open Go.ChangeShapes Go.WideShapes Go.ChangeAt Go.RowKit
set_option linter.unusedVariables false

abbrev gOk (len a n : Int) : Prop := 1 ≤ n ∧ n ≤ 8 ∧ 0 ≤ a ∧ a + n ≤ len
abbrev gArg (len a n : Int) : Prop := n < 1 ∨ 8 < n ∨ a < 0 ∨ len < a
def gV (l : List UInt8) (a n : Int) : Int := if gOk l.length a n then (num (sub l a.toNat n.toNat) : Int) else 0
def gN (l : List UInt8) (a n : Int) : Int := if gOk l.length a n then a + n else 0
def gE (l : List UInt8) (a n : Int) : Int := if gArg l.length a n then 2 else if gOk l.length a n then 0 else 10

theorem ret_3u {a a' b b' c c' : Int} (h : a = a') (h' : b = b') (h'' : c = c') : Ending.returned (.tuple #[.int .u64 a, .int .i64 b, .int .i64 c]) = .returned (.tuple #[.int .u64 a', .int .i64 b', .int .i64 c']) := by rw [h, h', h'']

theorem gcases (len a n : Int) : (gOk len a n ∧ ¬ gArg len a n) ∨ (¬ gOk len a n ∧ ¬ gArg len a n ∧ len < a + n) ∨ (gArg len a n ∧ ¬ gOk len a n) := by
  unfold gOk gArg; omega

/-- A piece of a slice. -/
theorem Sl_sub {w : World} {b off : Nat} {l : List UInt8} (a n : Nat) (hc : ∀ j (hj : j < l.length), w.cell? ⟨b, off + j, none⟩ = some (.int .u8 (l[j].toNat))) (h : a + n ≤ l.length) : Sl w (some ⟨b, off + a, none⟩) (sub l a n) := by
  intro j hj
  rw [sub_length l a n h] at hj
  refine ⟨b, off + a, rfl, ?_⟩
  have := hc (a + j) (by omega)
  rw [Nat.add_assoc, this]
  simp [sub]

end Go.Proofs.YtfejhlfcabbkcaaDoor
