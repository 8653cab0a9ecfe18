/- What the reference's Size and Bytes answer, for every input: contracts. -/
import Derived.Test.YtfejhlfcabbkcaaDoorIn
namespace Go.Proofs.YtfejhlfcabbkcaaDoor
open Go.ChangeShapes Go.WideShapes Go.ChangeAt Go.RowKit
set_option linter.unusedVariables false

/-- byte j of the n lowest bytes -/
theorem be_at (V : Nat) : ∀ n j, j < n → (be n V)[j]? = some (UInt8.ofNat (V / 256 ^ (n - 1 - j)))
  | 0, j, h => absurd h (by omega)
  | n + 1, 0, _ => by rw [be_head]; simp
  | n + 1, j + 1, h => by
    rw [be_head, List.getElem?_cons_succ, be_at V n j (by omega)]
    congr 4
    omega
theorem be_take (V n j : Nat) (h : j < n) : (be n V).take (j + 1) = (be n V).take j ++ [UInt8.ofNat (V / 256 ^ (n - 1 - j))] := by
  rw [List.take_add_one, be_at V n j h]
  rfl
theorem byte_val (V k : Nat) : Value.int .u8 ((V : Int) / 2 ^ (8 * k) % 256) = Value.int .u8 ((UInt8.ofNat (V / 256 ^ k)).toNat : Int) := by
  have e3 : (2 : Int) ^ (8 * k) = ((256 ^ k : Nat) : Int) := by
    rw [Int.pow_mul]
    simp
  rw [e3, UInt8.toNat_ofNat']
  generalize 256 ^ k = P
  have e4 : ((V / P % 2 ^ 8 : Nat) : Int) = (V : Int) / (P : Int) % 256 := by rw [Int.natCast_emod, Int.natCast_ediv]; rfl
  rw [e4]
theorem Sl_new' (w : World) (c : Int) (b : UInt8) (h : Value.int .u8 c = .int .u8 b.toNat) : Sl (w.alloc (.cells #[.int .u8 c] 5)) (some ⟨w.heap.size, 0, none⟩) [b] := by
  rw [h]; exact Sl_new w b
theorem own_step {w1 w2 : World} {B j n V : Nat} {v2 : Value} (hj : j < n) (h : w2.ownsRow B 5 1 v2 (j + 1) (bc ((be n V).take j) ++ bc [UInt8.ofNat (V / 256 ^ (n - 1 - j))])) : w2.ownsRow B 5 1 v2 (j + 1) (bc ((be n V).take (j + 1))) := by
  rw [be_take V n j hj, bc_append]; exact h

end Go.Proofs.YtfejhlfcabbkcaaDoor
