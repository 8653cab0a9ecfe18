/- Keys of the reference are compared. -/
import Derived.Test.YtdklkofnekacdaaRn
import Derived.Test.YtdklkofnekacdaaAp
namespace Go.Proofs.Ytdklkofnekacdaa
open Go.RowKit Go.Shelf Go.Lib
set_option linter.unusedVariables false
set_option maxRecDepth 100000 in
theorem eq38s (A B C : List UInt8) (hA : A.length = 16) (hB : B.length = 16) (hC : C.length = 16) (w : World) : (Op.equalIn 10000 38 (hv (A ++ B ++ C)) (hv (A ++ B ++ C))).run Try.prog w = .ok true w := by
  have hS : Try.prog.underlying 38 = some (.struct (Try.prog.fieldsOf 38)) := by kernel_rfl
  have hp : Try.prog.stoodInHeld 38 = false := by kernel_rfl
  rw [show (10000 : Nat) = 9999 + 1 from rfl, run_equalIn_agg w 9999 38 _ _ hS hp]
  simp only [Program.fieldsOf, Try.underlying38]
  go_simp
  have e1 : List.take 16 (hl (A ++ (B ++ C))) = hl A := by simp [hl, hA]
  have e2 : List.take 16 (List.drop 16 (hl (A ++ (B ++ C)))) = hl B := by
    have : List.drop 16 (hl (A ++ (B ++ C))) = hl (B ++ C) := by rw [hl_app, List.drop_left' (by simp [hA])]
    rw [this, hl_app, List.take_left' (by simp [hB])]
  have e3 : List.take 16 (List.drop 32 (hl (A ++ (B ++ C)))) = hl C := by
    have : List.drop 32 (hl (A ++ (B ++ C))) = hl C := by rw [← List.append_assoc, hl_app, List.drop_left' (by simp [hA, hB])]
    rw [this, List.take_of_length_le (by simp [hC])]
  have q : ∀ (D : List UInt8), D.length = 16 → (Op.equalIn 9999 28 (.agg (hl D).toArray) (.agg (hl D).toArray)).run Try.prog w = .ok true w := fun D hD => by
    have := equalIn_h 28 hu28r 9997 D D hD hD w
    rw [beq_self_eq_true] at this
    exact this
  rw [e1, e2, e3, q A hA]
  simp only [Result.andThen_ok]
  rw [q B hB]
  simp only [Result.andThen_ok]
  rw [q C hC]
  rfl
theorem neq38 (A B C : List UInt8) (hA : A.length = 16) (hB : B.length = 16) (hC : C.length = 16) (w : World) : (binOp .neq 38 (hv (A ++ B ++ C)) (hv (A ++ B ++ C))).run Try.prog w = .ok (.bool false) w := by
  have := eq38s A B C hA hB hC w
  unfold hv at *
  rw [run_neq_struct, this]
  rfl
theorem eql38 (A B C : List UInt8) (hA : A.length = 16) (hB : B.length = 16) (hC : C.length = 16) (w : World) : (binOp .eql 38 (hv (A ++ B ++ C)) (hv (A ++ B ++ C))).run Try.prog w = .ok (.bool true) w := by
  have := eq38s A B C hA hB hC w
  unfold hv at *
  rw [run_eql_struct, this]
  rfl
end Go.Proofs.Ytdklkofnekacdaa
