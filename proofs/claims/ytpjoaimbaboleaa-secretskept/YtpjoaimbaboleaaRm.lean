/- The reference's vault: make. -/
import Derived.Test.YtpjoaimbaboleaaRv
namespace Go.Proofs.Ytpjoaimbaboleaa
open Go.RowKit Go.Shelf Go.Lib
set_option linter.unusedVariables false

set_option maxRecDepth 100000 in
theorem eq80 (a1 a2 a3 a5 b1 b2 b3 b5 : Int) (s4 s6 s7 t4 t6 t7 : ByteArray) (w : World) : (Op.equalIn 10000 64 (.agg #[.int .i64 a1, .int .i64 a2, .int .i64 a3, .string s4, .int .i64 a5, .string s6, .string s7]) (.agg #[.int .i64 b1, .int .i64 b2, .int .i64 b3, .string t4, .int .i64 b5, .string t6, .string t7])).run Try.prog w = .ok (decide (a1 = b1 ∧ a2 = b2 ∧ a3 = b3 ∧ s4.toList = t4.toList ∧ a5 = b5 ∧ s6.toList = t6.toList ∧ s7.toList = t7.toList)) w := by
  have u3 := Try.underlying3
  have a3' := Try.isAgg3
  have z3 := Try.sizeOf3
  have u9 := Try.underlying9
  have a9 := Try.isAgg9
  have z9 := Try.sizeOf9
  have hS : Try.prog.underlying 64 = some (.struct (Try.prog.fieldsOf 64)) := by kernel_rfl
  have hp : Try.prog.stoodInHeld 64 = false := by kernel_rfl
  rw [show (10000 : Nat) = 9999 + 1 from rfl, run_equalIn_agg w 9999 64 _ _ hS hp]
  simp only [Program.fieldsOf, Try.underlying64]
  go_simp
  by_cases h1 : a1 = b1
  · by_cases h2 : a2 = b2
    · by_cases h3 : a3 = b3
      · by_cases h4 : s4.toList = t4.toList
        · by_cases h5 : a5 = b5
          · by_cases h6 : s6.toList = t6.toList
            · by_cases h7 : s7.toList = t7.toList <;> simp [h1, h2, h3, h4, h5, h6, h7]
            · simp [h1, h2, h3, h4, h5, h6]
          · simp [h1, h2, h3, h4, h5]
        · simp [h1, h2, h3, h4]
      · simp [h1, h2, h3]
    · simp [h1, h2]
  · simp [h1]
theorem eqr (s t : Tm) : ∃ b : Bool, (b = true ↔ rc s = rc t) ∧ ∀ w, (binOp .eql 64 (.agg (rc s).toArray) (.agg (rc t).toArray)).run Try.prog w = .ok (.bool b) w := by
  refine ⟨_, ?_, fun w => by rw [run_eql_struct]; unfold rc; rw [eq80]; rfl⟩
  simp only [decide_eq_true_eq, rc, List.cons.injEq, Value.int.injEq, Value.string.injEq, true_and, and_true]
  have e : ∀ x y : ByteArray, x.toList = y.toList ↔ x = y := fun x y => ⟨ba_inj, fun h => by rw [h]⟩
  simp only [e]
theorem hm80 : Try.prog.eqGuardType Try.prog.depth 64 = false := by kernel_rfl
theorem u80 : Try.prog.underlying 64 = some (.struct (Try.prog.fieldsOf 64)) := by kernel_rfl
theorem i80 : (Try.prog.info? 64).map (·.size) = some 7 := by kernel_rfl
theorem inf80 : ∃ i, Try.prog.info? 64 = some i ∧ i.zero = some (.agg (rc rt).toArray) ∧ i.size = 7 ∧ i.bytes = 80 := by
  have : (Try.prog.info? 64).map (fun i => (i.zero, i.size, i.bytes)) = some (some (.agg (rc rt).toArray), 7, 80) := by kernel_rfl
  cases h : Try.prog.info? 64 with
  | none => rw [h] at this; cases this
  | some i =>
    rw [h] at this
    simp only [Option.map_some, Option.some.injEq, Prod.mk.injEq] at this
    exact ⟨i, rfl, this.1, this.2.1, this.2.2⟩
end Go.Proofs.Ytpjoaimbaboleaa
