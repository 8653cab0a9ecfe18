/- Arguments of the laws, opened: an Act by value. -/
import Derived.Test.YtlobnlkpbenngaaRows
import Derived.ProofKit
import Derived.OpenShut
import Derived.SizedLaws
namespace Go.Proofs.Ytlobnlkpbenngaa
open Go.ChangeShapes Go.WideShapes Go.ChangeAt Go.RowKit
set_option linter.unusedVariables false

section
variable {H : Type} {enc : TypeId × Value → H} {W : World}
theorem list4 {α : Type} {xs : List α} (h : xs.length = 4) : ∃ a b c d, xs = [a, b, c, d] := by
  rcases xs with _ | ⟨a, _ | ⟨b, _ | ⟨c, _ | ⟨d, _ | ⟨k, t⟩⟩⟩⟩⟩ <;> simp at h
  exact ⟨a, b, c, d, rfl⟩
theorem cells_act {n : Nat} {cs : List Value} {y : DataW H × List MemPlace} (h : DataW.trod enc Try.prog W 0 (fun _ => true) true n 32 cs = some y) :
    ∃ (k m : Int) (el : Bool) (t : Int), cs = [.int .i64 k, .int .i64 m, .bool el, .int .i64 t] := by
  have c32 : Try.prog.cellsOf 32 = 4 := by kernel_rfl
  have c3 : Try.prog.cellsOf 3 = 1 := by kernel_rfl
  have c4 : Try.prog.cellsOf 4 = 1 := by kernel_rfl
  obtain ⟨xs, m, _, hx, hl, hlen, hfld⟩ := DataW.trod_struct Try.underlying32 h
  rw [c32] at hl
  obtain ⟨y0, y1, y2, y3, rfl⟩ := list4 hlen
  obtain ⟨a0, a1, a2, a3, rfl⟩ := list4 hl
  have g0 : DataW.trod enc Try.prog W 0 (fun _ => true) true m 3 [a0] = some y0 := by have := hfld 0 _ rfl; simpa [c3] using this
  have g1 : DataW.trod enc Try.prog W 0 (fun _ => true) true m 3 [a1] = some y1 := by have := hfld 1 _ rfl; simpa [c3] using this
  have g2 : DataW.trod enc Try.prog W 0 (fun _ => true) true m 4 [a2] = some y2 := by have := hfld 2 _ rfl; simpa [c4] using this
  have g3 : DataW.trod enc Try.prog W 0 (fun _ => true) true m 3 [a3] = some y3 := by have := hfld 3 _ rfl; simpa [c3] using this
  obtain ⟨k, e0, _, _⟩ := DataW.trod_int Try.underlying3 g0
  obtain ⟨mo, e1, _, _⟩ := DataW.trod_int Try.underlying3 g1
  obtain ⟨od, e2, _⟩ := DataW.trod_bool Try.underlying4 g2
  obtain ⟨t, e3, _⟩ := DataW.trod_int Try.underlying3 g3
  simp only [List.cons.injEq, and_true] at e0 e1 e2 e3
  subst e0 e1 e2 e3
  exact ⟨k, mo, od, t, rfl⟩
set_option maxRecDepth 100000 in
theorem open_act {base : Nat} {v : Value} {d : DataW H} {p : List MemPlace} (hv : Value.okWide Try.prog W .any base 32 v) (h : DataW.Trod enc Try.prog W 0 (fun _ => true) true 32 v d p) :
    ∃ (k m : Int) (el : Bool) (t : Int), v = .agg #[.int .i64 k, .int .i64 m, .bool el, .int .i64 t] := by
  obtain ⟨cs, rfl, hcs⟩ := okWide_struct Try.underlying32 hv
  obtain ⟨fuel, hf⟩ := h
  obtain ⟨k, m, el, t, e⟩ := cells_act hf
  refine ⟨k, m, el, t, ?_⟩
  congr 1
  apply Array.ext'
  exact e
end
end Go.Proofs.Ytlobnlkpbenngaa
