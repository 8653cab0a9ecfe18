/- Arguments of the laws, opened: an Act by value. -/
import Derived.Test.YthhoknkdmmldbaaRows
import Derived.ProofKit
import Derived.OpenShut
import Derived.SizedLaws
namespace Go.Proofs.Ythhoknkdmmldbaa
open Go.ChangeShapes Go.WideShapes Go.ChangeAt Go.RowKit
set_option linter.unusedVariables false

section
variable {H : Type} {enc : TypeId × Value → H} {W : World}
theorem list9 {α : Type} {xs : List α} (h : xs.length = 9) : ∃ a b c d e f g i j, xs = [a, b, c, d, e, f, g, i, j] := by
  rcases xs with _ | ⟨a, _ | ⟨b, _ | ⟨c, _ | ⟨d, _ | ⟨e, _ | ⟨f, _ | ⟨g, _ | ⟨i, _ | ⟨j, _ | ⟨k, t⟩⟩⟩⟩⟩⟩⟩⟩⟩⟩ <;> simp at h
  exact ⟨a, b, c, d, e, f, g, i, j, rfl⟩
theorem slice_shape {n : Nat} {a : Value} {y : DataW H × List MemPlace} (g : DataW.trod enc Try.prog W 0 (fun _ => true) true n 38 [a] = some y) : ∃ o m c, a = .slice o m c := by
  rcases open_ints Try.underlying38 Try.underlying5 (by kernel_rfl) g with ⟨hcs, _⟩ | ⟨x, l, c, zs, hcs, _⟩
  · simp only [List.cons.injEq, and_true] at hcs
    exact ⟨_, _, _, hcs⟩
  · simp only [List.cons.injEq, and_true] at hcs
    exact ⟨_, _, _, hcs⟩
theorem cells_act {n : Nat} {cs : List Value} {y : DataW H × List MemPlace} (h : DataW.trod enc Try.prog W 0 (fun _ => true) true n 40 cs = some y) :
    ∃ (k a b c : Int) (lb : ByteArray) (nu : Int) (o1 o2 : Option Addr) (n1 c1 n2 c2 : Nat) (ow : Bool), cs = [.int .i64 k, .int .i64 a, .int .i64 b, .int .i64 c, .string lb, .int .i64 nu, .slice o1 n1 c1, .slice o2 n2 c2, .bool ow] := by
  have c40 : Try.prog.cellsOf 40 = 9 := by kernel_rfl
  have c3 : Try.prog.cellsOf 3 = 1 := by kernel_rfl
  have c4 : Try.prog.cellsOf 4 = 1 := by kernel_rfl
  have c9 : Try.prog.cellsOf 9 = 1 := by kernel_rfl
  have c38 : Try.prog.cellsOf 38 = 1 := by kernel_rfl
  obtain ⟨xs, m, _, hx, hl, hlen, hfld⟩ := DataW.trod_struct Try.underlying40 h
  rw [c40] at hl
  obtain ⟨y0, y1, y2, y3, y4, y5, y6, y7, y8, rfl⟩ := list9 hlen
  obtain ⟨a0, a1, a2, a3, a4, a5, a6, a7, a8, rfl⟩ := list9 hl
  have g0 : DataW.trod enc Try.prog W 0 (fun _ => true) true m 3 [a0] = some y0 := by have := hfld 0 _ rfl; simpa [c3] using this
  have g1 : DataW.trod enc Try.prog W 0 (fun _ => true) true m 3 [a1] = some y1 := by have := hfld 1 _ rfl; simpa [c3] using this
  have g2 : DataW.trod enc Try.prog W 0 (fun _ => true) true m 3 [a2] = some y2 := by have := hfld 2 _ rfl; simpa [c3] using this
  have g3 : DataW.trod enc Try.prog W 0 (fun _ => true) true m 3 [a3] = some y3 := by have := hfld 3 _ rfl; simpa [c3] using this
  have g4 : DataW.trod enc Try.prog W 0 (fun _ => true) true m 9 [a4] = some y4 := by have := hfld 4 _ rfl; simpa [c9] using this
  have g5 : DataW.trod enc Try.prog W 0 (fun _ => true) true m 3 [a5] = some y5 := by have := hfld 5 _ rfl; simpa [c3] using this
  have g6 : DataW.trod enc Try.prog W 0 (fun _ => true) true m 38 [a6] = some y6 := by have := hfld 6 _ rfl; simpa [c38] using this
  have g7 : DataW.trod enc Try.prog W 0 (fun _ => true) true m 38 [a7] = some y7 := by have := hfld 7 _ rfl; simpa [c38] using this
  have g8 : DataW.trod enc Try.prog W 0 (fun _ => true) true m 4 [a8] = some y8 := by have := hfld 8 _ rfl; simpa [c4] using this
  obtain ⟨k, e0, _, _⟩ := DataW.trod_int Try.underlying3 g0
  obtain ⟨a, e1, _, _⟩ := DataW.trod_int Try.underlying3 g1
  obtain ⟨b, e2, _, _⟩ := DataW.trod_int Try.underlying3 g2
  obtain ⟨c, e3, _, _⟩ := DataW.trod_int Try.underlying3 g3
  obtain ⟨lb, e4, _⟩ := DataW.trod_string Try.underlying9 g4
  obtain ⟨nu, e5, _, _⟩ := DataW.trod_int Try.underlying3 g5
  obtain ⟨o1, n1, c1, e6⟩ := slice_shape g6
  obtain ⟨o2, n2, c2, e7⟩ := slice_shape g7
  obtain ⟨ow, e8, _⟩ := DataW.trod_bool Try.underlying4 g8
  simp only [List.cons.injEq, and_true] at e0 e1 e2 e3 e4 e5 e8
  subst e0 e1 e2 e3 e4 e5 e6 e7 e8
  exact ⟨k, a, b, c, lb, nu, o1, o2, n1, c1, n2, c2, ow, rfl⟩
set_option maxRecDepth 100000 in
theorem open_act {base : Nat} {v : Value} {d : DataW H} {p : List MemPlace} (hv : Value.okWide Try.prog W .any base 40 v) (h : DataW.Trod enc Try.prog W 0 (fun _ => true) true 40 v d p) :
    ∃ (k a b c : Int) (lb : ByteArray) (nu : Int) (o1 o2 : Option Addr) (n1 c1 n2 c2 : Nat) (ow : Bool), v = .agg #[.int .i64 k, .int .i64 a, .int .i64 b, .int .i64 c, .string lb, .int .i64 nu, .slice o1 n1 c1, .slice o2 n2 c2, .bool ow] := by
  obtain ⟨cs, rfl, hcs⟩ := okWide_struct Try.underlying40 hv
  obtain ⟨fuel, hf⟩ := h
  obtain ⟨k, a, b, c, lb, nu, o1, o2, n1, c1, n2, c2, ow, e⟩ := cells_act hf
  refine ⟨k, a, b, c, lb, nu, o1, o2, n1, c1, n2, c2, ow, ?_⟩
  congr 1
  apply Array.ext'
  exact e
end
end Go.Proofs.Ythhoknkdmmldbaa
