/- Arguments of the laws, opened: an Act by value. -/
import Derived.Test.YtfgfomkhlhiiiaaRows
import Derived.ProofKit
import Derived.OpenShut
import Derived.SizedLaws
namespace Go.Proofs.Ytfgfomkhlhiiiaa
open Go.ChangeShapes Go.WideShapes Go.ChangeAt Go.RowKit
set_option linter.unusedVariables false

section
variable {H : Type} {enc : TypeId × Value → H} {W : World}
theorem list7 {α : Type} {xs : List α} (h : xs.length = 7) : ∃ a b c d e f g, xs = [a, b, c, d, e, f, g] := by
  rcases xs with _ | ⟨a, _ | ⟨b, _ | ⟨c, _ | ⟨d, _ | ⟨e, _ | ⟨f, _ | ⟨g, _ | ⟨k, t⟩⟩⟩⟩⟩⟩⟩⟩ <;> simp at h
  exact ⟨a, b, c, d, e, f, g, rfl⟩
theorem cells_act {n : Nat} {cs : List Value} {y : DataW H × List MemPlace} (h : DataW.trod enc Try.prog W 0 (fun _ => true) true n 34 cs = some y) :
    ∃ (k : Int) (la : Option Addr) (ln cp : Nat) (mo li wh : Int) (od fi : Bool), cs = [.int .i64 k, .slice la ln cp, .int .i64 mo, .int .i64 li, .int .i64 wh, .bool od, .bool fi] ∧ ∃ m y2, DataW.trod enc Try.prog W 0 (fun _ => true) true m 32 [.slice la ln cp] = some y2 := by
  have c34 : Try.prog.cellsOf 34 = 7 := by kernel_rfl
  have c3 : Try.prog.cellsOf 3 = 1 := by kernel_rfl
  have c4 : Try.prog.cellsOf 4 = 1 := by kernel_rfl
  have c32 : Try.prog.cellsOf 32 = 1 := by kernel_rfl
  obtain ⟨xs, m, _, hx, hl, hlen, hfld⟩ := DataW.trod_struct Try.underlying34 h
  rw [c34] at hl
  obtain ⟨y0, y1, y2, y3, y4, y5, y6, rfl⟩ := list7 hlen
  obtain ⟨a0, a1, a2, a3, a4, a5, a6, rfl⟩ := list7 hl
  have g0 : DataW.trod enc Try.prog W 0 (fun _ => true) true m 3 [a0] = some y0 := by have := hfld 0 _ rfl; simpa [c3] using this
  have g1 : DataW.trod enc Try.prog W 0 (fun _ => true) true m 32 [a1] = some y1 := by have := hfld 1 _ rfl; simpa [c32] using this
  have g2 : DataW.trod enc Try.prog W 0 (fun _ => true) true m 3 [a2] = some y2 := by have := hfld 2 _ rfl; simpa [c3] using this
  have g3 : DataW.trod enc Try.prog W 0 (fun _ => true) true m 3 [a3] = some y3 := by have := hfld 3 _ rfl; simpa [c3] using this
  have g4 : DataW.trod enc Try.prog W 0 (fun _ => true) true m 3 [a4] = some y4 := by have := hfld 4 _ rfl; simpa [c3] using this
  have g5 : DataW.trod enc Try.prog W 0 (fun _ => true) true m 4 [a5] = some y5 := by have := hfld 5 _ rfl; simpa [c4] using this
  have g6 : DataW.trod enc Try.prog W 0 (fun _ => true) true m 4 [a6] = some y6 := by have := hfld 6 _ rfl; simpa [c4] using this
  obtain ⟨k, e0, _, _⟩ := DataW.trod_int Try.underlying3 g0
  obtain ⟨mo, e2, _, _⟩ := DataW.trod_int Try.underlying3 g2
  obtain ⟨li, e3, _, _⟩ := DataW.trod_int Try.underlying3 g3
  obtain ⟨wh, e4, _, _⟩ := DataW.trod_int Try.underlying3 g4
  obtain ⟨od, e5, _⟩ := DataW.trod_bool Try.underlying4 g5
  obtain ⟨fi, e6, _⟩ := DataW.trod_bool Try.underlying4 g6
  simp only [List.cons.injEq, and_true] at e0 e2 e3 e4 e5 e6
  subst e0 e2 e3 e4 e5 e6
  rcases DataW.trod_slice Try.underlying32 g1 with ⟨hcs, _⟩ | ⟨q, len, cap, elems, rest, n, _, hcs, _⟩
  · simp only [List.cons.injEq, and_true] at hcs
    subst hcs
    exact ⟨k, none, 0, 0, mo, li, wh, od, fi, rfl, m, y1, g1⟩
  · simp only [List.cons.injEq, and_true] at hcs
    subst hcs
    exact ⟨k, some q, len, cap, mo, li, wh, od, fi, rfl, m, y1, g1⟩
set_option maxRecDepth 100000 in
theorem open_act {base : Nat} {v : Value} {d : DataW H} {p : List MemPlace} (hv : Value.okWide Try.prog W .any base 34 v) (h : DataW.Trod enc Try.prog W 0 (fun _ => true) true 34 v d p) :
    ∃ (k : Int) (la : Option Addr) (ln cp : Nat) (mo li wh : Int) (od fi : Bool), v = .agg #[.int .i64 k, .slice la ln cp, .int .i64 mo, .int .i64 li, .int .i64 wh, .bool od, .bool fi] := by
  obtain ⟨cs, rfl, hcs⟩ := okWide_struct Try.underlying34 hv
  obtain ⟨fuel, hf⟩ := h
  obtain ⟨k, la, ln, cp, mo, li, wh, od, fi, e, _⟩ := cells_act hf
  refine ⟨k, la, ln, cp, mo, li, wh, od, fi, ?_⟩
  congr 1
  apply Array.ext'
  exact e
end
end Go.Proofs.Ytfgfomkhlhiiiaa
