/- Arguments of the laws, opened: an Act by value; the table of math/bits. -/
import Derived.Test.YtpbiokcelglaaaaDoorRows
import Derived.ProofKit
import Derived.OpenShut
import Derived.SizedLaws
namespace Go.Proofs.YtpbiokcelglaaaaDoor
open Go.ChangeShapes Go.WideShapes Go.ChangeAt Go.RowKit
set_option linter.unusedVariables false

def tab64 : List Int := [0, 1, 56, 2, 57, 49, 28, 3, 61, 58, 42, 50, 38, 29, 17, 4, 62, 47, 59, 36, 45, 43, 51, 22, 53, 39, 33, 30, 24, 18, 12, 5, 63, 55, 48, 27, 60, 41, 37, 16, 46, 35, 44, 21, 52, 32, 23, 11, 54, 26, 40, 15, 34, 20, 31, 10, 25, 14, 19, 9, 13, 8, 7, 6]
/-- The table as it lies. -/
def Tb (w : World) : Prop := ∀ i, i < 64 → w.cell? ⟨0, i, none⟩ = some (.int .u8 (tab64.getD i 0))

section
variable {H : Type} {enc : TypeId × Value → H} {W : World}
theorem list5 {α : Type} {xs : List α} (h : xs.length = 5) : ∃ a b c d e, xs = [a, b, c, d, e] := by
  rcases xs with _ | ⟨a, _ | ⟨b, _ | ⟨c, _ | ⟨d, _ | ⟨e, _ | ⟨f, t⟩⟩⟩⟩⟩⟩ <;> simp at h
  exact ⟨a, b, c, d, e, rfl⟩
theorem cells_act {n : Nat} {cs : List Value} {y : DataW H × List MemPlace} (h : DataW.trod enc Tryd.prog W 0 (fun _ => true) true n 33 cs = some y) :
    ∃ (a b : Int) (la : Option Addr) (ln cp : Nat) (f : Bool) (d : Int), cs = [.int .i64 a, .int .i64 b, .slice la ln cp, .bool f, .int .i64 d] ∧ ∃ m y2, DataW.trod enc Tryd.prog W 0 (fun _ => true) true m 31 [.slice la ln cp] = some y2 := by
  have c33 : Tryd.prog.cellsOf 33 = 5 := by kernel_rfl
  have c3 : Tryd.prog.cellsOf 3 = 1 := by kernel_rfl
  have c4 : Tryd.prog.cellsOf 4 = 1 := by kernel_rfl
  have c31 : Tryd.prog.cellsOf 31 = 1 := by kernel_rfl
  obtain ⟨xs, m, _, hx, hl, hlen, hfld⟩ := DataW.trod_struct Tryd.underlying33 h
  rw [c33] at hl
  obtain ⟨y0, y1, y2, y3, y4, rfl⟩ := list5 hlen
  obtain ⟨a0, a1, a2, a3, a4, rfl⟩ := list5 hl
  have g0 : DataW.trod enc Tryd.prog W 0 (fun _ => true) true m 3 [a0] = some y0 := by have := hfld 0 _ rfl; simpa [c3] using this
  have g1 : DataW.trod enc Tryd.prog W 0 (fun _ => true) true m 3 [a1] = some y1 := by have := hfld 1 _ rfl; simpa [c3] using this
  have g2 : DataW.trod enc Tryd.prog W 0 (fun _ => true) true m 31 [a2] = some y2 := by have := hfld 2 _ rfl; simpa [c31] using this
  have g3 : DataW.trod enc Tryd.prog W 0 (fun _ => true) true m 4 [a3] = some y3 := by have := hfld 3 _ rfl; simpa [c4] using this
  have g4 : DataW.trod enc Tryd.prog W 0 (fun _ => true) true m 3 [a4] = some y4 := by have := hfld 4 _ rfl; simpa [c3] using this
  obtain ⟨a, e0, _, w0⟩ := DataW.trod_int Tryd.underlying3 g0
  obtain ⟨b, e1, _, w1⟩ := DataW.trod_int Tryd.underlying3 g1
  obtain ⟨f, e3, _⟩ := DataW.trod_bool Tryd.underlying4 g3
  obtain ⟨d, e4, _, w4⟩ := DataW.trod_int Tryd.underlying3 g4
  simp only [List.cons.injEq, and_true] at e0 e1 e3 e4
  subst e0 e1 e3 e4
  rcases DataW.trod_slice Tryd.underlying31 g2 with ⟨hcs, _⟩ | ⟨q, len, cap, elems, rest, n, _, hcs, _⟩
  · simp only [List.cons.injEq, and_true] at hcs
    subst hcs
    exact ⟨a, b, none, 0, 0, f, d, rfl, m, y2, g2⟩
  · simp only [List.cons.injEq, and_true] at hcs
    subst hcs
    exact ⟨a, b, some q, len, cap, f, d, rfl, m, y2, g2⟩
theorem open_act {base : Nat} {v : Value} {d : DataW H} {p : List MemPlace} (hv : Value.okWide Tryd.prog W .any base 33 v) (h : DataW.Trod enc Tryd.prog W 0 (fun _ => true) true 33 v d p) :
    ∃ (a b : Int) (la : Option Addr) (ln cp : Nat) (f : Bool) (d : Int), v = .agg #[.int .i64 a, .int .i64 b, .slice la ln cp, .bool f, .int .i64 d] := by
  obtain ⟨cs, rfl, hcs⟩ := okWide_struct Tryd.underlying33 hv
  obtain ⟨fuel, hf⟩ := h
  obtain ⟨a, b, la, ln, cp, f, d, e, _⟩ := cells_act hf
  refine ⟨a, b, la, ln, cp, f, d, ?_⟩
  have e' : cs.toList = [.int .i64 a, .int .i64 b, .slice la ln cp, .bool f, .int .i64 d] := e
  congr 1
  apply Array.ext'
  rw [e']
end
end Go.Proofs.YtpbiokcelglaaaaDoor
