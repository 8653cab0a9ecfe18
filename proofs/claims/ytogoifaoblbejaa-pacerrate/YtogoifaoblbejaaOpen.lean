/- Arguments of the laws, opened: an Act by value, a row of Acts. -/
import Derived.Test.YtogoifaoblbejaaRows
import Derived.ProofKit
import Derived.OpenShut
import Derived.SizedLaws
namespace Go.Proofs.Ytogoifaoblbejaa
open Go.ChangeShapes Go.WideShapes Go.ChangeAt Go.RowKit
set_option linter.unusedVariables false

/-- An act: bytes, now, window, rtt, asked. -/
structure Ac where
  n : Int
  t : Int
  w : Int
  r : Int
  q : Int
def Ac.wf (a : Ac) : Prop := (-9223372036854775808 ≤ a.n ∧ a.n ≤ 9223372036854775807) ∧ (-9223372036854775808 ≤ a.t ∧ a.t ≤ 9223372036854775807) ∧ (-9223372036854775808 ≤ a.w ∧ a.w ≤ 9223372036854775807) ∧ (-9223372036854775808 ≤ a.r ∧ a.r ≤ 9223372036854775807) ∧ (-9223372036854775808 ≤ a.q ∧ a.q ≤ 9223372036854775807)
def Ac.cs (a : Ac) : List Value := [.int .i64 a.n, .int .i64 a.t, .int .i64 a.w, .int .i64 a.r, .int .i64 a.q]
theorem wf_i64' {x : Int} (h : (Lit.int .i64 x).wf = true) : -9223372036854775808 ≤ x ∧ x ≤ 9223372036854775807 := by
  simp only [Lit.wf, IntKind.min, IntKind.max, IntKind.signed, IntKind.bits, Bool.and_eq_true, decide_eq_true_eq, if_true] at h
  omega
section
variable {H : Type} {enc : TypeId × Value → H} {W : World}
theorem list5 {α : Type} {xs : List α} (h : xs.length = 5) : ∃ a b c d e, xs = [a, b, c, d, e] := by
  rcases xs with _ | ⟨a, _ | ⟨b, _ | ⟨c, _ | ⟨d, _ | ⟨e, _ | ⟨k, t⟩⟩⟩⟩⟩⟩ <;> simp at h
  exact ⟨a, b, c, d, e, rfl⟩
theorem cells_act {n : Nat} {cs : List Value} {y : DataW H × List MemPlace} (h : DataW.trod enc Try.prog W 0 (fun _ => true) true n 32 cs = some y) : ∃ a : Ac, cs = a.cs ∧ a.wf := by
  have c32 : Try.prog.cellsOf 32 = 5 := by kernel_rfl
  have c3 : Try.prog.cellsOf 3 = 1 := by kernel_rfl
  obtain ⟨xs, m, _, hx, hl, hlen, hfld⟩ := DataW.trod_struct Try.underlying32 h
  rw [c32] at hl
  obtain ⟨y0, y1, y2, y3, y4, rfl⟩ := list5 hlen
  obtain ⟨a0, a1, a2, a3, a4, rfl⟩ := list5 hl
  have g0 : DataW.trod enc Try.prog W 0 (fun _ => true) true m 3 [a0] = some y0 := by have := hfld 0 _ rfl; simpa [c3] using this
  have g1 : DataW.trod enc Try.prog W 0 (fun _ => true) true m 3 [a1] = some y1 := by have := hfld 1 _ rfl; simpa [c3] using this
  have g2 : DataW.trod enc Try.prog W 0 (fun _ => true) true m 3 [a2] = some y2 := by have := hfld 2 _ rfl; simpa [c3] using this
  have g3 : DataW.trod enc Try.prog W 0 (fun _ => true) true m 3 [a3] = some y3 := by have := hfld 3 _ rfl; simpa [c3] using this
  have g4 : DataW.trod enc Try.prog W 0 (fun _ => true) true m 3 [a4] = some y4 := by have := hfld 4 _ rfl; simpa [c3] using this
  obtain ⟨x0, e0, _, w0⟩ := DataW.trod_int Try.underlying3 g0
  obtain ⟨x1, e1, _, w1⟩ := DataW.trod_int Try.underlying3 g1
  obtain ⟨x2, e2, _, w2⟩ := DataW.trod_int Try.underlying3 g2
  obtain ⟨x3, e3, _, w3⟩ := DataW.trod_int Try.underlying3 g3
  obtain ⟨x4, e4, _, w4⟩ := DataW.trod_int Try.underlying3 g4
  simp only [List.cons.injEq, and_true] at e0 e1 e2 e3 e4
  subst e0 e1 e2 e3 e4
  exact ⟨⟨x0, x1, x2, x3, x4⟩, rfl, wf_i64' w0, wf_i64' w1, wf_i64' w2, wf_i64' w3, wf_i64' w4⟩
set_option maxRecDepth 100000 in
theorem open_act {base : Nat} {v : Value} {d : DataW H} {p : List MemPlace} (hv : Value.okWide Try.prog W .any base 32 v) (h : DataW.Trod enc Try.prog W 0 (fun _ => true) true 32 v d p) :
    ∃ a : Ac, v = .agg #[.int .i64 a.n, .int .i64 a.t, .int .i64 a.w, .int .i64 a.r, .int .i64 a.q] ∧ a.wf := by
  obtain ⟨cs, rfl, hcs⟩ := okWide_struct Try.underlying32 hv
  obtain ⟨fuel, hf⟩ := h
  obtain ⟨a, e, hwf⟩ := cells_act hf
  refine ⟨a, ?_, hwf⟩
  congr 1
  apply Array.ext'
  exact e
end
end Go.Proofs.Ytogoifaoblbejaa
