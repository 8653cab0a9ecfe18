/- params: a strange parameter by value, opened: its number and its bytes. -/
import Derived.Test.YtcppnellgkbndaaDoorOpenP
import Derived.Test.YtcppnellgkbndaaDoorPe
namespace Go.Proofs.YtcppnellgkbndaaDoor
open Go.ChangeShapes Go.WideShapes Go.ChangeAt Go.RowKit
set_option linter.unusedVariables false

section
variable {H : Type} {enc : TypeId × Value → H} {W : World}
theorem list2 {α : Type} {xs : List α} (h : xs.length = 2) : ∃ a b, xs = [a, b] := by
  obtain ⟨a, t, rfl, h0⟩ := uncons (n := 1) h
  obtain ⟨b, t, rfl, h1⟩ := uncons (n := 0) h0
  obtain rfl := List.length_eq_zero_iff.mp h1
  exact ⟨a, b, rfl⟩
set_option maxRecDepth 100000 in
theorem open_strange {base : Nat} {v : Value} {d : DataW H} {p : List MemPlace} (hv : Value.okWide Tryd.prog W .any base 50 v) (h : DataW.Trod enc Tryd.prog W 0 (fun _ => true) true 50 v d p) (hsz : (DataW.weights Tryd.prog 50 d).all (· ≤ reachBytes) = true) :
    ∃ q : Int × Bl, v = .agg #[.int .i64 q.1, .slice q.2.o q.2.l.length q.2.c] ∧ Lb W q.2.o q.2.c q.2.l ∧ q.2.l.length ≤ 140737488351232 := by
  obtain ⟨cs, rfl, hcs⟩ := okWide_struct Tryd.underlying50 hv
  have c50 : Tryd.prog.cellsOf 50 = 2 := by kernel_rfl
  have c3 : Tryd.prog.cellsOf 3 = 1 := by kernel_rfl
  have c22 : Tryd.prog.cellsOf 22 = 1 := by kernel_rfl
  rw [c50] at hcs
  obtain ⟨fuel, hf⟩ := h
  obtain ⟨xs, n, _, hx, hlx, hlen, hfld⟩ := DataW.trod_struct Tryd.underlying50 hf
  obtain ⟨y0, y1, rfl⟩ := list2 hlen
  obtain ⟨a0, a1, hL⟩ := list2 (xs := cs.toList) (by simpa using hcs)
  have hcl : (Value.agg cs).cells.toList = [a0, a1] := hL
  rw [hcl] at hfld hlx
  have g0 : DataW.trod enc Tryd.prog W 0 (fun _ => true) true n 3 [a0] = some y0 := by have := hfld 0 _ rfl; simpa [c3, c22] using this
  have g1 : DataW.trod enc Tryd.prog W 0 (fun _ => true) true n 22 [a1] = some y1 := by have := hfld 1 _ rfl; simpa [c3, c22] using this
  simp only [Prod.mk.injEq, List.map_cons, List.map_nil] at hx
  rw [hx.1] at hsz
  simp only [DataW.weights, Tryd.underlying50, List.map_cons, List.map_nil, DataW.weightsEach, List.all_append, Bool.and_eq_true] at hsz
  obtain ⟨_, z1, _⟩ := hsz
  obtain ⟨x0, e0, _, _⟩ := DataW.trod_int Tryd.underlying3 g0
  obtain ⟨o1, l1, k1, rfl, s1, n1, b1, m1, u1⟩ := field_bytes g1 z1
  simp only [List.cons.injEq, and_true] at e0
  subst e0
  refine ⟨(x0, ⟨o1, l1, k1⟩), ?_, ⟨s1, m1, u1, n1⟩, b1⟩
  congr 1
  apply Array.ext'
  rw [hL]
end
end Go.Proofs.YtcppnellgkbndaaDoor
