/- An Act of caravellaw12 by value, opened: what its cells hold. -/
import Derived.Test.YtpjoaimbaboleaaNbW
import Derived.Test.YtpjoaimbaboleaaRows
import Derived.ProofKit
import Derived.OpenShut
import Derived.SizedLaws
namespace Go.Proofs.Ytpjoaimbaboleaa
open Go.ChangeShapes Go.WideShapes Go.ChangeAt Go.RowKit
set_option linter.unusedVariables false

theorem row_bytes {W : World} {x : Addr} {len cap : Nat} {zs : List Int} (hl : len ≤ cap) (hz : zs.length = cap) (hcell : ∀ i, i < zs.length → W.cell? (x.add i) = some (.int .u8 (zs.getD i 0))) (hwz : ∀ n ∈ zs, (Lit.int .u8 n).wf = true) (hb : len ≤ 140737488351232) :
    ∃ l : List UInt8, l.length = len ∧ Sl W (some x) l ∧ l.length ≤ 140737488351232 := by
  refine ⟨(zs.take len).map fun z => UInt8.ofNat z.toNat, by simp; omega, fun j hj => ?_, by simp; omega⟩
  have hj' : j < len := by simp at hj; omega
  obtain ⟨b, off, rfl, hc⟩ := ints_at hcell (by omega)
  refine ⟨b, off, rfl, ?_⟩
  rw [hc j (by omega)]
  have hm : zs[j]'(by omega) ∈ zs := List.getElem_mem _
  obtain ⟨h0, h1⟩ := bounds_u8 (hwz _ hm)
  have e : zs.getD j 0 = zs[j]'(by omega) := by simp [List.getD, List.getElem?_eq_getElem (show j < zs.length by omega)]
  rw [e]
  simp only [List.getElem_map, List.getElem_take, UInt8.toNat_ofNat']
  congr 2
  omega
section
variable {H : Type} {enc : TypeId × Value → H} {W : World}
theorem field_bytes {n : Nat} {c : Value} {y : DataW H × List MemPlace} (h : DataW.trod enc Try.prog W 0 (fun _ => true) true n 33 [c] = some y) (hsz : (DataW.weights Try.prog 33 y.1).all (· ≤ reachBytes) = true) :
    ∃ ao l cap, c = .slice ao (l : List UInt8).length cap ∧ Sl W ao l ∧ (ao = none → l.length = 0 ∧ cap = 0) ∧ l.length ≤ 140737488351232 ∧ l.length ≤ cap ∧ cap ≤ 9253372036854775807 := by
  rcases open_ints Try.underlying33 Try.underlying5 (by kernel_rfl) h with ⟨hcs, _⟩ | ⟨x, l, c', zs, hcs, _, hl, hm, hz, hx, hcell, hwz⟩
  · simp only [List.cons.injEq, and_true] at hcs
    subst hcs
    exact ⟨none, [], 0, rfl, fun j hj => absurd hj (by simp), fun _ => ⟨rfl, rfl⟩, by decide, by decide, by decide⟩
  · simp only [List.cons.injEq, and_true] at hcs
    subst hcs
    have hz' := hz
    rw [if_pos rfl] at hz'
    have hb5 : Try.prog.bytesOf 5 = 1 := by kernel_rfl
    rw [hx] at hsz
    simp only [DataW.weights, Try.underlying33, List.all_cons, Bool.and_eq_true, decide_eq_true_eq, hb5] at hsz
    have hr := hsz.1
    simp only [lits, List.length_map, List.length_take, List.length_drop, reachBytes] at hr
    obtain ⟨L, g1, g2, g3⟩ := row_bytes hl hz' hcell hwz (by omega)
    subst g1
    exact ⟨some x, L, c', rfl, g2, (fun h => nomatch h), g3, hl, by unfold maxLen at hm; omega⟩
theorem list5 {α : Type} {xs : List α} (h : xs.length = 5) : ∃ a b c d e, xs = [a, b, c, d, e] := by
  match xs, h with
  | [a, b, c, d, e], _ => exact ⟨a, b, c, d, e, rfl⟩
set_option maxRecDepth 10000 in
theorem cells_act {n : Nat} {cs : List Value} {y : DataW H × List MemPlace} (h : DataW.trod enc Try.prog W 0 (fun _ => true) true n 35 cs = some y) (hsz : (DataW.weights Try.prog 35 y.1).all (· ≤ reachBytes) = true) :
    ∃ (k a b : Int) (lb : ByteArray) (ao : Option Addr) (l : List UInt8) (c : Nat), cs = [.int .i64 k, .int .i64 a, .int .i64 b, .string lb, .slice ao l.length c] ∧ Sl W ao l ∧ l.length ≤ 140737488351232 ∧ lb.size ≤ 140737488351232 ∧ (Lit.int .i64 k).wf = true ∧ (Lit.int .i64 a).wf = true ∧ (Lit.int .i64 b).wf = true := by
  have c35 : Try.prog.cellsOf 35 = 5 := by kernel_rfl
  have c3 : Try.prog.cellsOf 3 = 1 := by kernel_rfl
  have c9 : Try.prog.cellsOf 9 = 1 := by kernel_rfl
  have c33 : Try.prog.cellsOf 33 = 1 := by kernel_rfl
  obtain ⟨xs, m, _, hx, hl, hlen, hfld⟩ := DataW.trod_struct Try.underlying35 h
  rw [c35] at hl
  obtain ⟨y0, y1, y2, y3, y4, rfl⟩ := list5 hlen
  obtain ⟨a0, a1, a2, a3, a4, rfl⟩ := list5 hl
  have g0 : DataW.trod enc Try.prog W 0 (fun _ => true) true m 3 [a0] = some y0 := by have := hfld 0 _ rfl; simpa [c3] using this
  have g1 : DataW.trod enc Try.prog W 0 (fun _ => true) true m 3 [a1] = some y1 := by have := hfld 1 _ rfl; simpa [c3] using this
  have g2 : DataW.trod enc Try.prog W 0 (fun _ => true) true m 3 [a2] = some y2 := by have := hfld 2 _ rfl; simpa [c3] using this
  have g3 : DataW.trod enc Try.prog W 0 (fun _ => true) true m 9 [a3] = some y3 := by have := hfld 3 _ rfl; simpa [c9] using this
  have g4 : DataW.trod enc Try.prog W 0 (fun _ => true) true m 33 [a4] = some y4 := by have := hfld 4 _ rfl; simpa [c33] using this
  subst hx
  simp only [DataW.weights, Try.underlying35, List.map_cons, List.map_nil, DataW.weightsEach, List.all_append, Bool.and_eq_true] at hsz
  obtain ⟨_, _, _, z3, z4, _⟩ := hsz
  obtain ⟨k, e0, _, w0⟩ := DataW.trod_int Try.underlying3 g0
  obtain ⟨a, e1, _, w1⟩ := DataW.trod_int Try.underlying3 g1
  obtain ⟨b, e2, _, w2⟩ := DataW.trod_int Try.underlying3 g2
  obtain ⟨lb, e3, x3, w3⟩ := DataW.trod_string Try.underlying9 g3
  obtain ⟨ao, l, c, rfl, s1, _, s3, _⟩ := field_bytes g4 z4
  simp only [List.cons.injEq, and_true] at e0 e1 e2 e3
  subst e0 e1 e2 e3
  rw [x3] at z3
  simp only [DataW.weights, List.all_cons, Bool.and_eq_true, decide_eq_true_eq] at z3
  exact ⟨k, a, b, lb, ao, l, c, rfl, s1, s3, by simpa [reachBytes] using z3, w0, w1, w2⟩
set_option maxRecDepth 10000 in
theorem open_act {base : Nat} {v : Value} {d : DataW H} {p : List MemPlace} (hv : Value.okWide Try.prog W .any base 35 v) (h : DataW.Trod enc Try.prog W 0 (fun _ => true) true 35 v d p) (hsz : (DataW.weights Try.prog 35 d).all (· ≤ reachBytes) = true) :
    ∃ (k a b : Int) (lb : ByteArray) (ao : Option Addr) (l : List UInt8) (c : Nat), v = .agg #[.int .i64 k, .int .i64 a, .int .i64 b, .string lb, .slice ao l.length c] ∧ Sl W ao l ∧ l.length ≤ 140737488351232 ∧ lb.size ≤ 140737488351232 := by
  obtain ⟨cs, rfl, hcs⟩ := okWide_struct Try.underlying35 hv
  obtain ⟨fuel, hf⟩ := h
  obtain ⟨k, a, b, lb, ao, l, c, e, h1, h2, h3, _⟩ := cells_act hf hsz
  refine ⟨k, a, b, lb, ao, l, c, ?_, h1, h2, h3⟩
  congr 1
  apply Array.ext'
  exact e
end
end Go.Proofs.Ytpjoaimbaboleaa
