/- Arguments of the laws, opened: a slice of spans. -/
import Derived.Test.YtgmhlmficnkhgaaOpen
import Derived.Test.YtgmhlmficnkhgaaCloW
namespace Go.Proofs.Ytgmhlmficnkhgaa
open Go.ChangeShapes Go.WideShapes Go.ChangeAt Go.RowKit
set_option linter.unusedVariables false

section
variable {H : Type} {enc : TypeId × Value → H} {W : World}
theorem choose_list {α : Type} {n : Nat} {P : Nat → α → Prop} (h : ∀ i, i < n → ∃ x, P i x) : ∃ l : List α, l.length = n ∧ ∀ i (hi : i < l.length), P i l[i] := by
  induction n with
  | zero => exact ⟨[], rfl, fun i hi => absurd hi (Nat.not_lt_zero _)⟩
  | succ n ih =>
    obtain ⟨l, hl, hp⟩ := ih (fun i hi => h i (by omega))
    obtain ⟨x, hx⟩ := h n (by omega)
    refine ⟨l ++ [x], by simp [hl], fun i hi => ?_⟩
    by_cases hin : i < l.length
    · rw [List.getElem_append_left hin]; exact hp i hin
    · have : i = n := by simp at hi; omega
      subst this
      rw [List.getElem_append_right (by omega)]
      simpa [hl] using hx
theorem open_spans {base : Nat} {v : Value} {d : DataW H} {p : List MemPlace} (hv : Value.okWide Try.prog W .any base 26 v) (h : DataW.Trod enc Try.prog W 0 (fun _ => true) true 26 v d p) :
    ∃ la l cap, v = .slice la (l : List (Int × Int)).length cap ∧ Ar W la l ∧ l.length ≤ 9223372036854775807 := by
  obtain ⟨a0, len0, cap0, rfl⟩ := okWide_slice Try.underlying26 hv
  obtain ⟨fuel, hf⟩ := h
  have c50 : Try.prog.cellsOf 50 = 2 := by kernel_rfl
  rcases DataW.trod_slice Try.underlying26 hf with ⟨hcs, _⟩ | ⟨a, len, cap, elems, rest, n, _, hcs, _, _, hlc, hcm, hel, hE, _⟩
  · simp [Value.cells] at hcs
    obtain ⟨rfl, rfl, rfl⟩ := hcs
    exact ⟨none, [], 0, rfl, fun i hi => absurd hi (Nat.not_lt_zero _), by simp⟩
  · simp [Value.cells] at hcs
    obtain ⟨rfl, rfl, rfl⟩ := hcs
    rw [c50] at hE
    have hx : ∀ i, i < len0 → ∃ x : Int × Int, ∃ b off, a = ⟨b, off, none⟩ ∧ W.cell? ⟨b, off + i * 2, none⟩ = some (.int .i64 x.1) ∧ W.cell? ⟨b, off + i * 2 + 1, none⟩ = some (.int .i64 x.2) := by
      intro i hi
      have h1 := hE i hi
      have h2 : elems[i]? = some elems[i] := List.getElem?_eq_getElem (by omega)
      rw [h2] at h1
      obtain ⟨cs, hc1, hc2⟩ := Option.bind_eq_some_iff.1 h1
      obtain ⟨x, y, rfl, _⟩ := cells_span hc2
      obtain ⟨_, _, hcell⟩ := World.cells?_some hc1
      have e0 := hcell 0 (by omega)
      have e1 := hcell 1 (by omega)
      obtain ⟨b, off, spot⟩ := a
      have h0i := hE 0 (by omega)
      rw [List.getElem?_eq_getElem (show 0 < elems.length by omega)] at h0i
      obtain ⟨cs0, hc01, hc02⟩ := Option.bind_eq_some_iff.1 h0i
      obtain ⟨x0, y0, rfl, _⟩ := cells_span hc02
      have e00 := (World.cells?_some hc01).2.2 0 (by omega)
      have hspot : spot = none := by
        have : W.cell? ⟨b, off, spot⟩ = some (.int .i64 x0) := by simpa [Addr.add] using e00
        exact World.cell?_spot this
      subst hspot
      rw [Addr.add_lit, Addr.add_lit] at e0 e1
      exact ⟨(x, y), b, off, rfl, by simpa using e0, by simpa using e1⟩
    obtain ⟨l, hl, hp⟩ := choose_list hx
    refine ⟨some a, l, cap0, by rw [hl], fun i hi => ?_, by unfold maxLen at hcm; omega⟩
    obtain ⟨b, off, rfl, q0, q1⟩ := hp i hi
    exact ⟨b, off, rfl, q0, q1⟩
end
end Go.Proofs.Ytgmhlmficnkhgaa
