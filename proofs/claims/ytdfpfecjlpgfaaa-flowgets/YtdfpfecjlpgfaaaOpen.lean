/- Arguments of the laws, opened: an Act by value, a row of Acts. -/
import Derived.Test.YtdfpfecjlpgfaaaRows
import Derived.ProofKit
import Derived.OpenShut
import Derived.SizedLaws
namespace Go.Proofs.Ytdfpfecjlpgfaaa
open Go.ChangeShapes Go.WideShapes Go.ChangeAt Go.RowKit
set_option linter.unusedVariables false

/-- An act: kind, number. -/
structure Ac where
  k : Int
  n : Int
def Ac.wf (a : Ac) : Prop := (-9223772036854775808 ≤ a.k ∧ a.k ≤ 9223772036854775807) ∧ (-9223772036854775808 ≤ a.n ∧ a.n ≤ 9223772036854775807)
def Ac.cs (a : Ac) : List Value := [.int .i64 a.k, .int .i64 a.n]
theorem wf_i64' {x : Int} (h : (Lit.int .i64 x).wf = true) : -9223772036854775808 ≤ x ∧ x ≤ 9223772036854775807 := by
  simp only [Lit.wf, IntKind.min, IntKind.max, IntKind.signed, IntKind.bits, Bool.and_eq_true, decide_eq_true_eq, if_true] at h
  omega
section
variable {H : Type} {enc : TypeId × Value → H} {W : World}
theorem list2 {α : Type} {xs : List α} (h : xs.length = 2) : ∃ a b, xs = [a, b] := by
  rcases xs with _ | ⟨a, _ | ⟨b, _ | ⟨k, t⟩⟩⟩ <;> simp at h
  exact ⟨a, b, rfl⟩
theorem cells_act {n : Nat} {cs : List Value} {y : DataW H × List MemPlace} (h : DataW.trod enc Try.prog W 0 (fun _ => true) true n 32 cs = some y) : ∃ a : Ac, cs = a.cs ∧ a.wf := by
  have c32 : Try.prog.cellsOf 32 = 2 := by kernel_rfl
  have c3 : Try.prog.cellsOf 3 = 1 := by kernel_rfl
  obtain ⟨xs, m, _, hx, hl, hlen, hfld⟩ := DataW.trod_struct Try.underlying32 h
  rw [c32] at hl
  obtain ⟨y0, y1, rfl⟩ := list2 hlen
  obtain ⟨a0, a1, rfl⟩ := list2 hl
  have g0 : DataW.trod enc Try.prog W 0 (fun _ => true) true m 3 [a0] = some y0 := by have := hfld 0 _ rfl; simpa [c3] using this
  have g1 : DataW.trod enc Try.prog W 0 (fun _ => true) true m 3 [a1] = some y1 := by have := hfld 1 _ rfl; simpa [c3] using this
  obtain ⟨x0, e0, _, w0⟩ := DataW.trod_int Try.underlying3 g0
  obtain ⟨x1, e1, _, w1⟩ := DataW.trod_int Try.underlying3 g1
  simp only [List.cons.injEq, and_true] at e0 e1
  subst e0 e1
  exact ⟨⟨x0, x1⟩, rfl, wf_i64' w0, wf_i64' w1⟩
/-- Acts as they lie. -/
def Acs (w : World) (la : Option Addr) (l : List Ac) : Prop := ∀ i (h : i < l.length), ∃ b off, la = some ⟨b, off, none⟩ ∧ (∀ j (hj : j < 2), w.cell? ⟨b, off + i * 2 + j, none⟩ = some ((l[i].cs)[j]'(hj))) ∧ l[i].wf
theorem choose_list {α : Type} {n : Nat} {P : Nat → α → Prop} (h : ∀ i, i < n → ∃ x, P i x) : ∃ l : List α, l.length = n ∧ ∀ i (hi : i < l.length), P i l[i] := by
  induction n with
  | zero => exact ⟨[], rfl, fun i hi => absurd hi (Nat.not_lt_zero _)⟩
  | succ n ih =>
    obtain ⟨l, hl, hp⟩ := ih (fun i hi => h i (by omega))
    obtain ⟨x, hx⟩ := h n (by omega)
    refine ⟨l ++ [x], by simp [hl], fun i hi => ?_⟩
    by_cases hin : i < l.length
    · rw [List.getElem_append_left hin]; exact hp i hin
    · have : i = n := by simp at hi; omega
      subst this
      rw [List.getElem_append_right (by omega)]
      simpa [hl] using hx
theorem open_acts {base : Nat} {v : Value} {d : DataW H} {p : List MemPlace} (hv : Value.okWide Try.prog W .any base 22 v) (h : DataW.Trod enc Try.prog W 0 (fun _ => true) true 22 v d p) :
    ∃ la l cap, v = .slice la (l : List Ac).length cap ∧ Acs W la l := by
  obtain ⟨a0, len0, cap0, rfl⟩ := okWide_slice Try.underlying22 hv
  obtain ⟨fuel, hf⟩ := h
  have c32 : Try.prog.cellsOf 32 = 2 := by kernel_rfl
  rcases DataW.trod_slice Try.underlying22 hf with ⟨hcs, _⟩ | ⟨a, len, cap, elems, rest, n, _, hcs, _, _, hlc, hcm, hel, hE, _⟩
  · simp [Value.cells] at hcs
    obtain ⟨rfl, rfl, rfl⟩ := hcs
    exact ⟨none, [], 0, rfl, fun i hi => absurd hi (Nat.not_lt_zero _)⟩
  · simp [Value.cells] at hcs
    obtain ⟨rfl, rfl, rfl⟩ := hcs
    rw [c32] at hE
    have hx : ∀ i, i < len0 → ∃ x : Ac, ∃ b off, a = ⟨b, off, none⟩ ∧ (∀ j (hj : j < 2), W.cell? ⟨b, off + i * 2 + j, none⟩ = some ((x.cs)[j]'(hj))) ∧ x.wf := by
      intro i hi
      have h1 := hE i hi
      have h2 : elems[i]? = some elems[i] := List.getElem?_eq_getElem (by omega)
      rw [h2] at h1
      obtain ⟨cs, hc1, hc2⟩ := Option.bind_eq_some_iff.1 h1
      obtain ⟨x, rfl, wx⟩ := cells_act hc2
      obtain ⟨_, _, hcell⟩ := World.cells?_some hc1
      obtain ⟨b, off, spot⟩ := a
      have h0i := hE 0 (by omega)
      rw [List.getElem?_eq_getElem (show 0 < elems.length by omega)] at h0i
      obtain ⟨cs0, hc01, hc02⟩ := Option.bind_eq_some_iff.1 h0i
      obtain ⟨x0, rfl, _⟩ := cells_act hc02
      have e00 := (World.cells?_some hc01).2.2 0 (by omega)
      have hspot : spot = none := by
        have : W.cell? ⟨b, off, spot⟩ = some (.int .i64 x0.k) := by simpa [Addr.add, Ac.cs] using e00
        exact World.cell?_spot this
      subst hspot
      refine ⟨x, b, off, rfl, fun j hj => ?_, wx⟩
      have e := hcell j (by omega)
      rw [Addr.add_lit, Addr.add_lit] at e
      rw [e]
      exact List.getElem?_eq_getElem _
    obtain ⟨l, hl, hp⟩ := choose_list hx
    refine ⟨some a, l, cap0, by rw [hl], fun i hi => ?_⟩
    obtain ⟨b, off, rfl, q0, q1⟩ := hp i hi
    exact ⟨b, off, rfl, q0, q1⟩
theorem slice_len {la : Option Addr} {n cap : Nat} {d : DataW H} {p : List MemPlace} (h : DataW.Trod enc Try.prog W 0 (fun _ => true) true 22 (.slice la n cap) d p)
    (hs : (DataW.weights Try.prog 22 d).all (· ≤ reachBytes) = true) : n ≤ 1000000000000000 := by
  obtain ⟨fuel, hf⟩ := h
  have b32 : Try.prog.bytesOf 32 = 16 := by kernel_rfl
  rcases DataW.trod_slice Try.underlying22 hf with ⟨hcs, _⟩ | ⟨a, len, cap0, elems, rest, m, _, hcs, hx, _, _, _, hel, _⟩
  · simp [Value.cells] at hcs
    omega
  · simp [Value.cells] at hcs
    obtain ⟨rfl, rfl, rfl⟩ := hcs
    simp only [Prod.mk.injEq] at hx
    rw [hx.1] at hs
    simp only [DataW.weights, Try.underlying22, List.all_cons, Bool.and_eq_true, b32, List.length_map, reachBytes] at hs
    have hr := of_decide_eq_true hs.1
    omega
end
end Go.Proofs.Ytdfpfecjlpgfaaa
