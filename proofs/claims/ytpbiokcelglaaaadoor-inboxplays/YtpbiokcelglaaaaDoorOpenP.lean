/- Arguments of the laws, opened: a slice of acts. -/
import Derived.Test.YtpbiokcelglaaaaDoorPlaysL
import Derived.Test.YtpbiokcelglaaaaDoorOpen
import Derived.Test.YtpbiokcelglaaaaDoorRowBytes
import Derived.ProofKit
import Derived.OpenShut
import Derived.SizedLaws
namespace Go.Proofs.YtpbiokcelglaaaaDoor
open Go.ChangeShapes Go.WideShapes Go.ChangeAt Go.RowKit
set_option linter.unusedVariables false

section
variable {H : Type} {enc : TypeId × Value → H} {W : World}
theorem all_mem {P : Program} {e : TypeId} {ds : List (DataW H)} {d : DataW H} (hd : d ∈ ds) {n : Nat} (hn : n ∈ d.weights P e) : n ∈ DataW.weightsAll P e ds := by
  induction ds with
  | nil => cases hd
  | cons x t ih =>
    rw [DataW.weightsAll, List.mem_append]
    rcases List.mem_cons.1 hd with rfl | h
    · exact .inl hn
    · exact .inr (ih h)
theorem list5' {α : Type} {xs : List α} (h : xs.length = 5) : ∃ a b c d e, xs = [a, b, c, d, e] := list5 h
theorem wf_i64 {n : Int} (h : (Lit.int .i64 n).wf = true) : -9223372036854775808 ≤ n ∧ n ≤ 9223372036854775807 := by
  simp only [Lit.wf, IntKind.min, IntKind.max, IntKind.signed, IntKind.bits, Bool.and_eq_true, decide_eq_true_eq, if_true] at h
  omega
/-- An act's cells. -/
theorem act_cells {n : Nat} {cs : List Value} {y : DataW H × List MemPlace} (h : DataW.trod enc Tryd.prog W 0 (fun _ => true) true n 33 cs = some y) (hw : ∀ k ∈ DataW.weights Tryd.prog 33 y.1, k ≤ reachBytes) :
    ∃ r : ActR, cs = [.int .i64 r.k, .int .i64 r.o, .slice r.la r.l.length r.cap, .bool r.f, .int .i64 r.n] ∧ Sl W r.la r.l ∧ r.l.length ≤ 140737488351232 ∧ (r.la = none → r.l.length = 0 ∧ r.cap = 0) ∧ (-9223372036854775808 ≤ r.o ∧ r.o ≤ 9223372036854775807) ∧ (-9223372036854775808 ≤ r.n ∧ r.n ≤ 9223372036854775807) := by
  have c33 : Tryd.prog.cellsOf 33 = 5 := by kernel_rfl
  have c3 : Tryd.prog.cellsOf 3 = 1 := by kernel_rfl
  have c4 : Tryd.prog.cellsOf 4 = 1 := by kernel_rfl
  have c31 : Tryd.prog.cellsOf 31 = 1 := by kernel_rfl
  have b5 : Tryd.prog.bytesOf 5 = 1 := by kernel_rfl
  obtain ⟨xs, m, _, hx, hl, hlen, hfld⟩ := DataW.trod_struct Tryd.underlying33 h
  rw [c33] at hl
  obtain ⟨y0, y1, y2, y3, y4, rfl⟩ := list5 hlen
  obtain ⟨a0, a1, a2, a3, a4, rfl⟩ := list5 hl
  have g0 : DataW.trod enc Tryd.prog W 0 (fun _ => true) true m 3 [a0] = some y0 := by have := hfld 0 _ rfl; simpa [c3] using this
  have g1 : DataW.trod enc Tryd.prog W 0 (fun _ => true) true m 3 [a1] = some y1 := by have := hfld 1 _ rfl; simpa [c3] using this
  have g2 : DataW.trod enc Tryd.prog W 0 (fun _ => true) true m 31 [a2] = some y2 := by have := hfld 2 _ rfl; simpa [c31] using this
  have g3 : DataW.trod enc Tryd.prog W 0 (fun _ => true) true m 4 [a3] = some y3 := by have := hfld 3 _ rfl; simpa [c4] using this
  have g4 : DataW.trod enc Tryd.prog W 0 (fun _ => true) true m 3 [a4] = some y4 := by have := hfld 4 _ rfl; simpa [c3] using this
  obtain ⟨a, e0, _, w0⟩ := DataW.trod_int Tryd.underlying3 g0
  obtain ⟨b, e1, _, w1⟩ := DataW.trod_int Tryd.underlying3 g1
  obtain ⟨f, e3, _⟩ := DataW.trod_bool Tryd.underlying4 g3
  obtain ⟨d, e4, _, w4⟩ := DataW.trod_int Tryd.underlying3 g4
  simp only [List.cons.injEq, and_true] at e0 e1 e3 e4
  subst e0 e1 e3 e4
  have hw2 : ∀ k ∈ DataW.weights Tryd.prog 31 y2.1, k ≤ reachBytes := by
    intro k hk
    refine hw k ?_
    rw [hx]
    rw [DataW.weights, Tryd.underlying33]
    exact DataW.weights_mem_each (j := 2) (t := 31) rfl rfl k hk
  rcases open_ints Tryd.underlying31 Tryd.underlying5 (by kernel_rfl) g2 with ⟨hcs, _⟩ | ⟨x, l, c, zs, hcs, _, hlc, hm, hz, hx2, hcell, hwz⟩
  · simp only [List.cons.injEq, and_true] at hcs
    subst hcs
    exact ⟨⟨a, b, none, [], 0, f, d⟩, rfl, fun j hj => absurd hj (by simp), by simp, fun _ => ⟨rfl, rfl⟩, wf_i64 w1, wf_i64 w4⟩
  · simp only [List.cons.injEq, and_true] at hcs
    subst hcs
    have hr := hw2 ((lits (H := H) .u8 (zs.take l)).length * 1 + (lits (H := H) .u8 (zs.drop l)).length * 1) (by
      rw [hx2, DataW.weights, Tryd.underlying31]
      simp [b5])
    simp only [lits, List.length_map, List.length_take, List.length_drop, reachBytes] at hr
    rw [if_pos rfl] at hz
    obtain ⟨L, q1, q2, q3⟩ := row_bytes hlc hz hcell hwz (by omega)
    exact ⟨⟨a, b, some x, L, c, f, d⟩, by rw [q1], q2, q3, (fun h => by cases h), wf_i64 w1, wf_i64 w4⟩
theorem choose_acts {α : Type} {n : Nat} {P : Nat → α → Prop} (h : ∀ i, i < n → ∃ x, P i x) : ∃ l : List α, l.length = n ∧ ∀ i (hi : i < l.length), P i l[i] := by
  induction n with
  | zero => exact ⟨[], rfl, fun i hi => absurd hi (Nat.not_lt_zero _)⟩
  | succ n ih =>
    obtain ⟨l, hl, hp⟩ := ih (fun i hi => h i (by omega))
    obtain ⟨x, hx⟩ := h n (by omega)
    refine ⟨l ++ [x], by simp [hl], fun i hi => ?_⟩
    by_cases hin : i < l.length
    · rw [List.getElem_append_left hin]; exact hp i hin
    · have : i = n := by simp at hi; omega
      subst this
      rw [List.getElem_append_right (by omega)]
      simpa [hl] using hx
theorem open_acts {base : Nat} {v : Value} {d : DataW H} {p : List MemPlace} (hv : Value.okWide Tryd.prog W .any base 22 v) (h : DataW.Trod enc Tryd.prog W 0 (fun _ => true) true 22 v d p) (hw : ∀ k ∈ DataW.weights Tryd.prog 22 d, k ≤ reachBytes) :
    ∃ la L cap, v = .slice la (L : List ActR).length cap ∧ Ac W la L ∧ L.length ≤ 2600000000000 := by
  obtain ⟨a0, len0, cap0, rfl⟩ := okWide_slice Tryd.underlying22 hv
  obtain ⟨fuel, hf⟩ := h
  have c33 : Tryd.prog.cellsOf 33 = 5 := by kernel_rfl
  have b33 : Tryd.prog.bytesOf 33 = 56 := by kernel_rfl
  rcases DataW.trod_slice Tryd.underlying22 hf with ⟨hcs, _⟩ | ⟨a, len, cap, elems, rest, n, _, hcs, hx, _, hlc, hcm, hel, hE, _⟩
  · simp [Value.cells] at hcs
    obtain ⟨rfl, rfl, rfl⟩ := hcs
    exact ⟨none, [], 0, rfl, fun i hi => absurd hi (Nat.not_lt_zero _), by simp⟩
  · simp [Value.cells] at hcs
    obtain ⟨rfl, rfl, rfl⟩ := hcs
    rw [c33] at hE
    simp only [Prod.mk.injEq] at hx
    rw [hx.1] at hw
    have hsz : len0 ≤ 2600000000000 := by
      have := hw ((elems.map (·.1)).length * 56 + (rest.map (·.1)).length * 56) (by
        rw [DataW.weights, Tryd.underlying22]
        simp only [b33, List.mem_cons]
        left
        rw [Nat.add_mul])
      simp only [List.length_map, reachBytes] at this
      omega
    have hq : ∀ i, i < len0 → ∃ r : ActR, ∃ b off, a = ⟨b, off, none⟩ ∧ W.cell? ⟨b, off + i * 5, none⟩ = some (.int .i64 r.k) ∧ W.cell? ⟨b, off + i * 5 + 1, none⟩ = some (.int .i64 r.o) ∧ W.cell? ⟨b, off + i * 5 + 2, none⟩ = some (.slice r.la r.l.length r.cap) ∧ W.cell? ⟨b, off + i * 5 + 3, none⟩ = some (.bool r.f) ∧ W.cell? ⟨b, off + i * 5 + 4, none⟩ = some (.int .i64 r.n) ∧
        Sl W r.la r.l ∧ r.l.length ≤ 140737488351232 ∧ (r.la = none → r.l.length = 0 ∧ r.cap = 0) ∧ (-9223372036854775808 ≤ r.o ∧ r.o ≤ 9223372036854775807) ∧ (-9223372036854775808 ≤ r.n ∧ r.n ≤ 9223372036854775807) := by
      intro i hi
      have hone : ∀ j, j < len0 → ∃ cs y, W.cells? 0 (a.add (j * 5)) 5 = some cs ∧ DataW.trod enc Tryd.prog W 0 (fun _ => true) true n 33 cs = some y ∧ ∀ k ∈ DataW.weights Tryd.prog 33 y.1, k ≤ reachBytes := by
        intro j hj
        have h1 := hE j hj
        rw [List.getElem?_eq_getElem (show j < elems.length by omega)] at h1
        obtain ⟨cs, hc1, hc2⟩ := Option.bind_eq_some_iff.1 h1
        refine ⟨cs, _, hc1, hc2, fun k hk => hw k ?_⟩
        rw [DataW.weights, Tryd.underlying22]
        simp only [List.mem_cons, List.mem_append]
        exact .inr (.inl (all_mem (List.mem_map_of_mem (List.getElem_mem (show j < elems.length by omega))) hk))
      obtain ⟨cs, y, hc1, hc2, hwy⟩ := hone i hi
      obtain ⟨r, rfl, p1, p2, p3, p4, p5⟩ := act_cells hc2 hwy
      obtain ⟨_, _, hcell⟩ := World.cells?_some hc1
      obtain ⟨cs0, y0, hd1, hd2, hwy0⟩ := hone 0 (by omega)
      obtain ⟨r0, rfl, _⟩ := act_cells hd2 hwy0
      have e00 := (World.cells?_some hd1).2.2 0 (by omega)
      have e0 := hcell 0 (by omega)
      have e1 := hcell 1 (by omega)
      have e2 := hcell 2 (by omega)
      have e3 := hcell 3 (by omega)
      have e4 := hcell 4 (by omega)
      obtain ⟨b, off, spot⟩ := a
      have hspot : spot = none := by
        have : W.cell? ⟨b, off, spot⟩ = some (.int .i64 r0.k) := by simpa [Addr.add] using e00
        exact World.cell?_spot this
      subst hspot
      rw [Addr.add_lit, Addr.add_lit] at e0 e1 e2 e3 e4
      exact ⟨r, b, off, rfl, by simpa using e0, by simpa using e1, by simpa using e2, by simpa using e3, by simpa using e4, p1, p2, p3, p4, p5⟩
    obtain ⟨L, hL, hp⟩ := choose_acts hq
    refine ⟨some a, L, cap0, by rw [hL], fun i hi => ?_, by omega⟩
    obtain ⟨b, off, e, z⟩ := hp i hi
    exact ⟨b, off, by rw [e], z⟩
end
end Go.Proofs.YtpbiokcelglaaaaDoor
