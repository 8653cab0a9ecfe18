/- Arguments of the laws, opened: an Act by value, and a slice of acts. -/
import Derived.Test.YtkjcapmhjhnckaaBa
import Derived.SizedLaws
namespace Go.Proofs.Ytkjcapmhjhnckaa
open Go.ChangeShapes Go.WideShapes Go.ChangeAt Go.RowKit
set_option linter.unusedVariables false
set_option maxRecDepth 100000

/-- An act: its kind, its packet, its spans, now and late. -/
structure ActR where
  k : Int
  n : Int
  a : Int
  s : Int
  e : Bool
  la : Option Addr
  S : List (Int × Int)
  cap : Nat
  t : Int
  l : Int
def ActR.cs (r : ActR) : List Value := [.int .i64 r.k, .int .i64 r.n, .int .i64 r.a, .int .i64 r.s, .bool r.e, .slice r.la r.S.length r.cap, .int .i64 r.t, .int .i64 r.l]
/-- What is known of an act that is readable. -/
structure ActR.ok (W : World) (r : ActR) : Prop where
  sr : Sr W r.la r.S
  len : r.S.length ≤ 8796093022208
  none : r.la = none → r.S = [] ∧ r.cap = 0
  n0 : -9223372036854775808 ≤ r.n ∧ r.n ≤ 9223372036854775807
  a0 : -9223372036854775808 ≤ r.a ∧ r.a ≤ 9223372036854775807
  s0 : -9223372036854775808 ≤ r.s ∧ r.s ≤ 9223372036854775807
  t0 : -9223372036854775808 ≤ r.t ∧ r.t ≤ 9223372036854775807
  l0 : -9223372036854775808 ≤ r.l ∧ r.l ≤ 9223372036854775807
  sp : ∀ x ∈ r.S, -9223372036854775808 ≤ x.1 ∧ x.1 ≤ 9223372036854775807 ∧ -9223372036854775808 ≤ x.2 ∧ x.2 ≤ 9223372036854775807

section
variable {H : Type} {enc : TypeId × Value → H} {W : World}
theorem list2 {α : Type} {xs : List α} (h : xs.length = 2) : ∃ a b, xs = [a, b] := by
  rcases xs with _ | ⟨a, _ | ⟨b, _ | ⟨k, t⟩⟩⟩ <;> simp at h
  exact ⟨a, b, rfl⟩
theorem list4 {α : Type} {xs : List α} (h : xs.length = 4) : ∃ a b c d, xs = [a, b, c, d] := by
  rcases xs with _ | ⟨a, _ | ⟨b, _ | ⟨c, _ | ⟨d, _ | ⟨k, t⟩⟩⟩⟩⟩ <;> simp at h
  exact ⟨a, b, c, d, rfl⟩
theorem list5 {α : Type} {xs : List α} (h : xs.length = 5) : ∃ a b c d e, xs = [a, b, c, d, e] := by
  rcases xs with _ | ⟨a, _ | ⟨b, _ | ⟨c, _ | ⟨d, _ | ⟨e, _ | ⟨k, t⟩⟩⟩⟩⟩⟩ <;> simp at h
  exact ⟨a, b, c, d, e, rfl⟩
theorem list8 {α : Type} {xs : List α} (h : xs.length = 8) : ∃ a b c d e f g i, xs = [a, b, c, d, e, f, g, i] := by
  rcases xs with _ | ⟨a, _ | ⟨b, _ | ⟨c, _ | ⟨d, _ | ⟨e, _ | ⟨f, _ | ⟨g, _ | ⟨i, _ | ⟨k, t⟩⟩⟩⟩⟩⟩⟩⟩⟩ <;> simp at h
  exact ⟨a, b, c, d, e, f, g, i, rfl⟩
theorem wf_i64 {n : Int} (h : (Lit.int .i64 n).wf = true) : -9223372036854775808 ≤ n ∧ n ≤ 9223372036854775807 := by
  simp only [Lit.wf, IntKind.min, IntKind.max, IntKind.signed, IntKind.bits, Bool.and_eq_true, decide_eq_true_eq, if_true] at h
  omega
theorem choose_list {α : Type} {n : Nat} {P : Nat → α → Prop} (h : ∀ i, i < n → ∃ x, P i x) : ∃ l : List α, l.length = n ∧ ∀ i (hi : i < l.length), P i l[i] := by
  induction n with
  | zero => exact ⟨[], rfl, fun i hi => absurd hi (Nat.not_lt_zero _)⟩
  | succ n ih =>
    obtain ⟨l, hl, hp⟩ := ih (fun i hi => h i (by omega))
    obtain ⟨x, hx⟩ := h n (by omega)
    refine ⟨l ++ [x], by simp [hl], fun i hi => ?_⟩
    by_cases hin : i < l.length
    · rw [List.getElem_append_left hin]; exact hp i hin
    · have : i = n := by simp at hi; omega
      subst this
      rw [List.getElem_append_right (by omega)]
      simpa [hl] using hx
theorem all_mem {P : Program} {e : TypeId} {ds : List (DataW H)} {d : DataW H} (hd : d ∈ ds) {n : Nat} (hn : n ∈ d.weights P e) : n ∈ DataW.weightsAll P e ds := by
  induction ds with
  | nil => cases hd
  | cons x t ih =>
    rw [DataW.weightsAll, List.mem_append]
    rcases List.mem_cons.1 hd with rfl | h
    · exact .inl hn
    · exact .inr (ih h)
theorem cells_span {n : Nat} {cs : List Value} {y : DataW H × List MemPlace} (h : DataW.trod enc Try.prog W 0 (fun _ => true) true n 50 cs = some y) :
    ∃ a b : Int, cs = [.int .i64 a, .int .i64 b] ∧ (Lit.int .i64 a).wf = true ∧ (Lit.int .i64 b).wf = true := by
  have c50 : Try.prog.cellsOf 50 = 2 := by kernel_rfl
  have c3 : Try.prog.cellsOf 3 = 1 := by kernel_rfl
  obtain ⟨xs, m, _, hx, hl, hlen, hfld⟩ := DataW.trod_struct Try.underlying50 h
  rw [c50] at hl
  obtain ⟨y0, y1, rfl⟩ := list2 hlen
  obtain ⟨a0, a1, rfl⟩ := list2 hl
  have g0 : DataW.trod enc Try.prog W 0 (fun _ => true) true m 3 [a0] = some y0 := by have := hfld 0 _ rfl; simpa [c3] using this
  have g1 : DataW.trod enc Try.prog W 0 (fun _ => true) true m 3 [a1] = some y1 := by have := hfld 1 _ rfl; simpa [c3] using this
  obtain ⟨k, e0, _, w0⟩ := DataW.trod_int Try.underlying3 g0
  obtain ⟨mo, e1, _, w1⟩ := DataW.trod_int Try.underlying3 g1
  simp only [List.cons.injEq, and_true] at e0 e1
  subst e0 e1
  exact ⟨k, mo, rfl, w0, w1⟩
theorem cells_packet {n : Nat} {cs : List Value} {y : DataW H × List MemPlace} (h : DataW.trod enc Try.prog W 0 (fun _ => true) true n 29 cs = some y) :
    ∃ (a b c : Int) (d : Bool), cs = [.int .i64 a, .int .i64 b, .int .i64 c, .bool d] ∧ (Lit.int .i64 a).wf = true ∧ (Lit.int .i64 b).wf = true ∧ (Lit.int .i64 c).wf = true := by
  have c29 : Try.prog.cellsOf 29 = 4 := by kernel_rfl
  have c3 : Try.prog.cellsOf 3 = 1 := by kernel_rfl
  have c4 : Try.prog.cellsOf 4 = 1 := by kernel_rfl
  obtain ⟨xs, m, _, hx, hl, hlen, hfld⟩ := DataW.trod_struct Try.underlying29 h
  rw [c29] at hl
  obtain ⟨y0, y1, y2, y3, rfl⟩ := list4 hlen
  obtain ⟨a0, a1, a2, a3, rfl⟩ := list4 hl
  have g0 : DataW.trod enc Try.prog W 0 (fun _ => true) true m 3 [a0] = some y0 := by have := hfld 0 _ rfl; simpa [c3] using this
  have g1 : DataW.trod enc Try.prog W 0 (fun _ => true) true m 3 [a1] = some y1 := by have := hfld 1 _ rfl; simpa [c3] using this
  have g2 : DataW.trod enc Try.prog W 0 (fun _ => true) true m 3 [a2] = some y2 := by have := hfld 2 _ rfl; simpa [c3] using this
  have g3 : DataW.trod enc Try.prog W 0 (fun _ => true) true m 4 [a3] = some y3 := by have := hfld 3 _ rfl; simpa [c4] using this
  obtain ⟨k, e0, _, w0⟩ := DataW.trod_int Try.underlying3 g0
  obtain ⟨mo, e1, _, w1⟩ := DataW.trod_int Try.underlying3 g1
  obtain ⟨so, e2, _, w2⟩ := DataW.trod_int Try.underlying3 g2
  obtain ⟨d, e3, _⟩ := DataW.trod_bool Try.underlying4 g3
  simp only [List.cons.injEq, and_true] at e0 e1 e2 e3
  subst e0 e1 e2 e3
  exact ⟨k, mo, so, d, rfl, w0, w1, w2⟩
/-- A slice of spans. -/
theorem cells_spans {m : Nat} {v : Value} {y : DataW H × List MemPlace} (hf : DataW.trod enc Try.prog W 0 (fun _ => true) true m 30 [v] = some y) (hw : ∀ k ∈ DataW.weights Try.prog 30 y.1, k ≤ reachBytes) :
    ∃ (la : Option Addr) (S : List (Int × Int)) (cap : Nat), v = .slice la S.length cap ∧ Sr W la S ∧ S.length ≤ 8796093022208 ∧ (la = none → S = [] ∧ cap = 0) ∧ ∀ x ∈ S, -9223372036854775808 ≤ x.1 ∧ x.1 ≤ 9223372036854775807 ∧ -9223372036854775808 ≤ x.2 ∧ x.2 ≤ 9223372036854775807 := by
  have c50 : Try.prog.cellsOf 50 = 2 := by kernel_rfl
  have b50 : Try.prog.bytesOf 50 = 16 := by kernel_rfl
  rcases DataW.trod_slice Try.underlying30 hf with ⟨hcs, _⟩ | ⟨a, len, cap, elems, rest, n, _, hcs, hx, _, hlc, hcm, hel, hE, _⟩
  · simp only [List.cons.injEq, and_true] at hcs
    subst hcs
    exact ⟨none, [], 0, rfl, fun i hi => absurd hi (Nat.not_lt_zero _), by simp, fun _ => ⟨rfl, rfl⟩, fun x hx => by cases hx⟩
  · simp only [List.cons.injEq, and_true] at hcs
    subst hcs
    rw [c50] at hE
    rw [hx] at hw
    dsimp only at hw
    have hsz : len ≤ 8796093022208 := by
      have := hw ((elems.map (·.1)).length * 16 + (rest.map (·.1)).length * 16) (by
        rw [DataW.weights, Try.underlying30]
        simp only [b50, List.mem_cons]
        left
        rw [Nat.add_mul])
      simp only [List.length_map, reachBytes] at this
      omega
    have hq : ∀ i, i < len → ∃ x : Int × Int, ∃ b off, a = ⟨b, off, none⟩ ∧ W.cell? ⟨b, off + i * 2, none⟩ = some (.int .i64 x.1) ∧ W.cell? ⟨b, off + i * 2 + 1, none⟩ = some (.int .i64 x.2) ∧ -9223372036854775808 ≤ x.1 ∧ x.1 ≤ 9223372036854775807 ∧ -9223372036854775808 ≤ x.2 ∧ x.2 ≤ 9223372036854775807 := by
      intro i hi
      have h1 := hE i hi
      have h2 : elems[i]? = some elems[i] := List.getElem?_eq_getElem (by omega)
      rw [h2] at h1
      obtain ⟨cs, hc1, hc2⟩ := Option.bind_eq_some_iff.1 h1
      obtain ⟨x, y, rfl, wx, wy⟩ := cells_span hc2
      obtain ⟨_, _, hcell⟩ := World.cells?_some hc1
      have e0 := hcell 0 (by omega)
      have e1 := hcell 1 (by omega)
      obtain ⟨b, off, spot⟩ := a
      have h0i := hE 0 (by omega)
      rw [List.getElem?_eq_getElem (show 0 < elems.length by omega)] at h0i
      obtain ⟨cs0, hc01, hc02⟩ := Option.bind_eq_some_iff.1 h0i
      obtain ⟨x0, y0, rfl, _⟩ := cells_span hc02
      have e00 := (World.cells?_some hc01).2.2 0 (by omega)
      have hspot : spot = none := by
        have : W.cell? ⟨b, off, spot⟩ = some (.int .i64 x0) := by simpa [Addr.add] using e00
        exact World.cell?_spot this
      subst hspot
      rw [Addr.add_lit, Addr.add_lit] at e0 e1
      exact ⟨(x, y), b, off, rfl, by simpa using e0, by simpa using e1, (wf_i64 wx).1, (wf_i64 wx).2, (wf_i64 wy).1, (wf_i64 wy).2⟩
    obtain ⟨l, hl, hp⟩ := choose_list hq
    refine ⟨some a, l, cap, by rw [hl], fun i hi => ?_, by omega, (fun h => by cases h), fun x hx => ?_⟩
    · obtain ⟨b, off, rfl, q0, q1, _⟩ := hp i hi
      exact ⟨b, off, rfl, q0, q1⟩
    · obtain ⟨i, hi, rfl⟩ := List.getElem_of_mem hx
      obtain ⟨b, off, _, _, _, q⟩ := hp i hi
      exact q
/-- An act's cells. -/
theorem act_cells {n : Nat} {cs : List Value} {y : DataW H × List MemPlace} (h : DataW.trod enc Try.prog W 0 (fun _ => true) true n 32 cs = some y) (hw : ∀ k ∈ DataW.weights Try.prog 32 y.1, k ≤ reachBytes) :
    ∃ r : ActR, cs = r.cs ∧ r.ok W := by
  have c32 : Try.prog.cellsOf 32 = 8 := by kernel_rfl
  have c3 : Try.prog.cellsOf 3 = 1 := by kernel_rfl
  have c30 : Try.prog.cellsOf 30 = 1 := by kernel_rfl
  have c29 : Try.prog.cellsOf 29 = 4 := by kernel_rfl
  obtain ⟨xs, m, _, hx, hl, hlen, hfld⟩ := DataW.trod_struct Try.underlying32 h
  rw [c32] at hl
  obtain ⟨y0, y1, y2, y3, y4, rfl⟩ := list5 hlen
  obtain ⟨a0, a1, a2, a3, a4, a5, a6, a7, rfl⟩ := list8 hl
  have g0 : DataW.trod enc Try.prog W 0 (fun _ => true) true m 3 [a0] = some y0 := by have := hfld 0 _ rfl; simpa [c3] using this
  have g1 : DataW.trod enc Try.prog W 0 (fun _ => true) true m 29 [a1, a2, a3, a4] = some y1 := by have := hfld 1 _ rfl; simpa [c29] using this
  have g2 : DataW.trod enc Try.prog W 0 (fun _ => true) true m 30 [a5] = some y2 := by have := hfld 2 _ rfl; simpa [c30] using this
  have g3 : DataW.trod enc Try.prog W 0 (fun _ => true) true m 3 [a6] = some y3 := by have := hfld 3 _ rfl; simpa [c3] using this
  have g4 : DataW.trod enc Try.prog W 0 (fun _ => true) true m 3 [a7] = some y4 := by have := hfld 4 _ rfl; simpa [c3] using this
  obtain ⟨k, e0, _, w0⟩ := DataW.trod_int Try.underlying3 g0
  obtain ⟨pn, pa, ps, pe, e1, w1, w2, w3⟩ := cells_packet g1
  obtain ⟨t, e3, _, w6⟩ := DataW.trod_int Try.underlying3 g3
  obtain ⟨l, e4, _, w7⟩ := DataW.trod_int Try.underlying3 g4
  have hw2 : ∀ k ∈ DataW.weights Try.prog 30 y2.1, k ≤ reachBytes := by
    intro k hk
    refine hw k ?_
    rw [hx]
    rw [DataW.weights, Try.underlying32]
    exact DataW.weights_mem_each (j := 2) (t := 30) rfl rfl k hk
  obtain ⟨la, S, cap, rfl, hS, hlen, hnn, hsp⟩ := cells_spans g2 hw2
  simp only [List.cons.injEq, and_true] at e0 e1 e3 e4
  obtain ⟨rfl, rfl, rfl, rfl⟩ := e1
  subst e0 e3 e4
  exact ⟨⟨k, pn, pa, ps, pe, la, S, cap, t, l⟩, rfl, hS, hlen, hnn, wf_i64 w1, wf_i64 w2, wf_i64 w3, wf_i64 w6, wf_i64 w7, hsp⟩
theorem open_act {base : Nat} {v : Value} {d : DataW H} {p : List MemPlace} (hv : Value.okWide Try.prog W .any base 32 v) (h : DataW.Trod enc Try.prog W 0 (fun _ => true) true 32 v d p) (hw : ∀ k ∈ DataW.weights Try.prog 32 d, k ≤ reachBytes) :
    ∃ r : ActR, v = .agg r.cs.toArray ∧ r.ok W := by
  obtain ⟨cs, rfl, hcs⟩ := okWide_struct Try.underlying32 hv
  obtain ⟨fuel, hf⟩ := h
  obtain ⟨r, e, hr⟩ := act_cells hf hw
  refine ⟨r, ?_, hr⟩
  congr 1
  apply Array.ext'
  exact e
/-- Acts as they lie. -/
def Ac (W : World) (la : Option Addr) (L : List ActR) : Prop :=
  ∀ i (h : i < L.length), ∃ b off, la = some ⟨b, off, none⟩ ∧ (∀ j v, L[i].cs[j]? = some v → W.cell? ⟨b, off + i * 8 + j, none⟩ = some v) ∧ L[i].ok W
theorem open_acts {base : Nat} {v : Value} {d : DataW H} {p : List MemPlace} (hv : Value.okWide Try.prog W .any base 22 v) (h : DataW.Trod enc Try.prog W 0 (fun _ => true) true 22 v d p) (hw : ∀ k ∈ DataW.weights Try.prog 22 d, k ≤ reachBytes) :
    ∃ la L cap, v = .slice la (L : List ActR).length cap ∧ Ac W la L ∧ L.length ≤ 1759218604441 := by
  obtain ⟨a0, len0, cap0, rfl⟩ := okWide_slice Try.underlying22 hv
  obtain ⟨fuel, hf⟩ := h
  have c32 : Try.prog.cellsOf 32 = 8 := by kernel_rfl
  have b32 : Try.prog.bytesOf 32 = 80 := by kernel_rfl
  rcases DataW.trod_slice Try.underlying22 hf with ⟨hcs, _⟩ | ⟨a, len, cap, elems, rest, n, _, hcs, hx, _, hlc, hcm, hel, hE, _⟩
  · simp [Value.cells] at hcs
    obtain ⟨rfl, rfl, rfl⟩ := hcs
    exact ⟨none, [], 0, rfl, fun i hi => absurd hi (Nat.not_lt_zero _), by simp⟩
  · simp [Value.cells] at hcs
    obtain ⟨rfl, rfl, rfl⟩ := hcs
    rw [c32] at hE
    simp only [Prod.mk.injEq] at hx
    rw [hx.1] at hw
    have hsz : len0 ≤ 1759218604441 := by
      have := hw ((elems.map (·.1)).length * 80 + (rest.map (·.1)).length * 80) (by
        rw [DataW.weights, Try.underlying22]
        simp only [b32, List.mem_cons]
        left
        rw [Nat.add_mul])
      simp only [List.length_map, reachBytes] at this
      omega
    have hq : ∀ i, i < len0 → ∃ r : ActR, ∃ b off, a = ⟨b, off, none⟩ ∧ (∀ j v, r.cs[j]? = some v → W.cell? ⟨b, off + i * 8 + j, none⟩ = some v) ∧ r.ok W := by
      intro i hi
      have hone : ∀ j, j < len0 → ∃ cs y, W.cells? 0 (a.add (j * 8)) 8 = some cs ∧ DataW.trod enc Try.prog W 0 (fun _ => true) true n 32 cs = some y ∧ ∀ k ∈ DataW.weights Try.prog 32 y.1, k ≤ reachBytes := by
        intro j hj
        have h1 := hE j hj
        rw [List.getElem?_eq_getElem (show j < elems.length by omega)] at h1
        obtain ⟨cs, hc1, hc2⟩ := Option.bind_eq_some_iff.1 h1
        refine ⟨cs, _, hc1, hc2, fun k hk => hw k ?_⟩
        rw [DataW.weights, Try.underlying22]
        simp only [List.mem_cons, List.mem_append]
        exact .inr (.inl (all_mem (List.mem_map_of_mem (List.getElem_mem (show j < elems.length by omega))) hk))
      obtain ⟨cs, y, hc1, hc2, hwy⟩ := hone i hi
      obtain ⟨r, rfl, hr⟩ := act_cells hc2 hwy
      obtain ⟨_, _, hcell⟩ := World.cells?_some hc1
      obtain ⟨cs0, y0, hd1, hd2, hwy0⟩ := hone 0 (by omega)
      obtain ⟨r0, rfl, _⟩ := act_cells hd2 hwy0
      have e00 := (World.cells?_some hd1).2.2 0 (by omega)
      obtain ⟨b, off, spot⟩ := a
      have hspot : spot = none := by
        have : W.cell? ⟨b, off, spot⟩ = some (.int .i64 r0.k) := by simpa [Addr.add, ActR.cs] using e00
        exact World.cell?_spot this
      subst hspot
      refine ⟨r, b, off, rfl, fun j v hj => ?_, hr⟩
      have hj8 : j < 8 := by have := (List.getElem?_eq_some_iff.1 hj).1; simpa [ActR.cs] using this
      have e := hcell j hj8
      rw [Addr.add_lit, Addr.add_lit] at e
      rw [← hj]
      simpa using e
    obtain ⟨L, hL, hp⟩ := choose_list hq
    refine ⟨some a, L, cap0, by rw [hL], fun i hi => ?_, by omega⟩
    obtain ⟨b, off, e, z⟩ := hp i hi
    exact ⟨b, off, by rw [e], z⟩
end
end Go.Proofs.Ytkjcapmhjhnckaa
