/- A slice of acts, opened. -/
import Derived.Test.YtpjoaimbaboleaaMk
import Derived.Test.YtpjoaimbaboleaaRows
import Derived.ProofKit
import Derived.OpenShut
import Derived.SizedLaws
namespace Go.Proofs.Ytpjoaimbaboleaa
open Go.ChangeShapes Go.WideShapes Go.ChangeAt Go.RowKit
set_option linter.unusedVariables false

theorem row_bytes {W : World} {x : Addr} {len cap : Nat} {zs : List Int} (hl : len ≤ cap) (hz : zs.length = cap) (hcell : ∀ i, i < zs.length → W.cell? (x.add i) = some (.int .u8 (zs.getD i 0))) (hwz : ∀ n ∈ zs, (Lit.int .u8 n).wf = true) (hb : len ≤ 140737488351232) :
    ∃ l : List UInt8, l.length = len ∧ Sl W (some x) l ∧ l.length ≤ 140737488351232 := by
  refine ⟨(zs.take len).map fun z => UInt8.ofNat z.toNat, by simp; omega, fun j hj => ?_, by simp; omega⟩
  have hj' : j < len := by simp at hj; omega
  obtain ⟨b, off, rfl, hc⟩ := ints_at hcell (by omega)
  refine ⟨b, off, rfl, ?_⟩
  rw [hc j (by omega)]
  have hm : zs[j]'(by omega) ∈ zs := List.getElem_mem _
  obtain ⟨h0, h1⟩ := bounds_u8 (hwz _ hm)
  have e : zs.getD j 0 = zs[j]'(by omega) := by simp [List.getD, List.getElem?_eq_getElem (show j < zs.length by omega)]
  rw [e]
  simp only [List.getElem_map, List.getElem_take, UInt8.toNat_ofNat']
  congr 2
  omega
section
variable {H : Type} {enc : TypeId × Value → H} {W : World}
theorem field_bytes {n : Nat} {c : Value} {y : DataW H × List MemPlace} (h : DataW.trod enc Try.prog W 0 (fun _ => true) true n 33 [c] = some y) (hsz : (DataW.weights Try.prog 33 y.1).all (· ≤ reachBytes) = true) :
    ∃ ao l cap, c = .slice ao (l : List UInt8).length cap ∧ Sl W ao l ∧ (ao = none → l.length = 0 ∧ cap = 0) ∧ l.length ≤ 140737488351232 ∧ l.length ≤ cap ∧ cap ≤ 9253372036854775807 := by
  rcases open_ints Try.underlying33 Try.underlying5 (by kernel_rfl) h with ⟨hcs, _⟩ | ⟨x, l, c', zs, hcs, _, hl, hm, hz, hx, hcell, hwz⟩
  · simp only [List.cons.injEq, and_true] at hcs
    subst hcs
    exact ⟨none, [], 0, rfl, fun j hj => absurd hj (by simp), fun _ => ⟨rfl, rfl⟩, by decide, by decide, by decide⟩
  · simp only [List.cons.injEq, and_true] at hcs
    subst hcs
    have hz' := hz
    rw [if_pos rfl] at hz'
    have hb5 : Try.prog.bytesOf 5 = 1 := by kernel_rfl
    rw [hx] at hsz
    simp only [DataW.weights, Try.underlying33, List.all_cons, Bool.and_eq_true, decide_eq_true_eq, hb5] at hsz
    have hr := hsz.1
    simp only [lits, List.length_map, List.length_take, List.length_drop, reachBytes] at hr
    obtain ⟨L, g1, g2, g3⟩ := row_bytes hl hz' hcell hwz (by omega)
    subst g1
    exact ⟨some x, L, c', rfl, g2, (fun h => nomatch h), g3, hl, by unfold maxLen at hm; omega⟩
theorem list5 {α : Type} {xs : List α} (h : xs.length = 5) : ∃ a b c d e, xs = [a, b, c, d, e] := by
  match xs, h with
  | [a, b, c, d, e], _ => exact ⟨a, b, c, d, e, rfl⟩
set_option maxRecDepth 10000 in
theorem cells_act {n : Nat} {cs : List Value} {y : DataW H × List MemPlace} (h : DataW.trod enc Try.prog W 0 (fun _ => true) true n 35 cs = some y) (hsz : (DataW.weights Try.prog 35 y.1).all (· ≤ reachBytes) = true) :
    ∃ (k a b : Int) (lb : ByteArray) (ao : Option Addr) (l : List UInt8) (c : Nat), cs = [.int .i64 k, .int .i64 a, .int .i64 b, .string lb, .slice ao l.length c] ∧ Sl W ao l ∧ l.length ≤ 140737488351232 ∧ lb.size ≤ 140737488351232 ∧ (Lit.int .i64 k).wf = true ∧ (Lit.int .i64 a).wf = true ∧ (Lit.int .i64 b).wf = true := by
  have c35 : Try.prog.cellsOf 35 = 5 := by kernel_rfl
  have c3 : Try.prog.cellsOf 3 = 1 := by kernel_rfl
  have c9 : Try.prog.cellsOf 9 = 1 := by kernel_rfl
  have c33 : Try.prog.cellsOf 33 = 1 := by kernel_rfl
  obtain ⟨xs, m, _, hx, hl, hlen, hfld⟩ := DataW.trod_struct Try.underlying35 h
  rw [c35] at hl
  obtain ⟨y0, y1, y2, y3, y4, rfl⟩ := list5 hlen
  obtain ⟨a0, a1, a2, a3, a4, rfl⟩ := list5 hl
  have g0 : DataW.trod enc Try.prog W 0 (fun _ => true) true m 3 [a0] = some y0 := by have := hfld 0 _ rfl; simpa [c3] using this
  have g1 : DataW.trod enc Try.prog W 0 (fun _ => true) true m 3 [a1] = some y1 := by have := hfld 1 _ rfl; simpa [c3] using this
  have g2 : DataW.trod enc Try.prog W 0 (fun _ => true) true m 3 [a2] = some y2 := by have := hfld 2 _ rfl; simpa [c3] using this
  have g3 : DataW.trod enc Try.prog W 0 (fun _ => true) true m 9 [a3] = some y3 := by have := hfld 3 _ rfl; simpa [c9] using this
  have g4 : DataW.trod enc Try.prog W 0 (fun _ => true) true m 33 [a4] = some y4 := by have := hfld 4 _ rfl; simpa [c33] using this
  subst hx
  simp only [DataW.weights, Try.underlying35, List.map_cons, List.map_nil, DataW.weightsEach, List.all_append, Bool.and_eq_true] at hsz
  obtain ⟨_, _, _, z3, z4, _⟩ := hsz
  obtain ⟨k, e0, _, w0⟩ := DataW.trod_int Try.underlying3 g0
  obtain ⟨a, e1, _, w1⟩ := DataW.trod_int Try.underlying3 g1
  obtain ⟨b, e2, _, w2⟩ := DataW.trod_int Try.underlying3 g2
  obtain ⟨lb, e3, x3, w3⟩ := DataW.trod_string Try.underlying9 g3
  obtain ⟨ao, l, c, rfl, s1, _, s3, _⟩ := field_bytes g4 z4
  simp only [List.cons.injEq, and_true] at e0 e1 e2 e3
  subst e0 e1 e2 e3
  rw [x3] at z3
  simp only [DataW.weights, List.all_cons, Bool.and_eq_true, decide_eq_true_eq] at z3
  exact ⟨k, a, b, lb, ao, l, c, rfl, s1, s3, by simpa [reachBytes] using z3, w0, w1, w2⟩
theorem all_mem {P : Program} {e : TypeId} {ds : List (DataW H)} {d : DataW H} (hd : d ∈ ds) {n : Nat} (hn : n ∈ d.weights P e) : n ∈ DataW.weightsAll P e ds := by
  induction ds with
  | nil => cases hd
  | cons x t ih =>
    rw [DataW.weightsAll, List.mem_append]
    rcases List.mem_cons.1 hd with rfl | h
    · exact .inl hn
    · exact .inr (ih h)
theorem wf_i64 {n : Int} (h : (Lit.int .i64 n).wf = true) : -9223372036854775808 ≤ n ∧ n ≤ 9223372036854775807 := by
  simp only [Lit.wf, IntKind.min, IntKind.max, IntKind.signed, IntKind.bits, Bool.and_eq_true, decide_eq_true_eq, if_true] at h
  omega
theorem choose_acts {α : Type} {n : Nat} {P : Nat → α → Prop} (h : ∀ i, i < n → ∃ x, P i x) : ∃ l : List α, l.length = n ∧ ∀ i (hi : i < l.length), P i l[i] := by
  induction n with
  | zero => exact ⟨[], rfl, fun i hi => absurd hi (Nat.not_lt_zero _)⟩
  | succ n ih =>
    obtain ⟨l, hl, hp⟩ := ih (fun i hi => h i (by omega))
    obtain ⟨x, hx⟩ := h n (by omega)
    refine ⟨l ++ [x], by simp [hl], fun i hi => ?_⟩
    by_cases hin : i < l.length
    · rw [List.getElem_append_left hin]; exact hp i hin
    · have : i = n := by simp at hi; omega
      subst this
      rw [List.getElem_append_right (by omega)]
      simpa [hl] using hx
theorem all_le {l : List Nat} (h : ∀ k ∈ l, k ≤ reachBytes) : l.all (· ≤ reachBytes) = true := List.all_eq_true.2 fun k hk => decide_eq_true (h k hk)
set_option maxRecDepth 10000 in
theorem open_acts {base : Nat} {v : Value} {d : DataW H} {p : List MemPlace} (hv : Value.okWide Try.prog W .any base 22 v) (h : DataW.Trod enc Try.prog W 0 (fun _ => true) true 22 v d p) (hw : ∀ k ∈ DataW.weights Try.prog 22 d, k ≤ reachBytes) :
    ∃ la L cap, v = .slice la (L : List ActR).length cap ∧ Ac W la L ∧ L.length ≤ 2600000000000 := by
  obtain ⟨a0, len0, cap0, rfl⟩ := okWide_slice Try.underlying22 hv
  obtain ⟨fuel, hf⟩ := h
  have c33 : Try.prog.cellsOf 35 = 5 := by kernel_rfl
  have b33 : Try.prog.bytesOf 35 = 64 := by kernel_rfl
  rcases DataW.trod_slice Try.underlying22 hf with ⟨hcs, _⟩ | ⟨a, len, cap, elems, rest, n, _, hcs, hx, _, hlc, hcm, hel, hE, _⟩
  · simp [Value.cells] at hcs
    obtain ⟨rfl, rfl, rfl⟩ := hcs
    exact ⟨none, [], 0, rfl, fun i hi => absurd hi (Nat.not_lt_zero _), by simp⟩
  · simp [Value.cells] at hcs
    obtain ⟨rfl, rfl, rfl⟩ := hcs
    rw [c33] at hE
    simp only [Prod.mk.injEq] at hx
    rw [hx.1] at hw
    have hsz : len0 ≤ 2600000000000 := by
      have := hw ((elems.map (·.1)).length * 64 + (rest.map (·.1)).length * 64) (by
        rw [DataW.weights, Try.underlying22]
        simp only [b33, List.mem_cons]
        left
        rw [Nat.add_mul])
      simp only [List.length_map, reachBytes] at this
      omega
    have hq : ∀ i, i < len0 → ∃ r : ActR, ∃ b off, a = ⟨b, off, none⟩ ∧ W.cell? ⟨b, off + i * 5, none⟩ = some (.int .i64 r.k) ∧ W.cell? ⟨b, off + i * 5 + 1, none⟩ = some (.int .i64 r.a) ∧ W.cell? ⟨b, off + i * 5 + 2, none⟩ = some (.int .i64 r.b) ∧ W.cell? ⟨b, off + i * 5 + 3, none⟩ = some (.string r.lb) ∧ W.cell? ⟨b, off + i * 5 + 4, none⟩ = some (.slice r.o r.l.length r.c) ∧
        Sl W r.o r.l ∧ r.l.length ≤ 140737488351232 ∧ r.lb.size ≤ 140737488351232 ∧ (-9223372036854775808 ≤ r.a ∧ r.a ≤ 9223372036854775807) ∧ (-9223372036854775808 ≤ r.b ∧ r.b ≤ 9223372036854775807) := by
      intro i hi
      have hone : ∀ j, j < len0 → ∃ cs y, W.cells? 0 (a.add (j * 5)) 5 = some cs ∧ DataW.trod enc Try.prog W 0 (fun _ => true) true n 35 cs = some y ∧ ∀ k ∈ DataW.weights Try.prog 35 y.1, k ≤ reachBytes := by
        intro j hj
        have h1 := hE j hj
        rw [List.getElem?_eq_getElem (show j < elems.length by omega)] at h1
        obtain ⟨cs, hc1, hc2⟩ := Option.bind_eq_some_iff.1 h1
        refine ⟨cs, _, hc1, hc2, fun k hk => hw k ?_⟩
        rw [DataW.weights, Try.underlying22]
        simp only [List.mem_cons, List.mem_append]
        exact .inr (.inl (all_mem (List.mem_map_of_mem (List.getElem_mem (show j < elems.length by omega))) hk))
      obtain ⟨cs, y, hc1, hc2, hwy⟩ := hone i hi
      obtain ⟨k, a', b', lb, ao, l, c, rfl, p1, p2, p3, _, w1, w2⟩ := cells_act hc2 (all_le hwy)
      obtain ⟨_, _, hcell⟩ := World.cells?_some hc1
      obtain ⟨cs0, y0, hd1, hd2, hwy0⟩ := hone 0 (by omega)
      obtain ⟨k0, a0', b0', lb0, ao0, l0, c0, rfl, _⟩ := cells_act hd2 (all_le hwy0)
      have e00 := (World.cells?_some hd1).2.2 0 (by omega)
      have e0 := hcell 0 (by omega)
      have e1 := hcell 1 (by omega)
      have e2 := hcell 2 (by omega)
      have e3 := hcell 3 (by omega)
      have e4 := hcell 4 (by omega)
      obtain ⟨b, off, spot⟩ := a
      have hspot : spot = none := by
        have : W.cell? ⟨b, off, spot⟩ = some (.int .i64 k0) := by simpa [Addr.add] using e00
        exact World.cell?_spot this
      subst hspot
      rw [Addr.add_lit, Addr.add_lit] at e0 e1 e2 e3 e4
      exact ⟨⟨k, a', b', lb, ao, l, c⟩, b, off, rfl, by simpa using e0, by simpa using e1, by simpa using e2, by simpa using e3, by simpa using e4, p1, p2, p3, wf_i64 w1, wf_i64 w2⟩
    obtain ⟨L, hL, hp⟩ := choose_acts hq
    refine ⟨some a, L, cap0, by rw [hL], fun i hi => ?_, by omega⟩
    obtain ⟨b, off, e, z⟩ := hp i hi
    exact ⟨b, off, by rw [e], z⟩
end
end Go.Proofs.Ytpjoaimbaboleaa
