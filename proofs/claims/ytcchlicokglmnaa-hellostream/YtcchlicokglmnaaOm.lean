/- A slice of messages, opened. -/
import Derived.Test.YtcchlicokglmnaaSw
import Derived.Test.YtcchlicokglmnaaOp
namespace Go.Proofs.Ytcchlicokglmnaa
open Go.ChangeShapes Go.WideShapes Go.ChangeAt Go.RowKit
set_option linter.unusedVariables false

section
variable {H : Type} {enc : TypeId × Value → H} {W : World}
set_option maxRecDepth 10000 in
theorem cells_message {fuel : Nat} {cs : List Value} {y : DataW H × List MemPlace} (hf : DataW.trod enc Try.prog W 0 (fun _ => true) true fuel 27 cs = some y) (hsz : (DataW.weights Try.prog 27 y.1).all (· ≤ reachBytes) = true) :
    ∃ m : Msg, cs = m.cells ∧ m.ok W := by
  have c27 : Try.prog.cellsOf 27 = 72 := by kernel_rfl
  have c3 : Try.prog.cellsOf 3 = 1 := by kernel_rfl
  have c4 : Try.prog.cellsOf 4 = 1 := by kernel_rfl
  have c9 : Try.prog.cellsOf 9 = 1 := by kernel_rfl
  have c23 : Try.prog.cellsOf 23 = 16 := by kernel_rfl
  have c24 : Try.prog.cellsOf 24 = 1 := by kernel_rfl
  have c25 : Try.prog.cellsOf 25 = 1 := by kernel_rfl
  obtain ⟨xs, n, _, hx, hl, hlen, hfld⟩ := DataW.trod_struct Try.underlying27 hf
  rw [c27] at hl
  obtain ⟨y0, y1, y2, y3, y4, y5, y6, y7, y8, y9, y10, y11, rfl⟩ := list12 hlen
  obtain ⟨a0, R, S, a3, a4, a5, a6, B, a8, a9, K, a11, rfl, hR, hS, hB, hK⟩ := cut72 hl
  have g0 : DataW.trod enc Try.prog W 0 (fun _ => true) true n 3 [a0] = some y0 := by have := hfld 0 _ rfl; simpa [c3, List.take_append, List.drop_append, hR, hS, hB, hK, List.take_of_length_le, List.drop_of_length_le] using this
  have g1 : DataW.trod enc Try.prog W 0 (fun _ => true) true n 23 R = some y1 := by have := hfld 1 _ rfl; simpa [c23, List.take_append, List.drop_append, hR, hS, hB, hK, List.take_of_length_le, List.drop_of_length_le] using this
  have g2 : DataW.trod enc Try.prog W 0 (fun _ => true) true n 23 S = some y2 := by have := hfld 2 _ rfl; simpa [c23, List.take_append, List.drop_append, hR, hS, hB, hK, List.take_of_length_le, List.drop_of_length_le] using this
  have g3 : DataW.trod enc Try.prog W 0 (fun _ => true) true n 9 [a3] = some y3 := by have := hfld 3 _ rfl; simpa [c9, List.take_append, List.drop_append, hR, hS, hB, hK, List.take_of_length_le, List.drop_of_length_le] using this
  have g4 : DataW.trod enc Try.prog W 0 (fun _ => true) true n 24 [a4] = some y4 := by have := hfld 4 _ rfl; simpa [c24, List.take_append, List.drop_append, hR, hS, hB, hK, List.take_of_length_le, List.drop_of_length_le] using this
  have g5 : DataW.trod enc Try.prog W 0 (fun _ => true) true n 25 [a5] = some y5 := by have := hfld 5 _ rfl; simpa [c25, List.take_append, List.drop_append, hR, hS, hB, hK, List.take_of_length_le, List.drop_of_length_le] using this
  have g6 : DataW.trod enc Try.prog W 0 (fun _ => true) true n 25 [a6] = some y6 := by have := hfld 6 _ rfl; simpa [c25, List.take_append, List.drop_append, hR, hS, hB, hK, List.take_of_length_le, List.drop_of_length_le] using this
  have g7 : DataW.trod enc Try.prog W 0 (fun _ => true) true n 23 B = some y7 := by have := hfld 7 _ rfl; simpa [c23, List.take_append, List.drop_append, hR, hS, hB, hK, List.take_of_length_le, List.drop_of_length_le] using this
  have g8 : DataW.trod enc Try.prog W 0 (fun _ => true) true n 4 [a8] = some y8 := by have := hfld 8 _ rfl; simpa [c4, List.take_append, List.drop_append, hR, hS, hB, hK, List.take_of_length_le, List.drop_of_length_le] using this
  have g9 : DataW.trod enc Try.prog W 0 (fun _ => true) true n 4 [a9] = some y9 := by have := hfld 9 _ rfl; simpa [c4, List.take_append, List.drop_append, hR, hS, hB, hK, List.take_of_length_le, List.drop_of_length_le] using this
  have g10 : DataW.trod enc Try.prog W 0 (fun _ => true) true n 23 K = some y10 := by have := hfld 10 _ rfl; simpa [c23, List.take_append, List.drop_append, hR, hS, hB, hK, List.take_of_length_le, List.drop_of_length_le] using this
  have g11 : DataW.trod enc Try.prog W 0 (fun _ => true) true n 3 [a11] = some y11 := by have := hfld 11 _ rfl; simpa [c3, List.take_append, List.drop_append, hR, hS, hB, hK, List.take_of_length_le, List.drop_of_length_le] using this
  have hx1 := congrArg Prod.fst hx
  simp only [List.map_cons, List.map_nil] at hx1
  rw [hx1] at hsz
  simp only [DataW.weights, Try.underlying27, List.map_cons, List.map_nil, DataW.weightsEach, List.all_append, Bool.and_eq_true] at hsz
  obtain ⟨_, _, _, _, z4, z5, z6, _⟩ := hsz
  obtain ⟨k, e0, _, w0⟩ := DataW.trod_int Try.underlying3 g0
  obtain ⟨r, rfl, hr⟩ := field_tag g1
  obtain ⟨s, rfl, hs⟩ := field_tag g2
  obtain ⟨nm, e3, _, w3⟩ := DataW.trod_string Try.underlying9 g3
  obtain ⟨po, ps, pc, rfl, p1, p2, p3⟩ := field_names g4 z4
  obtain ⟨ao, pa, ac, rfl, b1, b2, b3, b4, b5⟩ := field_bytes g5 z5
  obtain ⟨to, ti, tc, rfl, t1, t2, t3, t4, t5⟩ := field_bytes g6 z6
  obtain ⟨bi, rfl, hb⟩ := field_tag g7
  obtain ⟨ea, e8, _⟩ := DataW.trod_bool Try.underlying4 g8
  obtain ⟨ag, e9, _⟩ := DataW.trod_bool Try.underlying4 g9
  obtain ⟨mk, rfl, hm⟩ := field_tag g10
  obtain ⟨li, e11, _, w11⟩ := DataW.trod_int Try.underlying3 g11
  simp only [List.cons.injEq, and_true] at e0 e3 e8 e9 e11
  subst e0 e3 e8 e9 e11
  refine ⟨⟨k, r, s, nm, po, ps, pc, ao, pa, ac, to, ti, tc, bi, ea, ag, mk, li⟩, ?_, ⟨⟨hr, hs, hb, hm⟩, p1, b1, t1, b2, t2, by unfold maxLen at w3; omega, by show ps.length ≤ _; omega, p3, by show pa.length ≤ _; omega, by show ti.length ≤ _; omega⟩⟩
  rfl
theorem all_mem {P : Program} {e : TypeId} {ds : List (DataW H)} {d : DataW H} (hd : d ∈ ds) {n : Nat} (hn : n ∈ d.weights P e) : n ∈ DataW.weightsAll P e ds := by
  induction ds with
  | nil => cases hd
  | cons x t ih =>
    rw [DataW.weightsAll, List.mem_append]
    rcases List.mem_cons.1 hd with rfl | h
    · exact .inl hn
    · exact .inr (ih h)
theorem all_le {l : List Nat} (h : ∀ k ∈ l, k ≤ reachBytes) : l.all (· ≤ reachBytes) = true := List.all_eq_true.2 fun k hk => decide_eq_true (h k hk)
set_option maxRecDepth 10000 in
theorem open_messages {base : Nat} {v : Value} {d : DataW H} {p : List MemPlace} (hv : Value.okWide Try.prog W .any base 45 v) (h : DataW.Trod enc Try.prog W 0 (fun _ => true) true 45 v d p) (hw : ∀ k ∈ DataW.weights Try.prog 45 d, k ≤ reachBytes) :
    ∃ la n cap, v = .slice la n cap ∧ Ml W la n ∧ n ≤ 9223372036854775807 := by
  obtain ⟨a0, len0, cap0, rfl⟩ := okWide_slice Try.underlying45 hv
  obtain ⟨fuel, hf⟩ := h
  have c27 : Try.prog.cellsOf 27 = 72 := by kernel_rfl
  have b27 : Try.prog.bytesOf 27 = 176 := by kernel_rfl
  rcases DataW.trod_slice Try.underlying45 hf with ⟨hcs, _⟩ | ⟨a, len, cap, elems, rest, n, _, hcs, hx, _, hlc, hcm, hel, hE, _⟩
  · simp [Value.cells] at hcs
    obtain ⟨rfl, rfl, rfl⟩ := hcs
    exact ⟨none, 0, 0, rfl, fun i hi => absurd hi (Nat.not_lt_zero _), by simp⟩
  · simp [Value.cells] at hcs
    obtain ⟨rfl, rfl, rfl⟩ := hcs
    rw [c27] at hE
    simp only [Prod.mk.injEq] at hx
    rw [hx.1] at hw
    have hone : ∀ j, j < len0 → ∃ cs y, W.cells? 0 (a.add (j * 72)) 72 = some cs ∧ DataW.trod enc Try.prog W 0 (fun _ => true) true n 27 cs = some y ∧ ∀ k ∈ DataW.weights Try.prog 27 y.1, k ≤ reachBytes := by
      intro j hj
      have h1 := hE j hj
      rw [List.getElem?_eq_getElem (show j < elems.length by omega)] at h1
      obtain ⟨cs, hc1, hc2⟩ := Option.bind_eq_some_iff.1 h1
      refine ⟨cs, _, hc1, hc2, fun k hk => hw k ?_⟩
      rw [DataW.weights, Try.underlying45]
      simp only [List.mem_cons, List.mem_append]
      exact .inr (.inl (all_mem (List.mem_map_of_mem (List.getElem_mem (show j < elems.length by omega))) hk))
    refine ⟨some a, len0, cap0, rfl, fun i hi => ?_, by unfold maxLen at hcm; omega⟩
    obtain ⟨cs, y, hc1, hc2, hwy⟩ := hone i hi
    obtain ⟨m, rfl, hok⟩ := cells_message hc2 (all_le hwy)
    obtain ⟨_, _, hcell⟩ := World.cells?_some hc1
    obtain ⟨cs0, y0, hd1, hd2, hwy0⟩ := hone 0 (by omega)
    obtain ⟨mz, rfl, hokz⟩ := cells_message hd2 (all_le hwy0)
    have e00 := (World.cells?_some hd1).2.2 0 (by omega)
    rw [(Msg.get hokz.ln).1] at e00
    obtain ⟨b, off, spot⟩ := a
    have hspot : spot = none := by
      have h0 : (⟨b, off, spot⟩ : Addr).add (0 * 72) = ⟨b, off, spot⟩ := by simp [Addr.add]
      rw [h0] at e00
      have h0' : (⟨b, off, spot⟩ : Addr).add 0 = ⟨b, off, spot⟩ := by simp [Addr.add]
      rw [h0'] at e00
      exact World.cell?_spot e00
    subst hspot
    refine ⟨m, b, off, rfl, fun j v hv => ?_, hok⟩
    have hj := (List.getElem?_eq_some_iff.1 hv).1
    rw [cells_len hok.ln] at hj
    have := hcell j (by omega)
    rw [Addr.add_lit, Addr.add_lit] at this
    rw [this]
    simpa [hj] using hv
end
end Go.Proofs.Ytcchlicokglmnaa
