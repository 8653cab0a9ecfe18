/- A hello.Message by value, opened: what its cells hold. -/
import Derived.Test.YtcchlicokglmnaaMg
import Derived.ProofKit
import Derived.OpenShut
import Derived.SizedLaws
import Derived.SliceStrings
namespace Go.Proofs.Ytcchlicokglmnaa
open Go.ChangeShapes Go.WideShapes Go.ChangeAt Go.RowKit
set_option linter.unusedVariables false

theorem row_bytes {W : World} {x : Addr} {len cap : Nat} {zs : List Int} (hl : len ≤ cap) (hz : zs.length = cap) (hcell : ∀ i, i < zs.length → W.cell? (x.add i) = some (.int .u8 (zs.getD i 0))) (hwz : ∀ n ∈ zs, (Lit.int .u8 n).wf = true) (hb : len ≤ 140737488351232) :
    ∃ l : List UInt8, l.length = len ∧ Sl W (some x) l ∧ l.length ≤ 140737488351232 := by
  refine ⟨(zs.take len).map fun z => UInt8.ofNat z.toNat, by simp; omega, fun j hj => ?_, by simp; omega⟩
  have hj' : j < len := by simp at hj; omega
  obtain ⟨b, off, rfl, hc⟩ := ints_at hcell (by omega)
  refine ⟨b, off, rfl, ?_⟩
  rw [hc j (by omega)]
  have hm : zs[j]'(by omega) ∈ zs := List.getElem_mem _
  obtain ⟨h0, h1⟩ := bounds_u8 (hwz _ hm)
  have e : zs.getD j 0 = zs[j]'(by omega) := by simp [List.getD, List.getElem?_eq_getElem (show j < zs.length by omega)]
  rw [e]
  simp only [List.getElem_map, List.getElem_take, UInt8.toNat_ofNat']
  congr 2
  omega
section
variable {H : Type} {enc : TypeId × Value → H} {W : World}
theorem field_bytes {n : Nat} {c : Value} {y : DataW H × List MemPlace} (h : DataW.trod enc Try.prog W 0 (fun _ => true) true n 25 [c] = some y) (hsz : (DataW.weights Try.prog 25 y.1).all (· ≤ reachBytes) = true) :
    ∃ ao l cap, c = .slice ao (l : List UInt8).length cap ∧ Sl W ao l ∧ (ao = none → l.length = 0 ∧ cap = 0) ∧ l.length ≤ 140737488351232 ∧ l.length ≤ cap ∧ cap ≤ 9253372036854775807 := by
  rcases open_ints Try.underlying25 Try.underlying5 (by kernel_rfl) h with ⟨hcs, _⟩ | ⟨x, l, c', zs, hcs, _, hl, hm, hz, hx, hcell, hwz⟩
  · simp only [List.cons.injEq, and_true] at hcs
    subst hcs
    exact ⟨none, [], 0, rfl, fun j hj => absurd hj (by simp), fun _ => ⟨rfl, rfl⟩, by decide, by decide, by decide⟩
  · simp only [List.cons.injEq, and_true] at hcs
    subst hcs
    have hz' := hz
    rw [if_pos rfl] at hz'
    have hb5 : Try.prog.bytesOf 5 = 1 := by kernel_rfl
    rw [hx] at hsz
    simp only [DataW.weights, Try.underlying25, List.all_cons, Bool.and_eq_true, decide_eq_true_eq, hb5] at hsz
    have hr := hsz.1
    simp only [lits, List.length_map, List.length_take, List.length_drop, reachBytes] at hr
    obtain ⟨L, g1, g2, g3⟩ := row_bytes hl hz' hcell hwz (by omega)
    subst g1
    exact ⟨some x, L, c', rfl, g2, (fun h => nomatch h), g3, hl, by unfold maxLen at hm; omega⟩
set_option maxRecDepth 10000 in
theorem field_tag {n : Nat} {cs : List Value} {y : DataW H × List MemPlace} (h : DataW.trod enc Try.prog W 0 (fun _ => true) true n 23 cs = some y) : ∃ tag : List UInt8, cs = bc tag ∧ tag.length = 16 := by
  have c5 : Try.prog.cellsOf 5 = 1 := by kernel_rfl
  have c23 : Try.prog.cellsOf 23 = 16 := by kernel_rfl
  obtain ⟨xs, m, _, _, hl, hlen, hi⟩ := DataW.trod_array Try.underlying23 h
  rw [c23] at hl
  have hcell : ∀ i (h : i < cs.length), ∃ z : UInt8, cs[i] = .int .u8 (z.toNat : Int) := by
    intro i h
    have hi' := hi i (by omega)
    rw [c5, Nat.mul_one, List.drop_eq_getElem_cons h] at hi'
    have hxi : i < xs.length := by omega
    rw [List.getElem?_eq_getElem hxi] at hi'
    obtain ⟨z, hz, _, hwf⟩ := DataW.trod_int Try.underlying5 hi'
    simp only [List.take_succ_cons, List.take_zero, List.cons.injEq, and_true] at hz
    obtain ⟨h0, h1⟩ := bounds_u8 hwf
    refine ⟨UInt8.ofNat z.toNat, ?_⟩
    rw [hz, UInt8.toNat_ofNat']
    congr 1
    omega
  refine ⟨cs.map fun v => match v with | .int _ z => UInt8.ofNat z.toNat | _ => 0, ?_, by simp [hl]⟩
  apply List.ext_getElem
  · simp [bc]
  · intro i h1 h2
    obtain ⟨z, hz⟩ := hcell i h1
    simp only [bc, List.getElem_map, hz]
    congr 1
    have : (UInt8.ofNat ((z.toNat : Int)).toNat).toNat = z.toNat := by rw [UInt8.toNat_ofNat']; have := z.toNat_lt; omega
    omega

set_option maxRecDepth 10000 in
theorem field_names {n : Nat} {c : Value} {y : DataW H × List MemPlace} (h : DataW.trod enc Try.prog W 0 (fun _ => true) true n 24 [c] = some y) (hsz : (DataW.weights Try.prog 24 y.1).all (· ≤ reachBytes) = true) :
    ∃ ao l cap, c = .slice ao (l : List ByteArray).length cap ∧ Nms W ao l ∧ l.length ≤ 8796093021952 ∧ ∀ s ∈ l, s.size ≤ 9223372036854775807 := by
  rcases open_strings Try.underlying24 Try.underlying9 (by kernel_rfl) h with ⟨hcs, _⟩ | ⟨a, len, cap, ss, hcs, _, hl, hm, hz, hx, hcell, hwz⟩
  · simp only [List.cons.injEq, and_true] at hcs
    subst hcs
    exact ⟨none, [], 0, rfl, fun j hj => absurd hj (by simp), by decide, fun s h => by simp at h⟩
  · simp only [List.cons.injEq, and_true] at hcs
    subst hcs
    have hz' := hz
    rw [if_pos rfl] at hz'
    have hb9 : Try.prog.bytesOf 9 = 16 := by kernel_rfl
    rw [hx] at hsz
    simp only [DataW.weights, Try.underlying24, List.all_cons, Bool.and_eq_true, decide_eq_true_eq, hb9] at hsz
    have hr := hsz.1
    simp only [strs, List.length_map, List.length_take, List.length_drop, reachBytes] at hr
    have hlen : (ss.take len).length = len := by rw [List.length_take]; omega
    refine ⟨some a, ss.take len, cap, by rw [hlen], ?_, by rw [hlen]; omega, fun s hs => by have := hwz s (List.mem_of_mem_take hs); unfold maxLen at this; omega⟩
    intro j hj
    have hj' : j < ss.length := by rw [hlen] at hj; omega
    obtain ⟨b, off, spot⟩ := a
    have hspot : spot = none := by simpa [Addr.add] using World.cell?_spot (hcell 0 (by omega))
    subst hspot
    refine ⟨b, off, rfl, ?_⟩
    have := hcell j hj'
    rw [Go.WideShapes.add_plain] at this
    rw [this]
    simp [List.getD, List.getElem?_eq_getElem hj']
theorem list12 {α : Type} {xs : List α} (h : xs.length = 12) : ∃ y0 y1 y2 y3 y4 y5 y6 y7 y8 y9 y10 y11, xs = [y0, y1, y2, y3, y4, y5, y6, y7, y8, y9, y10, y11] := by
  match xs, h with
  | [y0, y1, y2, y3, y4, y5, y6, y7, y8, y9, y10, y11], _ => exact ⟨y0, y1, y2, y3, y4, y5, y6, y7, y8, y9, y10, y11, rfl⟩
theorem cut72 {xs : List Value} (h : xs.length = 72) : ∃ a0 R S a3 a4 a5 a6 B a8 a9 K a11, xs = [a0] ++ (R ++ (S ++ ([a3, a4, a5, a6] ++ (B ++ ([a8, a9] ++ (K ++ [a11])))))) ∧ R.length = 16 ∧ S.length = 16 ∧ B.length = 16 ∧ K.length = 16 := by
  have cutAt : ∀ (l : List Value) (n : Nat), n ≤ l.length → ∃ a b, l = a ++ b ∧ a.length = n ∧ b.length = l.length - n := fun l n hn => ⟨l.take n, l.drop n, (List.take_append_drop n l).symm, by simp; omega, by simp⟩
  obtain ⟨p0, t0, rfl, h0, e0⟩ := cutAt xs 1 (by omega)
  obtain ⟨R, t1, rfl, h1, e1⟩ := cutAt t0 16 (by omega)
  obtain ⟨S, t2, rfl, h2, e2⟩ := cutAt t1 16 (by omega)
  obtain ⟨p3, t3, rfl, h3, e3⟩ := cutAt t2 4 (by omega)
  obtain ⟨B, t4, rfl, h4, e4⟩ := cutAt t3 16 (by omega)
  obtain ⟨p5, t5, rfl, h5, e5⟩ := cutAt t4 2 (by omega)
  obtain ⟨K, t6, rfl, h6, e6⟩ := cutAt t5 16 (by omega)
  have h7 : t6.length = 1 := by omega
  match p0, h0 with
  | [a0], _ =>
    match p3, h3 with
    | [a3, a4, a5, a6], _ =>
      match p5, h5 with
      | [a8, a9], _ =>
        match t6, h7 with
        | [a11], _ => exact ⟨a0, R, S, a3, a4, a5, a6, B, a8, a9, K, a11, rfl, h1, h2, h4, h6⟩
set_option maxRecDepth 10000 in
theorem open_message {base : Nat} {v : Value} {d : DataW H} {p : List MemPlace} (hv : Value.okWide Try.prog W .any base 27 v) (h : DataW.Trod enc Try.prog W 0 (fun _ => true) true 27 v d p) (hsz : (DataW.weights Try.prog 27 d).all (· ≤ reachBytes) = true) :
    ∃ m : Msg, v = .agg m.cells.toArray ∧ m.ok W ∧ m.protos.length ≤ 9223372036854775806 := by
  obtain ⟨cs, rfl, hcs⟩ := okWide_struct Try.underlying27 hv
  have c27 : Try.prog.cellsOf 27 = 72 := by kernel_rfl
  have c3 : Try.prog.cellsOf 3 = 1 := by kernel_rfl
  have c4 : Try.prog.cellsOf 4 = 1 := by kernel_rfl
  have c9 : Try.prog.cellsOf 9 = 1 := by kernel_rfl
  have c23 : Try.prog.cellsOf 23 = 16 := by kernel_rfl
  have c24 : Try.prog.cellsOf 24 = 1 := by kernel_rfl
  have c25 : Try.prog.cellsOf 25 = 1 := by kernel_rfl
  rw [c27] at hcs
  obtain ⟨fuel, hf⟩ := h
  obtain ⟨xs, n, _, hx, hl, hlen, hfld⟩ := DataW.trod_struct Try.underlying27 hf
  obtain ⟨y0, y1, y2, y3, y4, y5, y6, y7, y8, y9, y10, y11, rfl⟩ := list12 hlen
  obtain ⟨a0, R, S, a3, a4, a5, a6, B, a8, a9, K, a11, hL, hR, hS, hB, hK⟩ := cut72 (xs := cs.toList) (by simpa using hcs)
  have hcl : (Value.agg cs).cells.toList = [a0] ++ (R ++ (S ++ ([a3, a4, a5, a6] ++ (B ++ ([a8, a9] ++ (K ++ [a11])))))) := hL
  rw [hcl] at hfld hl
  have g0 : DataW.trod enc Try.prog W 0 (fun _ => true) true n 3 [a0] = some y0 := by have := hfld 0 _ rfl; simpa [c3, List.take_append, List.drop_append, hR, hS, hB, hK, List.take_of_length_le, List.drop_of_length_le] using this
  have g1 : DataW.trod enc Try.prog W 0 (fun _ => true) true n 23 R = some y1 := by have := hfld 1 _ rfl; simpa [c23, List.take_append, List.drop_append, hR, hS, hB, hK, List.take_of_length_le, List.drop_of_length_le] using this
  have g2 : DataW.trod enc Try.prog W 0 (fun _ => true) true n 23 S = some y2 := by have := hfld 2 _ rfl; simpa [c23, List.take_append, List.drop_append, hR, hS, hB, hK, List.take_of_length_le, List.drop_of_length_le] using this
  have g3 : DataW.trod enc Try.prog W 0 (fun _ => true) true n 9 [a3] = some y3 := by have := hfld 3 _ rfl; simpa [c9, List.take_append, List.drop_append, hR, hS, hB, hK, List.take_of_length_le, List.drop_of_length_le] using this
  have g4 : DataW.trod enc Try.prog W 0 (fun _ => true) true n 24 [a4] = some y4 := by have := hfld 4 _ rfl; simpa [c24, List.take_append, List.drop_append, hR, hS, hB, hK, List.take_of_length_le, List.drop_of_length_le] using this
  have g5 : DataW.trod enc Try.prog W 0 (fun _ => true) true n 25 [a5] = some y5 := by have := hfld 5 _ rfl; simpa [c25, List.take_append, List.drop_append, hR, hS, hB, hK, List.take_of_length_le, List.drop_of_length_le] using this
  have g6 : DataW.trod enc Try.prog W 0 (fun _ => true) true n 25 [a6] = some y6 := by have := hfld 6 _ rfl; simpa [c25, List.take_append, List.drop_append, hR, hS, hB, hK, List.take_of_length_le, List.drop_of_length_le] using this
  have g7 : DataW.trod enc Try.prog W 0 (fun _ => true) true n 23 B = some y7 := by have := hfld 7 _ rfl; simpa [c23, List.take_append, List.drop_append, hR, hS, hB, hK, List.take_of_length_le, List.drop_of_length_le] using this
  have g8 : DataW.trod enc Try.prog W 0 (fun _ => true) true n 4 [a8] = some y8 := by have := hfld 8 _ rfl; simpa [c4, List.take_append, List.drop_append, hR, hS, hB, hK, List.take_of_length_le, List.drop_of_length_le] using this
  have g9 : DataW.trod enc Try.prog W 0 (fun _ => true) true n 4 [a9] = some y9 := by have := hfld 9 _ rfl; simpa [c4, List.take_append, List.drop_append, hR, hS, hB, hK, List.take_of_length_le, List.drop_of_length_le] using this
  have g10 : DataW.trod enc Try.prog W 0 (fun _ => true) true n 23 K = some y10 := by have := hfld 10 _ rfl; simpa [c23, List.take_append, List.drop_append, hR, hS, hB, hK, List.take_of_length_le, List.drop_of_length_le] using this
  have g11 : DataW.trod enc Try.prog W 0 (fun _ => true) true n 3 [a11] = some y11 := by have := hfld 11 _ rfl; simpa [c3, List.take_append, List.drop_append, hR, hS, hB, hK, List.take_of_length_le, List.drop_of_length_le] using this
  simp only [Prod.mk.injEq, List.map_cons, List.map_nil] at hx
  rw [hx.1] at hsz
  simp only [DataW.weights, Try.underlying27, List.map_cons, List.map_nil, DataW.weightsEach, List.all_append, Bool.and_eq_true] at hsz
  obtain ⟨_, _, _, _, z4, z5, z6, _⟩ := hsz
  obtain ⟨k, e0, _, w0⟩ := DataW.trod_int Try.underlying3 g0
  obtain ⟨r, rfl, hr⟩ := field_tag g1
  obtain ⟨s, rfl, hs⟩ := field_tag g2
  obtain ⟨nm, e3, _, w3⟩ := DataW.trod_string Try.underlying9 g3
  obtain ⟨po, ps, pc, rfl, p1, p2, p3⟩ := field_names g4 z4
  obtain ⟨ao, pa, ac, rfl, b1, b2, b3, b4, b5⟩ := field_bytes g5 z5
  obtain ⟨to, ti, tc, rfl, t1, t2, t3, t4, t5⟩ := field_bytes g6 z6
  obtain ⟨bi, rfl, hb⟩ := field_tag g7
  obtain ⟨ea, e8, _⟩ := DataW.trod_bool Try.underlying4 g8
  obtain ⟨ag, e9, _⟩ := DataW.trod_bool Try.underlying4 g9
  obtain ⟨mk, rfl, hm⟩ := field_tag g10
  obtain ⟨li, e11, _, w11⟩ := DataW.trod_int Try.underlying3 g11
  simp only [List.cons.injEq, and_true] at e0 e3 e8 e9 e11
  subst e0 e3 e8 e9 e11
  refine ⟨⟨k, r, s, nm, po, ps, pc, ao, pa, ac, to, ti, tc, bi, ea, ag, mk, li⟩, ?_, ⟨⟨hr, hs, hb, hm⟩, p1, b1, t1, b2, t2, by unfold maxLen at w3; omega, by show ps.length ≤ _; omega, p3, by show pa.length ≤ _; omega, by show ti.length ≤ _; omega⟩, by show ps.length ≤ _; omega⟩
  congr 1
  apply Array.ext'
  rw [hL]
  rfl
end
end Go.Proofs.Ytcchlicokglmnaa
