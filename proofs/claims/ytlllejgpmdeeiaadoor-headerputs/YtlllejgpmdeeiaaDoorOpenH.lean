/- A header.Header by value, opened: what its cells hold. -/
import Derived.Test.YtlllejgpmdeeiaaDoorRowBytes
import Derived.Test.YtlllejgpmdeeiaaDoorMay
import Derived.ProofKit
import Derived.OpenShut
import Derived.SizedLaws
namespace Go.Proofs.YtlllejgpmdeeiaaDoor
open Go.ChangeShapes Go.WideShapes Go.ChangeAt Go.RowKit
set_option linter.unusedVariables false

section
variable {H : Type} {enc : TypeId × Value → H} {W : World}
theorem field_bytes {n : Nat} {c : Value} {y : DataW H × List MemPlace} (h : DataW.trod enc Tryd.prog W 0 (fun _ => true) true n 22 [c] = some y) (hsz : (DataW.weights Tryd.prog 22 y.1).all (· ≤ reachBytes) = true) :
    ∃ ao l cap, c = .slice ao (l : List UInt8).length cap ∧ Sl W ao l ∧ (ao = none → l.length = 0 ∧ cap = 0) ∧ l.length ≤ 140737488351232 ∧ l.length ≤ cap ∧ cap ≤ 9223372036854775807 := by
  rcases open_ints Tryd.underlying22 Tryd.underlying5 (by kernel_rfl) h with ⟨hcs, _⟩ | ⟨x, l, c', zs, hcs, _, hl, hm, hz, hx, hcell, hwz⟩
  · simp only [List.cons.injEq, and_true] at hcs
    subst hcs
    exact ⟨none, [], 0, rfl, fun j hj => absurd hj (by simp), fun _ => ⟨rfl, rfl⟩, by decide, by decide, by decide⟩
  · simp only [List.cons.injEq, and_true] at hcs
    subst hcs
    have hz' := hz
    rw [if_pos rfl] at hz'
    have hb5 : Tryd.prog.bytesOf 5 = 1 := by kernel_rfl
    rw [hx] at hsz
    simp only [DataW.weights, Tryd.underlying22, List.all_cons, Bool.and_eq_true, decide_eq_true_eq, hb5] at hsz
    have hr := hsz.1
    simp only [lits, List.length_map, List.length_take, List.length_drop, reachBytes] at hr
    obtain ⟨L, g1, g2, g3⟩ := row_bytes hl hz' hcell hwz (by omega)
    subst g1
    exact ⟨some x, L, c', rfl, g2, (fun h => nomatch h), g3, hl, by unfold maxLen at hm; omega⟩
theorem field_ints {n : Nat} {c : Value} {y : DataW H × List MemPlace} (h : DataW.trod enc Tryd.prog W 0 (fun _ => true) true n 23 [c] = some y) (hsz : (DataW.weights Tryd.prog 23 y.1).all (· ≤ reachBytes) = true) :
    ∃ ao l cap, c = .slice ao (l : List Int).length cap ∧ Il W ao l ∧ (ao = none → l.length = 0 ∧ cap = 0) ∧ l.length ≤ 17592186043904 ∧ l.length ≤ cap ∧ cap ≤ 9223372036854775807 := by
  rcases open_ints Tryd.underlying23 Tryd.underlying3 (by kernel_rfl) h with ⟨hcs, _⟩ | ⟨x, l, c', zs, hcs, _, hl, hm, hz, hx, hcell, hwz⟩
  · simp only [List.cons.injEq, and_true] at hcs
    subst hcs
    exact ⟨none, [], 0, rfl, fun j hj => absurd hj (by simp), fun _ => ⟨rfl, rfl⟩, by decide, by decide, by decide⟩
  · simp only [List.cons.injEq, and_true] at hcs
    subst hcs
    have hz' := hz
    rw [if_pos rfl] at hz'
    have hb3 : Tryd.prog.bytesOf 3 = 8 := by kernel_rfl
    rw [hx] at hsz
    simp only [DataW.weights, Tryd.underlying23, List.all_cons, Bool.and_eq_true, decide_eq_true_eq, hb3] at hsz
    have hr := hsz.1
    simp only [lits, List.length_map, List.length_take, List.length_drop, reachBytes] at hr
    have hlen : (zs.take l).length = l := by rw [List.length_take]; omega
    refine ⟨some x, zs.take l, c', by rw [hlen], ?_, (fun h => nomatch h), by rw [hlen]; omega, by rw [hlen]; exact hl, by unfold maxLen at hm; omega⟩
    intro j hj
    have hj' : j < zs.length := by rw [hlen] at hj; omega
    obtain ⟨b, off, rfl, hc⟩ := ints_at hcell (by omega)
    refine ⟨b, off, rfl, ?_⟩
    rw [hc j (by omega)]
    simp [List.getD, List.getElem?_eq_getElem hj']
theorem field_tag {n : Nat} {cs : List Value} {y : DataW H × List MemPlace} (h : DataW.trod enc Tryd.prog W 0 (fun _ => true) true n 24 cs = some y) : ∃ tag : List UInt8, cs = bc tag ∧ tag.length = 16 := by
  have c5 : Tryd.prog.cellsOf 5 = 1 := by kernel_rfl
  have c24 : Tryd.prog.cellsOf 24 = 16 := by kernel_rfl
  obtain ⟨xs, m, _, _, hl, hlen, hi⟩ := DataW.trod_array Tryd.underlying24 h
  rw [c24] at hl
  have hcell : ∀ i (h : i < cs.length), ∃ z : UInt8, cs[i] = .int .u8 (z.toNat : Int) := by
    intro i h
    have hi' := hi i (by omega)
    rw [c5, Nat.mul_one, List.drop_eq_getElem_cons h] at hi'
    have hxi : i < xs.length := by omega
    rw [List.getElem?_eq_getElem hxi] at hi'
    obtain ⟨z, hz, _, hwf⟩ := DataW.trod_int Tryd.underlying5 hi'
    simp only [List.take_succ_cons, List.take_zero, List.cons.injEq, and_true] at hz
    obtain ⟨h0, h1⟩ := bounds_u8 hwf
    refine ⟨UInt8.ofNat z.toNat, ?_⟩
    rw [hz, UInt8.toNat_ofNat']
    congr 1
    omega
  refine ⟨cs.map fun v => match v with | .int _ z => UInt8.ofNat z.toNat | _ => 0, ?_, by simp [hl]⟩
  apply List.ext_getElem
  · simp [bc]
  · intro i h1 h2
    obtain ⟨z, hz⟩ := hcell i h1
    simp only [bc, List.getElem_map, hz]
    congr 1
    have : (UInt8.ofNat ((z.toNat : Int)).toNat).toNat = z.toNat := by rw [UInt8.toNat_ofNat']; have := z.toNat_lt; omega
    omega

theorem list9 {α : Type} {xs : List α} (h : xs.length = 9) : ∃ y0 y1 y2 y3 y4 y5 y6 y7 y8, xs = [y0, y1, y2, y3, y4, y5, y6, y7, y8] := by
  match xs, h with
  | [y0, y1, y2, y3, y4, y5, y6, y7, y8], _ => exact ⟨y0, y1, y2, y3, y4, y5, y6, y7, y8, rfl⟩
theorem list8 {α : Type} {xs : List α} (h : xs.length = 24) : ∃ a0 a1 a2 a3 a4 a5 a6 a7 tl, xs = a0 :: a1 :: a2 :: a3 :: a4 :: a5 :: a6 :: a7 :: tl := by
  match xs, h with
  | a0 :: a1 :: a2 :: a3 :: a4 :: a5 :: a6 :: a7 :: tl, _ => exact ⟨a0, a1, a2, a3, a4, a5, a6, a7, tl, rfl⟩

set_option maxRecDepth 10000 in
theorem open_header {base : Nat} {v : Value} {d : DataW H} {p : List MemPlace} (hv : Value.okWide Tryd.prog W .any base 26 v) (h : DataW.Trod enc Tryd.prog W 0 (fun _ => true) true 26 v d p) (hsz : (DataW.weights Tryd.prog 26 d).all (· ≤ reachBytes) = true) :
    ∃ (k ver len : Int) (ph : Bool) (da sa ta la : Option Addr) (dc sc tc lc : Nat) (D S T tag : List UInt8) (lst : List Int), v = .agg (hc k ver (.slice da D.length dc) (.slice sa S.length sc) (.slice ta T.length tc) len ph (.slice la lst.length lc) (bc tag)).toArray ∧ tag.length = 16 ∧
      (Lit.int .i64 k).wf = true ∧ (Lit.int .i64 len).wf = true ∧ Sl W da D ∧ Sl W sa S ∧ Sl W ta T ∧ Il W la lst ∧ (da = none → D.length = 0 ∧ dc = 0) ∧ (sa = none → S.length = 0 ∧ sc = 0) ∧ (ta = none → T.length = 0 ∧ tc = 0) ∧ (la = none → lst.length = 0 ∧ lc = 0) ∧
      D.length ≤ 140737488351232 ∧ S.length ≤ 140737488351232 ∧ T.length ≤ 140737488351232 ∧ lst.length ≤ 17592186043904 := by
  obtain ⟨cs, rfl, hcs⟩ := okWide_struct Tryd.underlying26 hv
  have c26 : Tryd.prog.cellsOf 26 = 24 := by kernel_rfl
  have c3 : Tryd.prog.cellsOf 3 = 1 := by kernel_rfl
  have c4 : Tryd.prog.cellsOf 4 = 1 := by kernel_rfl
  have c22 : Tryd.prog.cellsOf 22 = 1 := by kernel_rfl
  have c23 : Tryd.prog.cellsOf 23 = 1 := by kernel_rfl
  have c24 : Tryd.prog.cellsOf 24 = 16 := by kernel_rfl
  rw [c26] at hcs
  obtain ⟨fuel, hf⟩ := h
  obtain ⟨xs, n, _, hx, hl, hlen, hfld⟩ := DataW.trod_struct Tryd.underlying26 hf
  obtain ⟨y0, y1, y2, y3, y4, y5, y6, y7, y8, rfl⟩ := list9 hlen
  obtain ⟨a0, a1, a2, a3, a4, a5, a6, a7, tl, hL⟩ := list8 (xs := cs.toList) (by simpa using hcs)
  have hcl : (Value.agg cs).cells.toList = a0 :: a1 :: a2 :: a3 :: a4 :: a5 :: a6 :: a7 :: tl := hL
  rw [hcl] at hfld hl
  have htl : tl.length = 16 := by rw [c26] at hl; simp at hl; omega
  have g0 : DataW.trod enc Tryd.prog W 0 (fun _ => true) true n 3 [a0] = some y0 := by have := hfld 0 _ rfl; simpa [c3] using this
  have g1 : DataW.trod enc Tryd.prog W 0 (fun _ => true) true n 3 [a1] = some y1 := by have := hfld 1 _ rfl; simpa [c3] using this
  have g2 : DataW.trod enc Tryd.prog W 0 (fun _ => true) true n 22 [a2] = some y2 := by have := hfld 2 _ rfl; simpa [c22] using this
  have g3 : DataW.trod enc Tryd.prog W 0 (fun _ => true) true n 22 [a3] = some y3 := by have := hfld 3 _ rfl; simpa [c22] using this
  have g4 : DataW.trod enc Tryd.prog W 0 (fun _ => true) true n 22 [a4] = some y4 := by have := hfld 4 _ rfl; simpa [c22] using this
  have g5 : DataW.trod enc Tryd.prog W 0 (fun _ => true) true n 3 [a5] = some y5 := by have := hfld 5 _ rfl; simpa [c3] using this
  have g6 : DataW.trod enc Tryd.prog W 0 (fun _ => true) true n 4 [a6] = some y6 := by have := hfld 6 _ rfl; simpa [c4] using this
  have g7 : DataW.trod enc Tryd.prog W 0 (fun _ => true) true n 23 [a7] = some y7 := by have := hfld 7 _ rfl; simpa [c23] using this
  have g8 : DataW.trod enc Tryd.prog W 0 (fun _ => true) true n 24 tl = some y8 := by
    have := hfld 8 _ rfl
    simpa [c24, List.take_of_length_le (Nat.le_of_eq htl)] using this
  simp only [Prod.mk.injEq, List.map_cons, List.map_nil] at hx
  rw [hx.1] at hsz
  simp only [DataW.weights, Tryd.underlying26, List.map_cons, List.map_nil, DataW.weightsEach, List.all_append, Bool.and_eq_true] at hsz
  obtain ⟨_, _, z2, z3, z4, _, _, z7, _⟩ := hsz
  obtain ⟨k, e0, _, w0⟩ := DataW.trod_int Tryd.underlying3 g0
  obtain ⟨ver, e1, _, _⟩ := DataW.trod_int Tryd.underlying3 g1
  obtain ⟨da, D, dc, rfl, b1, b2, b3, b4, b5⟩ := field_bytes g2 z2
  obtain ⟨sa, S, sc, rfl, s1, s2, s3, s4, s5⟩ := field_bytes g3 z3
  obtain ⟨ta, T, tc, rfl, t1, t2, t3, t4, t5⟩ := field_bytes g4 z4
  obtain ⟨len, e5, _, w5⟩ := DataW.trod_int Tryd.underlying3 g5
  obtain ⟨ph, e6, _⟩ := DataW.trod_bool Tryd.underlying4 g6
  obtain ⟨la, lst, lc, rfl, l1, l2, l3, l4, l5⟩ := field_ints g7 z7
  obtain ⟨tag, rfl, htag⟩ := field_tag g8
  simp only [List.cons.injEq, and_true] at e0 e1 e5 e6
  subst e0 e1 e5 e6
  refine ⟨k, ver, len, ph, da, sa, ta, la, dc, sc, tc, lc, D, S, T, tag, lst, ?_, htag, w0, w5, b1, s1, t1, l1, b2, s2, t2, l2, b3, s3, t3, l3⟩
  congr 1
  apply Array.ext'
  rw [hL]
  rfl
end
end Go.Proofs.YtlllejgpmdeeiaaDoor
