/- params: parameters by value, opened: what their cells hold. -/
import Derived.Test.YtcppnellgkbndaaDoorRowBytes
import Derived.Test.YtcppnellgkbndaaDoorMt
import Derived.Test.YtcppnellgkbndaaDoorMc
import Derived.ProofKit
import Derived.OpenShut
import Derived.SizedLaws
namespace Go.Proofs.YtcppnellgkbndaaDoor
open Go.ChangeShapes Go.WideShapes Go.ChangeAt Go.RowKit
set_option linter.unusedVariables false

section
variable {H : Type} {enc : TypeId × Value → H} {W : World}
theorem field_bytes {n : Nat} {c : Value} {y : DataW H × List MemPlace} (h : DataW.trod enc Tryd.prog W 0 (fun _ => true) true n 22 [c] = some y) (hsz : (DataW.weights Tryd.prog 22 y.1).all (· ≤ reachBytes) = true) :
    ∃ ao l cap, c = .slice ao (l : List UInt8).length cap ∧ Sl W ao l ∧ (ao = none → l.length = 0 ∧ cap = 0) ∧ l.length ≤ 140737488351232 ∧ l.length ≤ cap ∧ cap ≤ 9223372036854775807 := by
  rcases open_ints Tryd.underlying22 Tryd.underlying5 (by kernel_rfl) h with ⟨hcs, _⟩ | ⟨x, l, c', zs, hcs, _, hl, hm, hz, hx, hcell, hwz⟩
  · simp only [List.cons.injEq, and_true] at hcs
    subst hcs
    exact ⟨none, [], 0, rfl, fun j hj => absurd hj (by simp), fun _ => ⟨rfl, rfl⟩, by decide, by decide, by decide⟩
  · simp only [List.cons.injEq, and_true] at hcs
    subst hcs
    have hz' := hz
    rw [if_pos rfl] at hz'
    have hb5 : Tryd.prog.bytesOf 5 = 1 := by kernel_rfl
    rw [hx] at hsz
    simp only [DataW.weights, Tryd.underlying22, List.all_cons, Bool.and_eq_true, decide_eq_true_eq, hb5] at hsz
    have hr := hsz.1
    simp only [lits, List.length_map, List.length_take, List.length_drop, reachBytes] at hr
    obtain ⟨L, g1, g2, g3⟩ := row_bytes hl hz' hcell hwz (by omega)
    subst g1
    exact ⟨some x, L, c', rfl, g2, (fun h => nomatch h), g3, hl, by unfold maxLen at hm; omega⟩
theorem field_tag {n : Nat} {cs : List Value} {y : DataW H × List MemPlace} (h : DataW.trod enc Tryd.prog W 0 (fun _ => true) true n 23 cs = some y) : ∃ tag : List UInt8, cs = bc tag ∧ tag.length = 16 := by
  have c5 : Tryd.prog.cellsOf 5 = 1 := by kernel_rfl
  have c23 : Tryd.prog.cellsOf 23 = 16 := by kernel_rfl
  obtain ⟨xs, m, _, _, hl, hlen, hi⟩ := DataW.trod_array Tryd.underlying23 h
  rw [c23] at hl
  have hcell : ∀ i (h : i < cs.length), ∃ z : UInt8, cs[i] = .int .u8 (z.toNat : Int) := by
    intro i h
    have hi' := hi i (by omega)
    rw [c5, Nat.mul_one, List.drop_eq_getElem_cons h] at hi'
    have hxi : i < xs.length := by omega
    rw [List.getElem?_eq_getElem hxi] at hi'
    obtain ⟨z, hz, _, hwf⟩ := DataW.trod_int Tryd.underlying5 hi'
    simp only [List.take_succ_cons, List.take_zero, List.cons.injEq, and_true] at hz
    obtain ⟨h0, h1⟩ := bounds_u8 hwf
    refine ⟨UInt8.ofNat z.toNat, ?_⟩
    have e8 : ((z.toNat % 2 ^ 8 : Nat) : Int) = z := by omega
    rw [hz, UInt8.toNat_ofNat', e8]
  refine ⟨cs.map fun v => match v with | .int _ z => UInt8.ofNat z.toNat | _ => 0, ?_, by simp [hl]⟩
  apply List.ext_getElem
  · simp [bc]
  · intro i h1 h2
    obtain ⟨z, hz⟩ := hcell i h1
    simp only [bc, List.getElem_map, hz]
    have e8 : (UInt8.ofNat ((z.toNat : Int)).toNat).toNat = z.toNat := by rw [UInt8.toNat_ofNat', Int.toNat_natCast]; have := z.toNat_lt; omega
    rw [e8]

theorem uncons {α : Type} {xs : List α} {n : Nat} (h : xs.length = n + 1) : ∃ a t, xs = a :: t ∧ t.length = n := by
  cases xs with
  | nil => simp at h
  | cons a t => exact ⟨a, t, rfl, by simpa using h⟩
theorem list19 {α : Type} {xs : List α} (h : xs.length = 19) : ∃ y0 y1 y2 y3 y4 y5 y6 y7 y8 y9 y10 y11 y12 y13 y14 y15 y16 y17 y18, xs = [y0, y1, y2, y3, y4, y5, y6, y7, y8, y9, y10, y11, y12, y13, y14, y15, y16, y17, y18] := by
  obtain ⟨y0, t0, rfl, h0⟩ := uncons (n := 18) h
  obtain ⟨y1, t1, rfl, h1⟩ := uncons (n := 17) h0
  obtain ⟨y2, t2, rfl, h2⟩ := uncons (n := 16) h1
  obtain ⟨y3, t3, rfl, h3⟩ := uncons (n := 15) h2
  obtain ⟨y4, t4, rfl, h4⟩ := uncons (n := 14) h3
  obtain ⟨y5, t5, rfl, h5⟩ := uncons (n := 13) h4
  obtain ⟨y6, t6, rfl, h6⟩ := uncons (n := 12) h5
  obtain ⟨y7, t7, rfl, h7⟩ := uncons (n := 11) h6
  obtain ⟨y8, t8, rfl, h8⟩ := uncons (n := 10) h7
  obtain ⟨y9, t9, rfl, h9⟩ := uncons (n := 9) h8
  obtain ⟨y10, t10, rfl, h10⟩ := uncons (n := 8) h9
  obtain ⟨y11, t11, rfl, h11⟩ := uncons (n := 7) h10
  obtain ⟨y12, t12, rfl, h12⟩ := uncons (n := 6) h11
  obtain ⟨y13, t13, rfl, h13⟩ := uncons (n := 5) h12
  obtain ⟨y14, t14, rfl, h14⟩ := uncons (n := 4) h13
  obtain ⟨y15, t15, rfl, h15⟩ := uncons (n := 3) h14
  obtain ⟨y16, t16, rfl, h16⟩ := uncons (n := 2) h15
  obtain ⟨y17, t17, rfl, h17⟩ := uncons (n := 1) h16
  obtain ⟨y18, t18, rfl, h18⟩ := uncons (n := 0) h17
  obtain rfl := List.length_eq_zero_iff.mp h18
  exact ⟨y0, y1, y2, y3, y4, y5, y6, y7, y8, y9, y10, y11, y12, y13, y14, y15, y16, y17, y18, rfl⟩
theorem list17 {α : Type} {xs : List α} (h : xs.length = 34) : ∃ a0 a1 a2 a3 a4 a5 a6 a7 a8 a9 a10 a11 a12 a13 a14 a15 a16 tl, xs = a0 :: a1 :: a2 :: a3 :: a4 :: a5 :: a6 :: a7 :: a8 :: a9 :: a10 :: a11 :: a12 :: a13 :: a14 :: a15 :: a16 :: tl := by
  obtain ⟨a0, t0, rfl, h0⟩ := uncons (n := 33) h
  obtain ⟨a1, t1, rfl, h1⟩ := uncons (n := 32) h0
  obtain ⟨a2, t2, rfl, h2⟩ := uncons (n := 31) h1
  obtain ⟨a3, t3, rfl, h3⟩ := uncons (n := 30) h2
  obtain ⟨a4, t4, rfl, h4⟩ := uncons (n := 29) h3
  obtain ⟨a5, t5, rfl, h5⟩ := uncons (n := 28) h4
  obtain ⟨a6, t6, rfl, h6⟩ := uncons (n := 27) h5
  obtain ⟨a7, t7, rfl, h7⟩ := uncons (n := 26) h6
  obtain ⟨a8, t8, rfl, h8⟩ := uncons (n := 25) h7
  obtain ⟨a9, t9, rfl, h9⟩ := uncons (n := 24) h8
  obtain ⟨a10, t10, rfl, h10⟩ := uncons (n := 23) h9
  obtain ⟨a11, t11, rfl, h11⟩ := uncons (n := 22) h10
  obtain ⟨a12, t12, rfl, h12⟩ := uncons (n := 21) h11
  obtain ⟨a13, t13, rfl, h13⟩ := uncons (n := 20) h12
  obtain ⟨a14, t14, rfl, h14⟩ := uncons (n := 19) h13
  obtain ⟨a15, t15, rfl, h15⟩ := uncons (n := 18) h14
  obtain ⟨a16, t16, rfl, h16⟩ := uncons (n := 17) h15
  exact ⟨a0, a1, a2, a3, a4, a5, a6, a7, a8, a9, a10, a11, a12, a13, a14, a15, a16, t16, rfl⟩
theorem hl_bc (l : List UInt8) : hl l = bc l := rfl
set_option maxRecDepth 100000 in
theorem open_params {base : Nat} {v : Value} {d : DataW H} {p : List MemPlace} (hv : Value.okWide Tryd.prog W .any base 25 v) (h : DataW.Trod enc Tryd.prog W 0 (fun _ => true) true 25 v d p) (hsz : (DataW.weights Tryd.prog 25 d).all (· ≤ reachBytes) = true) :
    ∃ q : Ps, v = .agg q.cells.toArray ∧ Pl W q := by
  obtain ⟨cs, rfl, hcs⟩ := okWide_struct Tryd.underlying25 hv
  have c25 : Tryd.prog.cellsOf 25 = 34 := by kernel_rfl
  have c3 : Tryd.prog.cellsOf 3 = 1 := by kernel_rfl
  have c4 : Tryd.prog.cellsOf 4 = 1 := by kernel_rfl
  have c22 : Tryd.prog.cellsOf 22 = 1 := by kernel_rfl
  have c23 : Tryd.prog.cellsOf 23 = 16 := by kernel_rfl
  rw [c25] at hcs
  obtain ⟨fuel, hf⟩ := h
  obtain ⟨xs, n, _, hx, hlx, hlen, hfld⟩ := DataW.trod_struct Tryd.underlying25 hf
  obtain ⟨y0, y1, y2, y3, y4, y5, y6, y7, y8, y9, y10, y11, y12, y13, y14, y15, y16, y17, y18, rfl⟩ := list19 hlen
  obtain ⟨a0, a1, a2, a3, a4, a5, a6, a7, a8, a9, a10, a11, a12, a13, a14, a15, a16, tl, hL⟩ := list17 (xs := cs.toList) (by simpa using hcs)
  have hcl : (Value.agg cs).cells.toList = a0 :: a1 :: a2 :: a3 :: a4 :: a5 :: a6 :: a7 :: a8 :: a9 :: a10 :: a11 :: a12 :: a13 :: a14 :: a15 :: a16 :: tl := hL
  rw [hcl] at hfld hlx
  have htl : tl.length = 17 := by rw [c25] at hlx; simp at hlx; omega
  have g0 : DataW.trod enc Tryd.prog W 0 (fun _ => true) true n 3 [a0] = some y0 := by have := hfld 0 _ rfl; simpa [c3, c4, c22] using this
  have g1 : DataW.trod enc Tryd.prog W 0 (fun _ => true) true n 3 [a1] = some y1 := by have := hfld 1 _ rfl; simpa [c3, c4, c22] using this
  have g2 : DataW.trod enc Tryd.prog W 0 (fun _ => true) true n 3 [a2] = some y2 := by have := hfld 2 _ rfl; simpa [c3, c4, c22] using this
  have g3 : DataW.trod enc Tryd.prog W 0 (fun _ => true) true n 3 [a3] = some y3 := by have := hfld 3 _ rfl; simpa [c3, c4, c22] using this
  have g4 : DataW.trod enc Tryd.prog W 0 (fun _ => true) true n 3 [a4] = some y4 := by have := hfld 4 _ rfl; simpa [c3, c4, c22] using this
  have g5 : DataW.trod enc Tryd.prog W 0 (fun _ => true) true n 3 [a5] = some y5 := by have := hfld 5 _ rfl; simpa [c3, c4, c22] using this
  have g6 : DataW.trod enc Tryd.prog W 0 (fun _ => true) true n 3 [a6] = some y6 := by have := hfld 6 _ rfl; simpa [c3, c4, c22] using this
  have g7 : DataW.trod enc Tryd.prog W 0 (fun _ => true) true n 3 [a7] = some y7 := by have := hfld 7 _ rfl; simpa [c3, c4, c22] using this
  have g8 : DataW.trod enc Tryd.prog W 0 (fun _ => true) true n 3 [a8] = some y8 := by have := hfld 8 _ rfl; simpa [c3, c4, c22] using this
  have g9 : DataW.trod enc Tryd.prog W 0 (fun _ => true) true n 3 [a9] = some y9 := by have := hfld 9 _ rfl; simpa [c3, c4, c22] using this
  have g10 : DataW.trod enc Tryd.prog W 0 (fun _ => true) true n 4 [a10] = some y10 := by have := hfld 10 _ rfl; simpa [c3, c4, c22] using this
  have g11 : DataW.trod enc Tryd.prog W 0 (fun _ => true) true n 3 [a11] = some y11 := by have := hfld 11 _ rfl; simpa [c3, c4, c22] using this
  have g12 : DataW.trod enc Tryd.prog W 0 (fun _ => true) true n 3 [a12] = some y12 := by have := hfld 12 _ rfl; simpa [c3, c4, c22] using this
  have g13 : DataW.trod enc Tryd.prog W 0 (fun _ => true) true n 22 [a13] = some y13 := by have := hfld 13 _ rfl; simpa [c3, c4, c22] using this
  have g14 : DataW.trod enc Tryd.prog W 0 (fun _ => true) true n 22 [a14] = some y14 := by have := hfld 14 _ rfl; simpa [c3, c4, c22] using this
  have g15 : DataW.trod enc Tryd.prog W 0 (fun _ => true) true n 22 [a15] = some y15 := by have := hfld 15 _ rfl; simpa [c3, c4, c22] using this
  have g16 : DataW.trod enc Tryd.prog W 0 (fun _ => true) true n 4 [a16] = some y16 := by have := hfld 16 _ rfl; simpa [c3, c4, c22] using this
  have g17 : DataW.trod enc Tryd.prog W 0 (fun _ => true) true n 23 (tl.take 16) = some y17 := by
    have := hfld 17 _ rfl
    simpa [c3, c4, c22, c23] using this
  have g18 : DataW.trod enc Tryd.prog W 0 (fun _ => true) true n 4 (tl.drop 16) = some y18 := by
    have := hfld 18 _ rfl
    simpa [c3, c4, c22, c23, List.take_of_length_le (show (tl.drop 16).length ≤ 1 by rw [List.length_drop]; omega)] using this
  simp only [Prod.mk.injEq, List.map_cons, List.map_nil] at hx
  rw [hx.1] at hsz
  simp only [DataW.weights, Tryd.underlying25, List.map_cons, List.map_nil, DataW.weightsEach, List.all_append, Bool.and_eq_true] at hsz
  obtain ⟨_, _, _, _, _, _, _, _, _, _, _, _, _, z13, z14, z15, _⟩ := hsz
  obtain ⟨x0, e0, _, _⟩ := DataW.trod_int Tryd.underlying3 g0
  obtain ⟨x1, e1, _, _⟩ := DataW.trod_int Tryd.underlying3 g1
  obtain ⟨x2, e2, _, _⟩ := DataW.trod_int Tryd.underlying3 g2
  obtain ⟨x3, e3, _, _⟩ := DataW.trod_int Tryd.underlying3 g3
  obtain ⟨x4, e4, _, _⟩ := DataW.trod_int Tryd.underlying3 g4
  obtain ⟨x5, e5, _, _⟩ := DataW.trod_int Tryd.underlying3 g5
  obtain ⟨x6, e6, _, _⟩ := DataW.trod_int Tryd.underlying3 g6
  obtain ⟨x7, e7, _, _⟩ := DataW.trod_int Tryd.underlying3 g7
  obtain ⟨x8, e8, _, _⟩ := DataW.trod_int Tryd.underlying3 g8
  obtain ⟨x9, e9, _, _⟩ := DataW.trod_int Tryd.underlying3 g9
  obtain ⟨x10, e10, _⟩ := DataW.trod_bool Tryd.underlying4 g10
  obtain ⟨x11, e11, _, _⟩ := DataW.trod_int Tryd.underlying3 g11
  obtain ⟨x12, e12, _, _⟩ := DataW.trod_int Tryd.underlying3 g12
  obtain ⟨o13, l13, k13, rfl, s13, n13, -, -, -⟩ := field_bytes g13 z13
  obtain ⟨o14, l14, k14, rfl, s14, n14, -, -, -⟩ := field_bytes g14 z14
  obtain ⟨o15, l15, k15, rfl, s15, n15, -, -, -⟩ := field_bytes g15 z15
  obtain ⟨x16, e16, _⟩ := DataW.trod_bool Tryd.underlying4 g16
  obtain ⟨tag, htag, ht16⟩ := field_tag g17
  obtain ⟨x18, e18, _⟩ := DataW.trod_bool Tryd.underlying4 g18
  have htl2 : tl = bc tag ++ [.bool x18] := by rw [← htag, ← e18, List.take_append_drop]
  simp only [List.cons.injEq, and_true] at e0 e1 e2 e3 e4 e5 e6 e7 e8 e9 e10 e11 e12 e16
  subst e0 e1 e2 e3 e4 e5 e6 e7 e8 e9 e10 e11 e12 e16
  refine ⟨⟨x0, x1, x2, x3, x4, x5, x6, x7, x8, x9, x10, x11, x12, ⟨o13, l13, k13⟩, ⟨o14, l14, k14⟩, ⟨o15, l15, k15⟩, x16, tag, x18⟩, ?_, ⟨s13, n13⟩, ⟨s14, n14⟩, ⟨s15, n15⟩, ht16⟩
  congr 1
  apply Array.ext'
  rw [hL, htl2]
  rfl
end
end Go.Proofs.YtcppnellgkbndaaDoor
