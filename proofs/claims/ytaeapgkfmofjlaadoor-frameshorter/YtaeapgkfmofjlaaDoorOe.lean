/- frame: frames by value, opened: what their cells hold. -/
import Derived.Test.YtaeapgkfmofjlaaDoorOc
import Derived.ProofKit
import Derived.OpenShut
import Derived.SizedLaws
namespace Go.Proofs.YtaeapgkfmofjlaaDoor
open Go.ChangeShapes Go.WideShapes Go.ChangeAt Go.RowKit
set_option linter.unusedVariables false
set_option maxRecDepth 100000

theorem row_bytes {W : World} {x : Addr} {len cap : Nat} {zs : List Int} (hl : len ≤ cap) (hz : zs.length = cap) (hcell : ∀ i, i < zs.length → W.cell? (x.add i) = some (.int .u8 (zs.getD i 0))) (hwz : ∀ n ∈ zs, (Lit.int .u8 n).wf = true) (hb : len ≤ 140737488351232) :
    ∃ l : List UInt8, l.length = len ∧ Sl W (some x) l ∧ l.length ≤ 140737488351232 := by
  refine ⟨(zs.take len).map fun z => UInt8.ofNat z.toNat, by simp; omega, fun j hj => ?_, by simp; omega⟩
  have hj' : j < len := by simp at hj; omega
  obtain ⟨b, off, rfl, hc⟩ := ints_at hcell (by omega)
  refine ⟨b, off, rfl, ?_⟩
  rw [hc j (by omega)]
  have hm : zs[j]'(by omega) ∈ zs := List.getElem_mem _
  obtain ⟨h0, h1⟩ := bounds_u8 (hwz _ hm)
  have e : zs.getD j 0 = zs[j]'(by omega) := by simp [List.getD, List.getElem?_eq_getElem (show j < zs.length by omega)]
  rw [e]
  simp only [List.getElem_map, List.getElem_take, UInt8.toNat_ofNat']
  congr 2
  omega

section
variable {H : Type} {enc : TypeId × Value → H} {W : World}
theorem field_bytes {n : Nat} {c : Value} {y : DataW H × List MemPlace} (h : DataW.trod enc Tryd.prog W 0 (fun _ => true) true n 22 [c] = some y) (hsz : (DataW.weights Tryd.prog 22 y.1).all (· ≤ reachBytes) = true) :
    ∃ ao l cap, c = .slice ao (l : List UInt8).length cap ∧ Sl W ao l ∧ (ao = none → l.length = 0 ∧ cap = 0) ∧ l.length ≤ 140737488351232 ∧ l.length ≤ cap ∧ cap ≤ 9223372036854775807 := by
  rcases open_ints Tryd.underlying22 Tryd.underlying5 (by kernel_rfl) h with ⟨hcs, _⟩ | ⟨x, l, c', zs, hcs, _, hl, hm, hz, hx, hcell, hwz⟩
  · simp only [List.cons.injEq, and_true] at hcs
    subst hcs
    exact ⟨none, [], 0, rfl, fun j hj => absurd hj (by simp), fun _ => ⟨rfl, rfl⟩, by decide, by decide, by decide⟩
  · simp only [List.cons.injEq, and_true] at hcs
    subst hcs
    have hz' := hz
    rw [if_pos rfl] at hz'
    have hb5 : Tryd.prog.bytesOf 5 = 1 := by kernel_rfl
    rw [hx] at hsz
    simp only [DataW.weights, Tryd.underlying22, List.all_cons, Bool.and_eq_true, decide_eq_true_eq, hb5] at hsz
    have hr := hsz.1
    simp only [lits, List.length_map, List.length_take, List.length_drop, reachBytes] at hr
    obtain ⟨L, g1, g2, g3⟩ := row_bytes hl hz' hcell hwz (by omega)
    subst g1
    exact ⟨some x, L, c', rfl, g2, (fun h => nomatch h), g3, hl, by unfold maxLen at hm; omega⟩
theorem field_tag {n : Nat} {cs : List Value} {y : DataW H × List MemPlace} (h : DataW.trod enc Tryd.prog W 0 (fun _ => true) true n 25 cs = some y) : ∃ tag : List UInt8, cs = bc tag ∧ tag.length = 16 := by
  have c5 : Tryd.prog.cellsOf 5 = 1 := by kernel_rfl
  have cT : Tryd.prog.cellsOf 25 = 16 := by kernel_rfl
  obtain ⟨xs, m, _, _, hl, hlen, hi⟩ := DataW.trod_array Tryd.underlying25 h
  rw [cT] at hl
  have hcell : ∀ i (h : i < cs.length), ∃ z : UInt8, cs[i] = .int .u8 (z.toNat : Int) := by
    intro i h
    have hi' := hi i (by omega)
    rw [c5, Nat.mul_one, List.drop_eq_getElem_cons h] at hi'
    have hxi : i < xs.length := by omega
    rw [List.getElem?_eq_getElem hxi] at hi'
    obtain ⟨z, hz, _, hwf⟩ := DataW.trod_int Tryd.underlying5 hi'
    simp only [List.take_succ_cons, List.take_zero, List.cons.injEq, and_true] at hz
    obtain ⟨h0, h1⟩ := bounds_u8 hwf
    refine ⟨UInt8.ofNat z.toNat, ?_⟩
    have e8 : ((z.toNat % 2 ^ 8 : Nat) : Int) = z := by omega
    rw [hz, UInt8.toNat_ofNat', e8]
  refine ⟨cs.map fun v => match v with | .int _ z => UInt8.ofNat z.toNat | _ => 0, ?_, by simp [hl]⟩
  apply List.ext_getElem
  · simp [bc]
  · intro i h1 h2
    obtain ⟨z, hz⟩ := hcell i h1
    simp only [bc, List.getElem_map, hz]
    have e8 : (UInt8.ofNat ((z.toNat : Int)).toNat).toNat = z.toNat := by rw [UInt8.toNat_ofNat', Int.toNat_natCast]; have := z.toNat_lt; omega
    rw [e8]

theorem field_path {n : Nat} {cs : List Value} {y : DataW H × List MemPlace} (h : DataW.trod enc Tryd.prog W 0 (fun _ => true) true n 26 cs = some y) : ∃ tag : List UInt8, cs = bc tag ∧ tag.length = 8 := by
  have c5 : Tryd.prog.cellsOf 5 = 1 := by kernel_rfl
  have cT : Tryd.prog.cellsOf 26 = 8 := by kernel_rfl
  obtain ⟨xs, m, _, _, hl, hlen, hi⟩ := DataW.trod_array Tryd.underlying26 h
  rw [cT] at hl
  have hcell : ∀ i (h : i < cs.length), ∃ z : UInt8, cs[i] = .int .u8 (z.toNat : Int) := by
    intro i h
    have hi' := hi i (by omega)
    rw [c5, Nat.mul_one, List.drop_eq_getElem_cons h] at hi'
    have hxi : i < xs.length := by omega
    rw [List.getElem?_eq_getElem hxi] at hi'
    obtain ⟨z, hz, _, hwf⟩ := DataW.trod_int Tryd.underlying5 hi'
    simp only [List.take_succ_cons, List.take_zero, List.cons.injEq, and_true] at hz
    obtain ⟨h0, h1⟩ := bounds_u8 hwf
    refine ⟨UInt8.ofNat z.toNat, ?_⟩
    have e8 : ((z.toNat % 2 ^ 8 : Nat) : Int) = z := by omega
    rw [hz, UInt8.toNat_ofNat', e8]
  refine ⟨cs.map fun v => match v with | .int _ z => UInt8.ofNat z.toNat | _ => 0, ?_, by simp [hl]⟩
  apply List.ext_getElem
  · simp [bc]
  · intro i h1 h2
    obtain ⟨z, hz⟩ := hcell i h1
    simp only [bc, List.getElem_map, hz]
    have e8 : (UInt8.ofNat ((z.toNat : Int)).toNat).toNat = z.toNat := by rw [UInt8.toNat_ofNat', Int.toNat_natCast]; have := z.toNat_lt; omega
    rw [e8]

theorem uncons {α : Type} {xs : List α} {n : Nat} (h : xs.length = n + 1) : ∃ a t, xs = a :: t ∧ t.length = n := by
  cases xs with
  | nil => simp at h
  | cons a t => exact ⟨a, t, rfl, by simpa using h⟩
theorem list2 {α : Type} {xs : List α} (h : xs.length = 2) : ∃ y0 y1, xs = [y0, y1] := by
  obtain ⟨y0, t0, rfl, h0⟩ := uncons (n := 1) h
  obtain ⟨y1, t1, rfl, h1⟩ := uncons (n := 0) h0
  obtain rfl := List.length_eq_zero_iff.mp h1
  exact ⟨y0, y1, rfl⟩
theorem list3 {α : Type} {xs : List α} (h : xs.length = 3) : ∃ y0 y1 y2, xs = [y0, y1, y2] := by
  obtain ⟨y0, t0, rfl, h0⟩ := uncons (n := 2) h
  obtain ⟨y1, t1, rfl, h1⟩ := uncons (n := 1) h0
  obtain ⟨y2, t2, rfl, h2⟩ := uncons (n := 0) h1
  obtain rfl := List.length_eq_zero_iff.mp h2
  exact ⟨y0, y1, y2, rfl⟩
theorem list18 {α : Type} {xs : List α} (h : xs.length = 18) : ∃ y0 y1 y2 y3 y4 y5 y6 y7 y8 y9 y10 y11 y12 y13 y14 y15 y16 y17, xs = [y0, y1, y2, y3, y4, y5, y6, y7, y8, y9, y10, y11, y12, y13, y14, y15, y16, y17] := by
  obtain ⟨y0, t0, rfl, h0⟩ := uncons (n := 17) h
  obtain ⟨y1, t1, rfl, h1⟩ := uncons (n := 16) h0
  obtain ⟨y2, t2, rfl, h2⟩ := uncons (n := 15) h1
  obtain ⟨y3, t3, rfl, h3⟩ := uncons (n := 14) h2
  obtain ⟨y4, t4, rfl, h4⟩ := uncons (n := 13) h3
  obtain ⟨y5, t5, rfl, h5⟩ := uncons (n := 12) h4
  obtain ⟨y6, t6, rfl, h6⟩ := uncons (n := 11) h5
  obtain ⟨y7, t7, rfl, h7⟩ := uncons (n := 10) h6
  obtain ⟨y8, t8, rfl, h8⟩ := uncons (n := 9) h7
  obtain ⟨y9, t9, rfl, h9⟩ := uncons (n := 8) h8
  obtain ⟨y10, t10, rfl, h10⟩ := uncons (n := 7) h9
  obtain ⟨y11, t11, rfl, h11⟩ := uncons (n := 6) h10
  obtain ⟨y12, t12, rfl, h12⟩ := uncons (n := 5) h11
  obtain ⟨y13, t13, rfl, h13⟩ := uncons (n := 4) h12
  obtain ⟨y14, t14, rfl, h14⟩ := uncons (n := 3) h13
  obtain ⟨y15, t15, rfl, h15⟩ := uncons (n := 2) h14
  obtain ⟨y16, t16, rfl, h16⟩ := uncons (n := 1) h15
  obtain ⟨y17, t17, rfl, h17⟩ := uncons (n := 0) h16
  obtain rfl := List.length_eq_zero_iff.mp h17
  exact ⟨y0, y1, y2, y3, y4, y5, y6, y7, y8, y9, y10, y11, y12, y13, y14, y15, y16, y17, rfl⟩
theorem list17 {α : Type} {xs : List α} (h : xs.length = 42) : ∃ a0 a1 a2 a3 a4 a5 a6 a7 a8 a9 a10 a11 a12 a13 a14 a15 a16 tl, xs = a0 :: a1 :: a2 :: a3 :: a4 :: a5 :: a6 :: a7 :: a8 :: a9 :: a10 :: a11 :: a12 :: a13 :: a14 :: a15 :: a16 :: tl ∧ tl.length = 25 := by
  obtain ⟨a0, t0, rfl, h0⟩ := uncons (n := 41) h
  obtain ⟨a1, t1, rfl, h1⟩ := uncons (n := 40) h0
  obtain ⟨a2, t2, rfl, h2⟩ := uncons (n := 39) h1
  obtain ⟨a3, t3, rfl, h3⟩ := uncons (n := 38) h2
  obtain ⟨a4, t4, rfl, h4⟩ := uncons (n := 37) h3
  obtain ⟨a5, t5, rfl, h5⟩ := uncons (n := 36) h4
  obtain ⟨a6, t6, rfl, h6⟩ := uncons (n := 35) h5
  obtain ⟨a7, t7, rfl, h7⟩ := uncons (n := 34) h6
  obtain ⟨a8, t8, rfl, h8⟩ := uncons (n := 33) h7
  obtain ⟨a9, t9, rfl, h9⟩ := uncons (n := 32) h8
  obtain ⟨a10, t10, rfl, h10⟩ := uncons (n := 31) h9
  obtain ⟨a11, t11, rfl, h11⟩ := uncons (n := 30) h10
  obtain ⟨a12, t12, rfl, h12⟩ := uncons (n := 29) h11
  obtain ⟨a13, t13, rfl, h13⟩ := uncons (n := 28) h12
  obtain ⟨a14, t14, rfl, h14⟩ := uncons (n := 27) h13
  obtain ⟨a15, t15, rfl, h15⟩ := uncons (n := 26) h14
  obtain ⟨a16, t16, rfl, h16⟩ := uncons (n := 25) h15
  exact ⟨a0, a1, a2, a3, a4, a5, a6, a7, a8, a9, a10, a11, a12, a13, a14, a15, a16, t16, rfl, h16⟩

theorem field_three {n : Nat} {cs : List Value} {y : DataW H × List MemPlace} (h : DataW.trod enc Tryd.prog W 0 (fun _ => true) true n 24 cs = some y) : ∃ a b c : Int, cs = [.int .i64 a, .int .i64 b, .int .i64 c] := by
  have c3 : Tryd.prog.cellsOf 3 = 1 := by kernel_rfl
  have c24 : Tryd.prog.cellsOf 24 = 3 := by kernel_rfl
  obtain ⟨xs, m, _, _, hl, hlen, hi⟩ := DataW.trod_array Tryd.underlying24 h
  rw [c24] at hl
  obtain ⟨y0, y1, y2, rfl⟩ := list3 hlen
  obtain ⟨a0, a1, a2, rfl⟩ := list3 hl
  have g0 : DataW.trod enc Tryd.prog W 0 (fun _ => true) true m 3 [a0] = some y0 := by have := hi 0 (by decide); simpa [c3] using this
  have g1 : DataW.trod enc Tryd.prog W 0 (fun _ => true) true m 3 [a1] = some y1 := by have := hi 1 (by decide); simpa [c3] using this
  have g2 : DataW.trod enc Tryd.prog W 0 (fun _ => true) true m 3 [a2] = some y2 := by have := hi 2 (by decide); simpa [c3] using this
  obtain ⟨a, e0, _, _⟩ := DataW.trod_int Tryd.underlying3 g0
  obtain ⟨b, e1, _, _⟩ := DataW.trod_int Tryd.underlying3 g1
  obtain ⟨c, e2, _, _⟩ := DataW.trod_int Tryd.underlying3 g2
  simp only [List.cons.injEq, and_true] at e0 e1 e2
  subst e0 e1 e2
  exact ⟨a, b, c, rfl⟩
theorem cells_span {n : Nat} {cs : List Value} {y : DataW H × List MemPlace} (h : DataW.trod enc Tryd.prog W 0 (fun _ => true) true n 47 cs = some y) :
    ∃ a b : Int, cs = [.int .i64 a, .int .i64 b] := by
  have c47 : Tryd.prog.cellsOf 47 = 2 := by kernel_rfl
  have c3 : Tryd.prog.cellsOf 3 = 1 := by kernel_rfl
  obtain ⟨xs, m, _, hx, hl, hlen, hfld⟩ := DataW.trod_struct Tryd.underlying47 h
  rw [c47] at hl
  obtain ⟨y0, y1, rfl⟩ := list2 hlen
  obtain ⟨a0, a1, rfl⟩ := list2 hl
  have g0 : DataW.trod enc Tryd.prog W 0 (fun _ => true) true m 3 [a0] = some y0 := by have := hfld 0 _ rfl; simpa [c3] using this
  have g1 : DataW.trod enc Tryd.prog W 0 (fun _ => true) true m 3 [a1] = some y1 := by have := hfld 1 _ rfl; simpa [c3] using this
  obtain ⟨a, e0, _, _⟩ := DataW.trod_int Tryd.underlying3 g0
  obtain ⟨b, e1, _, _⟩ := DataW.trod_int Tryd.underlying3 g1
  simp only [List.cons.injEq, and_true] at e0 e1
  subst e0 e1
  exact ⟨a, b, rfl⟩
theorem choose_list {α : Type} {n : Nat} {P : Nat → α → Prop} (h : ∀ i, i < n → ∃ x, P i x) : ∃ l : List α, l.length = n ∧ ∀ i (hi : i < l.length), P i l[i] := by
  induction n with
  | zero => exact ⟨[], rfl, fun i hi => absurd hi (Nat.not_lt_zero _)⟩
  | succ n ih =>
    obtain ⟨l, hl, hp⟩ := ih (fun i hi => h i (by omega))
    obtain ⟨x, hx⟩ := h n (by omega)
    refine ⟨l ++ [x], by simp [hl], fun i hi => ?_⟩
    by_cases hin : i < l.length
    · rw [List.getElem_append_left hin]; exact hp i hin
    · have : i = n := by simp at hi; omega
      subst this
      rw [List.getElem_append_right (by omega)]
      simpa [hl] using hx
theorem field_spans {fuel : Nat} {c : Value} {y : DataW H × List MemPlace} (h : DataW.trod enc Tryd.prog W 0 (fun _ => true) true fuel 23 [c] = some y) (hsz : (DataW.weights Tryd.prog 23 y.1).all (· ≤ reachBytes) = true) :
    ∃ la l cap, c = .slice la (l : List (Int × Int)).length cap ∧ Ss W la l ∧ l.length ≤ 140737488351232 := by
  have c47 : Tryd.prog.cellsOf 47 = 2 := by kernel_rfl
  rcases DataW.trod_slice Tryd.underlying23 h with ⟨hcs, _⟩ | ⟨a, len, cap, elems, rest, n, _, hcs, hx, _, hlc, hcm, hel, hE, _⟩
  · simp only [List.cons.injEq, and_true] at hcs
    subst hcs
    exact ⟨none, [], 0, rfl, fun i hi => absurd hi (Nat.not_lt_zero _), by simp⟩
  · simp only [List.cons.injEq, and_true] at hcs
    subst hcs
    rw [c47] at hE
    have hb47 : Tryd.prog.bytesOf 47 = 16 := by kernel_rfl
    rw [hx] at hsz
    simp only [DataW.weights, Tryd.underlying23, List.all_cons, Bool.and_eq_true, decide_eq_true_eq, hb47] at hsz
    have hr := hsz.1
    simp only [List.length_map, reachBytes] at hr
    have hx : ∀ i, i < len → ∃ x : Int × Int, ∃ b off, a = ⟨b, off, none⟩ ∧ W.cell? ⟨b, off + i * 2, none⟩ = some (.int .i64 x.1) ∧ W.cell? ⟨b, off + i * 2 + 1, none⟩ = some (.int .i64 x.2) := by
      intro i hi
      have h1 := hE i hi
      have h2 : elems[i]? = some elems[i] := List.getElem?_eq_getElem (by omega)
      rw [h2] at h1
      obtain ⟨cs, hc1, hc2⟩ := Option.bind_eq_some_iff.1 h1
      obtain ⟨x, y, rfl⟩ := cells_span hc2
      obtain ⟨_, _, hcell⟩ := World.cells?_some hc1
      have e0 := hcell 0 (by omega)
      have e1 := hcell 1 (by omega)
      obtain ⟨b, off, spot⟩ := a
      have h0i := hE 0 (by omega)
      rw [List.getElem?_eq_getElem (show 0 < elems.length by omega)] at h0i
      obtain ⟨cs0, hc01, hc02⟩ := Option.bind_eq_some_iff.1 h0i
      obtain ⟨x0, y0, rfl⟩ := cells_span hc02
      have e00 := (World.cells?_some hc01).2.2 0 (by omega)
      have hspot : spot = none := by
        have : W.cell? ⟨b, off, spot⟩ = some (.int .i64 x0) := by simpa [Addr.add] using e00
        exact World.cell?_spot this
      subst hspot
      rw [Addr.add_lit, Addr.add_lit] at e0 e1
      exact ⟨(x, y), b, off, rfl, by simpa using e0, by simpa using e1⟩
    obtain ⟨l, hl, hp⟩ := choose_list hx
    refine ⟨some a, l, cap, by rw [hl], fun i hi => ?_, by omega⟩
    obtain ⟨b, off, rfl, q0, q1⟩ := hp i hi
    exact ⟨b, off, rfl, q0, q1⟩
/-- A slice's block is there. -/
theorem row_lt {base : Nat} {e t : TypeId} {a : Addr} {len cap : Nat} (ht : Tryd.prog.underlying t = some (.slice e)) (h : Cell.okWide Tryd.prog W .any base t (.slice (some a) len cap)) : a.block < W.heap.size := by
  unfold Cell.okWide at h
  simp only [ht] at h
  unfold Cell.ok at h
  simp only [ht] at h
  obtain ⟨_, _, _, _, row, cells, hs, _⟩ := h
  unfold World.shape? at hs
  split at hs
  · rename_i hg
    exact (Array.getElem?_eq_some_iff.1 hg).1
  · cases hs
theorem struct_row {base : Nat} {t : TypeId} {fs : Array Field} {cs : Array Value} (ht : Tryd.prog.underlying t = some (.struct fs)) (h : Value.okWide Tryd.prog W .any base t (.agg cs)) : Row.okWide Tryd.prog W .any base t cs := by
  simp only [Value.okWide, ht] at h
  obtain ⟨cs', h1, _, h3⟩ := h
  cases h1
  exact h3
theorem types28 : Tryd.prog.cellTypes Tryd.prog.depth 28 = some [3, 3, 3, 22, 4, 4, 3, 3, 3, 23, 3, 3, 3, 3, 3, 3, 22, 5, 5, 5, 5, 5, 5, 5, 5, 5, 5, 5, 5, 5, 5, 5, 5, 5, 5, 5, 5, 5, 5, 5, 5, 3] := by kernel_rfl
theorem cell_28 {base : Nat} {cs : Array Value} (h : Row.okWide Tryd.prog W .any base 28 cs) (i : Nat) (hi : i < 42) (u : TypeId) (hu : [3, 3, 3, 22, 4, 4, 3, 3, 3, 23, 3, 3, 3, 3, 3, 3, 22, 5, 5, 5, 5, 5, 5, 5, 5, 5, 5, 5, 5, 5, 5, 5, 5, 5, 5, 5, 5, 5, 5, 5, 5, 3][i]? = some u) (v : Value) (hv : cs[i]? = some v) : Cell.okWide Tryd.prog W .any base u v := by
  obtain ⟨ts, e, _, hc⟩ := h
  obtain rfl := Option.some.inj (types28.symm.trans e)
  obtain ⟨u', e', ho⟩ := hc i v hv
  rw [show ([3, 3, 3, 22, 4, 4, 3, 3, 3, 23, 3, 3, 3, 3, 3, 3, 22, 5, 5, 5, 5, 5, 5, 5, 5, 5, 5, 5, 5, 5, 5, 5, 5, 5, 5, 5, 5, 5, 5, 5, 5, 3] : List TypeId).length = 42 from rfl, Nat.mod_eq_of_lt hi, hu] at e'
  cases e'
  exact ho
set_option maxRecDepth 100000 in
theorem open_frame {base : Nat} {v : Value} {y : DataW H} {p : List MemPlace} (hv : Value.okWide Tryd.prog W .any base 28 v) (h : DataW.Trod enc Tryd.prog W 0 (fun _ => true) true 28 v y p) (hsz : (DataW.weights Tryd.prog 28 y).all (· ≤ reachBytes) = true) :
    ∃ (f : Fr) (d : Da), v = .agg f.cells.toArray ∧ Fi W f d := by
  obtain ⟨cs, rfl, hcs⟩ := okWide_struct Tryd.underlying28 hv
  have hrow := struct_row Tryd.underlying28 hv
  have c28 : Tryd.prog.cellsOf 28 = 42 := by kernel_rfl
  have c3 : Tryd.prog.cellsOf 3 = 1 := by kernel_rfl
  have c4 : Tryd.prog.cellsOf 4 = 1 := by kernel_rfl
  have c22 : Tryd.prog.cellsOf 22 = 1 := by kernel_rfl
  have c23 : Tryd.prog.cellsOf 23 = 1 := by kernel_rfl
  have c24 : Tryd.prog.cellsOf 24 = 3 := by kernel_rfl
  have c25 : Tryd.prog.cellsOf 25 = 16 := by kernel_rfl
  have c26 : Tryd.prog.cellsOf 26 = 8 := by kernel_rfl
  rw [c28] at hcs
  obtain ⟨fuel, hf⟩ := h
  obtain ⟨xs, n, _, hx, hlx, hlen, hfld⟩ := DataW.trod_struct Tryd.underlying28 hf
  obtain ⟨y0, y1, y2, y3, y4, y5, y6, y7, y8, y9, y10, y11, y12, y13, y14, y15, y16, y17, rfl⟩ := list18 hlen
  obtain ⟨a0, a1, a2, a3, a4, a5, a6, a7, a8, a9, a10, a11, a12, a13, a14, a15, a16, tl, hL, htl⟩ := list17 (xs := cs.toList) (by simpa using hcs)
  have hcl : (Value.agg cs).cells.toList = a0 :: a1 :: a2 :: a3 :: a4 :: a5 :: a6 :: a7 :: a8 :: a9 :: a10 :: a11 :: a12 :: a13 :: a14 :: a15 :: a16 :: tl := hL
  rw [hcl] at hfld hlx
  have g0 : DataW.trod enc Tryd.prog W 0 (fun _ => true) true n 3 [a0] = some y0 := by have := hfld 0 _ rfl; simpa [c3, c4, c22, c23, c24] using this
  have g1 : DataW.trod enc Tryd.prog W 0 (fun _ => true) true n 3 [a1] = some y1 := by have := hfld 1 _ rfl; simpa [c3, c4, c22, c23, c24] using this
  have g2 : DataW.trod enc Tryd.prog W 0 (fun _ => true) true n 3 [a2] = some y2 := by have := hfld 2 _ rfl; simpa [c3, c4, c22, c23, c24] using this
  have g3 : DataW.trod enc Tryd.prog W 0 (fun _ => true) true n 22 [a3] = some y3 := by have := hfld 3 _ rfl; simpa [c3, c4, c22, c23, c24] using this
  have g4 : DataW.trod enc Tryd.prog W 0 (fun _ => true) true n 4 [a4] = some y4 := by have := hfld 4 _ rfl; simpa [c3, c4, c22, c23, c24] using this
  have g5 : DataW.trod enc Tryd.prog W 0 (fun _ => true) true n 4 [a5] = some y5 := by have := hfld 5 _ rfl; simpa [c3, c4, c22, c23, c24] using this
  have g6 : DataW.trod enc Tryd.prog W 0 (fun _ => true) true n 3 [a6] = some y6 := by have := hfld 6 _ rfl; simpa [c3, c4, c22, c23, c24] using this
  have g7 : DataW.trod enc Tryd.prog W 0 (fun _ => true) true n 3 [a7] = some y7 := by have := hfld 7 _ rfl; simpa [c3, c4, c22, c23, c24] using this
  have g8 : DataW.trod enc Tryd.prog W 0 (fun _ => true) true n 3 [a8] = some y8 := by have := hfld 8 _ rfl; simpa [c3, c4, c22, c23, c24] using this
  have g9 : DataW.trod enc Tryd.prog W 0 (fun _ => true) true n 23 [a9] = some y9 := by have := hfld 9 _ rfl; simpa [c3, c4, c22, c23, c24] using this
  have g10 : DataW.trod enc Tryd.prog W 0 (fun _ => true) true n 3 [a10] = some y10 := by have := hfld 10 _ rfl; simpa [c3, c4, c22, c23, c24] using this
  have g11 : DataW.trod enc Tryd.prog W 0 (fun _ => true) true n 24 [a11, a12, a13] = some y11 := by have := hfld 11 _ rfl; simpa [c3, c4, c22, c23, c24] using this
  have g12 : DataW.trod enc Tryd.prog W 0 (fun _ => true) true n 3 [a14] = some y12 := by have := hfld 12 _ rfl; simpa [c3, c4, c22, c23, c24] using this
  have g13 : DataW.trod enc Tryd.prog W 0 (fun _ => true) true n 3 [a15] = some y13 := by have := hfld 13 _ rfl; simpa [c3, c4, c22, c23, c24] using this
  have g14 : DataW.trod enc Tryd.prog W 0 (fun _ => true) true n 22 [a16] = some y14 := by have := hfld 14 _ rfl; simpa [c3, c4, c22, c23, c24] using this
  have g15 : DataW.trod enc Tryd.prog W 0 (fun _ => true) true n 25 (tl.take 16) = some y15 := by
    have := hfld 15 _ rfl
    simpa [c25] using this
  have g16 : DataW.trod enc Tryd.prog W 0 (fun _ => true) true n 26 ((tl.drop 16).take 8) = some y16 := by
    have := hfld 16 _ rfl
    simpa [c26] using this
  have g17 : DataW.trod enc Tryd.prog W 0 (fun _ => true) true n 3 (tl.drop 24) = some y17 := by
    have := hfld 17 _ rfl
    simpa [c3, List.take_of_length_le (show (tl.drop 24).length ≤ 1 by rw [List.length_drop]; omega)] using this
  simp only [Prod.mk.injEq, List.map_cons, List.map_nil] at hx
  rw [hx.1] at hsz
  simp only [DataW.weights, Tryd.underlying28, List.map_cons, List.map_nil, DataW.weightsEach, List.all_append, Bool.and_eq_true] at hsz
  obtain ⟨_, _, _, z3, _, _, _, _, _, z9, _, _, _, _, z14, _, _, _⟩ := hsz
  obtain ⟨x0, e0, _, _⟩ := DataW.trod_int Tryd.underlying3 g0
  obtain ⟨x1, e1, _, _⟩ := DataW.trod_int Tryd.underlying3 g1
  obtain ⟨x2, e2, _, _⟩ := DataW.trod_int Tryd.underlying3 g2
  obtain ⟨x4, e4, _⟩ := DataW.trod_bool Tryd.underlying4 g4
  obtain ⟨x5, e5, _⟩ := DataW.trod_bool Tryd.underlying4 g5
  obtain ⟨x6, e6, _, _⟩ := DataW.trod_int Tryd.underlying3 g6
  obtain ⟨x7, e7, _, _⟩ := DataW.trod_int Tryd.underlying3 g7
  obtain ⟨x8, e8, _, _⟩ := DataW.trod_int Tryd.underlying3 g8
  obtain ⟨x10, e10, _, _⟩ := DataW.trod_int Tryd.underlying3 g10
  obtain ⟨x12, e12, _, _⟩ := DataW.trod_int Tryd.underlying3 g12
  obtain ⟨x13, e13, _, _⟩ := DataW.trod_int Tryd.underlying3 g13
  simp only [List.cons.injEq, and_true] at e0 e1 e2 e4 e5 e6 e7 e8 e10 e12 e13
  subst e0 e1 e2 e4 e5 e6 e7 e8 e10 e12 e13
  obtain ⟨u0, u1, u2, eU⟩ := field_three g11
  simp only [List.cons.injEq, and_true] at eU
  obtain ⟨rfl, rfl, rfl⟩ := eU
  obtain ⟨oD, D, kD, rfl, sD, nD, mD, -, -⟩ := field_bytes g3 z3
  obtain ⟨oA, A, kA, rfl, sA, mA⟩ := field_spans g9 z9
  obtain ⟨oI, I, kI, rfl, sI, nI, mI, -, -⟩ := field_bytes g14 z14
  obtain ⟨R, eR, lR⟩ := field_tag g15
  obtain ⟨P, eP, lP⟩ := field_path g16
  obtain ⟨x17, e17, _, _⟩ := DataW.trod_int Tryd.underlying3 g17
  have etl : tl = bc R ++ (bc P ++ [.int .i64 x17]) := by
    rw [← eR, ← eP, ← e17, ← List.drop_drop (i := 8) (j := 16) (l := tl), List.take_append_drop, List.take_append_drop]
  have at3 : cs[3]? = some (.slice oD D.length kD) := by rw [← Array.getElem?_toList, hL]; rfl
  have at9 : cs[9]? = some (.slice oA A.length kA) := by rw [← Array.getElem?_toList, hL]; rfl
  have at16 : cs[16]? = some (.slice oI I.length kI) := by rw [← Array.getElem?_toList, hL]; rfl
  have b3 : ∀ ad, oD = some ad → ad.block < W.heap.size := fun ad e => by
    subst e
    exact row_lt Tryd.underlying22 (cell_28 hrow 3 (by decide) 22 rfl _ at3)
  have b9 : ∀ ad, oA = some ad → ad.block < W.heap.size := fun ad e => by
    subst e
    exact row_lt Tryd.underlying23 (cell_28 hrow 9 (by decide) 23 rfl _ at9)
  have b16 : ∀ ad, oI = some ad → ad.block < W.heap.size := fun ad e => by
    subst e
    exact row_lt Tryd.underlying22 (cell_28 hrow 16 (by decide) 22 rfl _ at16)
  refine ⟨⟨x0, x1, x2, .slice oD D.length kD, x4, x5, x6, x7, x8, .slice oA A.length kA, x10, u0, u1, u2, x12, x13, .slice oI I.length kI, bc R, bc P, x17⟩, ⟨oD, D, kD, oA, A, kA, oI, I, kI, R, P⟩, ?_, ⟨rfl, rfl, rfl, rfl, rfl, lR, lP, by dsimp only; omega, by dsimp only; omega⟩, sD, nD, b3, sI, nI, b16, sA, b9, by dsimp only; omega, by dsimp only; omega⟩
  congr 1
  apply Array.ext'
  rw [hL, etl]
  rfl
end
end Go.Proofs.YtaeapgkfmofjlaaDoor
