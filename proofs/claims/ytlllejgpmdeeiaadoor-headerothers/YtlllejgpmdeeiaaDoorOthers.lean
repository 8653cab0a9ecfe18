/- The walk of caravellaw02.HeaderOthers. -/
import Derived.Test.YtlllejgpmdeeiaaDoorReadP
import Derived.Test.YtlllejgpmdeeiaaDoorReadNil
import Derived.Test.YtlllejgpmdeeiaaDoorArith
import Derived.Test.YtlllejgpmdeeiaaDoorOthersPure
namespace Go.Proofs.YtlllejgpmdeeiaaDoor
open Go.ChangeShapes Go.WideShapes Go.ChangeAt Go.RowKit
set_option linter.unusedVariables false

theorem and_32 (a : Int) : 0 ≤ bits .and .i64 a 4294967295 ∧ bits .and .i64 a 4294967295 ≤ 4294967295 := by
  have h : (BitVec.ofInt 64 a &&& BitVec.ofInt 64 4294967295).toNat ≤ 4294967295 := by
    rw [BitVec.toNat_and]
    exact Nat.and_le_right
  have e : bits .and .i64 a 4294967295 = IntKind.i64.wrap ((BitVec.ofInt 64 a &&& BitVec.ofInt 64 4294967295).toNat : Int) := rfl
  rw [e, IntKind.wrap_i64]
  omega

set_option maxRecDepth 10000 in
set_option maxHeartbeats 400000 in
theorem others_0 (v : Int) (ao ro : Option Addr) (n c m c' : Nat) (w : World) (h : bits .and .i64 v 4294967295 = 0) :
    Calls Tryd.prog 7 #[.int .i64 v, .slice ao n c, .slice ro m c'] w fun e w' => e = .returned (.bool true) ∧ Below w.heap.size w w' := by
  go_enter Tryd.func7, Tryd.ntmps7
  go_wp2_with fail
  refine (read_nil _).mono ?_
  rintro e w2 ⟨rfl, hB⟩
  have HB := mkHid hB
  clear hB
  go_wp2_with ((refine wpList_store_row rfl 26 (.tmp 7) (.tmp 29) rfl w2.heap.size zr rfl rfl 26 zr (heap_alloc_new w2 (.cells zr 26)) sz26 rfl zr_one ?_))
  go_ret
  exact ⟨rfl, below_setRow (HB.out.alloc HB.out.size _) HB.out.size _⟩

set_option maxRecDepth 10000 in
set_option maxHeartbeats 400000 in
theorem others_1 (v : Int) (ao ro : Option Addr) (n c m c' : Nat) (w : World) (h : bits .and .i64 v 4294967295 = 1) :
    Calls Tryd.prog 7 #[.int .i64 v, .slice ao n c, .slice ro m c'] w fun e w' => e = .returned (.bool true) ∧ Below w.heap.size w w' := by
  go_enter Tryd.func7, Tryd.ntmps7
  go_wp2_with fail
  refine (read_nil _).mono ?_
  rintro e w2 ⟨rfl, hB⟩
  have HB := mkHid hB
  clear hB
  go_wp2_with ((refine wpList_store_row rfl 26 (.tmp 7) (.tmp 29) rfl w2.heap.size zr rfl rfl 26 zr (heap_alloc_new w2 (.cells zr 26)) sz26 rfl zr_one ?_))
  go_ret
  exact ⟨rfl, below_setRow (HB.out.alloc HB.out.size _) HB.out.size _⟩

set_option maxRecDepth 10000 in
set_option maxHeartbeats 400000 in
theorem others_long (v : Int) (ao ro : Option Addr) (n c m c' : Nat) (w : World) (V : Int) (h : bits .and .i64 v 4294967295 = V) (h0 : V ≠ 0) (h1 : V ≠ 1) (hn : 20 < n) (hm : n ≤ 9223372036854775807) :
    Calls Tryd.prog 7 #[.int .i64 v, .slice ao n c, .slice ro m c'] w fun e w' => e = .returned (.bool true) ∧ Below w.heap.size w w' := by
  have q0 : (V == 0) = false := by simp [h0]
  have q1 : (V == 1) = false := by simp [h1]
  go_enter Tryd.func7, Tryd.ntmps7
  go_wp2_with fail
  refine (read_nil _).mono ?_
  rintro e w2 ⟨rfl, hB⟩
  have HB := mkHid hB
  clear hB
  go_wp2_with ((refine wpList_store_row rfl 26 (.tmp 7) (.tmp 29) rfl w2.heap.size zr rfl rfl 26 zr (heap_alloc_new w2 (.cells zr 26)) sz26 rfl zr_one ?_))
  go_ret
  exact ⟨rfl, below_setRow (HB.out.alloc HB.out.size _) HB.out.size _⟩

theorem Sl_new3 (w : World) : Sl (w.alloc (.cells #[.int .u8 2, .int .u8 8, .int .u8 9] 5)) (some ⟨w.heap.size, 0, none⟩) [2, 8, 9] :=
  Sl_own (heap_alloc_new w _) (by simp [bc])
theorem own_h6 (w : World) (V : Int) (n : Nat) : (w.alloc (.cells (h6 V n).toArray 5)).ownsRow w.heap.size 5 1 (.slice (some ⟨w.heap.size, 0, none⟩) 6 6) 6 (h6 V n) :=
  ⟨rfl, .inr ⟨w.heap.size, 6, _, rfl, Nat.le_refl _, heap_alloc_new w _, Nat.le_refl _, by decide, rfl, rfl⟩⟩
theorem below_own {B : Nat} {w w1 w2 : World} {v : Value} {n : Nat} {xs : List Value} (h : Below B w w1) (ho : w1.ownsRow B 5 1 v n xs) (hg : w1.grownBy w2 v.ownBlock) (hB : B ≤ w1.heap.size) : Below B w w2 := h.grown hg hB (fun k hk => (ho.lt k hk).1)
theorem others_b2 {w w1 w2 : World} {V : Int} {D : List UInt8} {v1 : Value} {g2 cp2 : Nat} (h6b : h6 V D.length = bc (hb V D.length)) (ho1 : w1.ownsRow w.heap.size 5 1 v1 (6 + D.length) (h6 V D.length ++ bc D)) (hg1 : (w.alloc (.cells (h6 V D.length).toArray 5)).grownBy w1 (Value.slice (some ⟨w.heap.size, 0, none⟩) 6 6).ownBlock)
    (ho2 : w2.ownsRow w.heap.size 5 1 (.slice (some ⟨g2, 0, none⟩) (6 + D.length + 3) cp2) (6 + D.length + 3) (h6 V D.length ++ bc D ++ bc [2, 8, 9])) (hg2 : (w1.alloc (.cells #[.int .u8 2, .int .u8 8, .int .u8 9] 5)).grownBy w2 v1.ownBlock) :
    Below w.heap.size w w2 ∧ Sl w2 (some ⟨g2, 0, none⟩) (hb V D.length ++ D ++ [2, 8, 9]) ∧ (hb V D.length ++ D ++ [2, 8, 9]).length = 6 + D.length + 3 := by
  have hB1 : Below w.heap.size w w1 := ((Below.refl w.heap.size w).alloc (Nat.le_refl _) _).grown hg1 (by simp) (fun k hk => by simp [Value.ownBlock] at hk; omega)
  have hB2 : Below w.heap.size w w2 := (hB1.alloc hB1.size _).grown hg2 (by have := hB1.size; simp; omega) (fun k hk => (ho1.lt k hk).1)
  have hlen : (hb V D.length ++ D ++ [2, 8, 9]).length = 6 + D.length + 3 := by simp [hb]; omega
  rw [h6b, ← bc_append, ← bc_append] at ho2
  obtain ⟨g, cp, cur, he, q1, q2, q3, q4, q5, q6⟩ := own_shape ho2 (by omega)
  simp only [Value.slice.injEq, Option.some.injEq, Addr.mk.injEq, true_and, and_true] at he
  obtain ⟨rfl, rfl⟩ := he
  exact ⟨hB2, Sl_own q2 (by rw [hlen]; exact q6), hlen⟩
theorem others_b4 {w2 w3 w4 : World} {BB X : List UInt8} {v3 : Value} {g4 cp4 n : Nat} (hn : BB.length = n) (ho3 : w3.ownsRow w2.heap.size 5 1 v3 (0 + n) ([] ++ bc BB)) (hg3 : (w2.alloc (.cells #[] 5)).grownBy w3 (Value.slice (some ⟨w2.heap.size, 0, none⟩) 0 0).ownBlock)
    (ho4 : w4.ownsRow w2.heap.size 5 1 (.slice (some ⟨g4, 0, none⟩) (n + X.length) cp4) (0 + n + X.length) ([] ++ bc BB ++ bc X)) (hg4 : w3.grownBy w4 v3.ownBlock) (h0 : 0 < n) :
    Below w2.heap.size w2 w4 ∧ Sl w4 (some ⟨g4, 0, none⟩) (BB ++ X) ∧ n + X.length ≤ cp4 ∧ cp4 ≤ 9223372036854775807 ∧ w2.heap.size ≤ g4 := by
  have hB3 : Below w2.heap.size w2 w3 := ((Below.refl w2.heap.size w2).alloc (Nat.le_refl _) _).grown hg3 (by simp) (fun k hk => by simp [Value.ownBlock] at hk; omega)
  have hB4 : Below w2.heap.size w2 w4 := hB3.grown hg4 hB3.size (fun k hk => (ho3.lt k hk).1)
  rw [List.nil_append, ← bc_append, Nat.zero_add] at ho4
  obtain ⟨g, cp, cur, he, q1, q2, q3, q4, q5, q6⟩ := own_shape ho4 (by omega)
  simp only [Value.slice.injEq, Option.some.injEq, Addr.mk.injEq, true_and, and_true] at he
  obtain ⟨rfl, rfl⟩ := he
  exact ⟨hB4, Sl_own q2 (by rw [List.length_append, hn]; exact q6), q3, q4, q1⟩
theorem By_of {B n : Nat} {w : World} {v : Value} {X : List UInt8} (h : w.ownsRow B 5 1 v n (bc X)) (hn : X.length = n) : By B w v X := by unfold By; rw [hn]; exact h

set_option maxRecDepth 10000 in
set_option maxHeartbeats 1000000 in
theorem others_in (v : Int) (ao ro : Option Addr) (D X : List UInt8) (c c' : Nat) (w : World) (V : Int) (h : bits .and .i64 v 4294967295 = V) (h0 : V ≠ 0) (h1 : V ≠ 1) (hV0 : 0 ≤ V) (hV1 : V ≤ 4294967295) (hn : D.length ≤ 20)
    (ht : Tb w) (hD : Sl w ao D) (hX : Sl w ro X) (hDn : ao = none → D.length = 0 ∧ c = 0) (hXn : ro = none → X.length = 0 ∧ c' = 0) (hXl : X.length ≤ 140737488351232)
    (RA : ∀ (ao : Option Addr) (l : List UInt8) (cap : Nat) (ids : Int) (w : World) (hs : Sl w ao l) (ht : Tb w) (hl : l.length ≤ 140737488355327) (hc' : l.length ≤ cap) (hcm : cap ≤ 9223372036854775807)
      (hv : num (sub l 1 4) = 0 → l.length ≤ 70368744177664) (b off : Nat) (hao : 0 < l.length → ao = some ⟨b, off, none⟩),
      Calls Tryd.prog 16 #[.slice ao l.length cap, .int .i64 ids] w fun e w' => ∃ cs a E, e = .returned (.tuple #[.agg cs, .int .i64 a, .int .i64 E]) ∧ ReadP w w' l ids cs a E) :
    Calls Tryd.prog 7 #[.int .i64 v, .slice ao D.length c, .slice ro X.length c'] w fun e w' => e = .returned (.bool true) ∧ Below w.heap.size w w' := by
  obtain ⟨i0, hi, hz0, hz1, hz2⟩ := info_parts info5
  have q0 : (V == 0) = false := by simp [h0]
  have q1 : (V == 1) = false := by simp [h1]
  have HRA := mkHid RA
  have HT := mkHid ht
  have HD := mkHid hD
  have HX := mkHid hX
  have HDn := mkHid hDn
  have HXn := mkHid hXn
  clear RA ht hD hX hDn hXn
  have H6 := mkHid (h6_bc (n := D.length) hV0 hV1 hn)
  go_enter Tryd.func7, Tryd.ntmps7
  go_wp2_with (first
    | (at_builtin; refine wpList_append_bytes rfl (.tmp 49) (.tmp 50) rfl w.heap.size i0 Tryd.underlying22 hi hz0 hz1 hz2 (.slice (some ⟨w.heap.size, 0, none⟩) 6 6) 6 (h6 V D.length) rfl (own_h6 w V D.length) ao D.length c D rfl rfl HDn.out (Sl_alloc HD.out _) (by omega) (by simp) ?_; intro v1 w1 hown hgrow; have HO1 := mkHid hown; have HG1 : Hid ((w.alloc (.cells (h6 V D.length).toArray 5)).grownBy w1 (Value.slice (some ⟨w.heap.size, 0, none⟩) 6 6).ownBlock) := hgrow; clear hown hgrow)
    | (at_builtin; refine wpList_append_bytes rfl (.tmp 51) (.tmp 52) rfl w.heap.size i0 Tryd.underlying22 hi hz0 hz1 hz2 v1 (6 + D.length) (h6 V D.length ++ bc D) rfl (HO1.out.alloc _) (some ⟨w1.heap.size, 0, none⟩) 3 3 [2, 8, 9] rfl rfl (fun h => by cases h) (Sl_new3 w1) (by omega) (by have := HG1.out.size; simp at this ⊢; omega) ?_; intro v2 w2 hown hgrow; obtain ⟨g2, cp2, cur2, hv2, _⟩ := own_shape hown (by omega); subst hv2; have HE2 := mkHid (others_b2 H6.out HO1.out HG1.out hown hgrow); clear hown hgrow HO1 HG1; obtain ⟨BB, hBB⟩ : ∃ BB, hb V D.length ++ D ++ [2, 8, 9] = BB := ⟨_, rfl⟩; rw [hBB] at HE2; have HBB := mkHid hBB; clear hBB)
    | (at_builtin; refine wpList_append_bytes rfl (.tmp 55) (.tmp 56) rfl w2.heap.size i0 Tryd.underlying22 hi hz0 hz1 hz2 _ 0 [] rfl (World.ownsRow_made w2 #[] 0 (Nat.le_refl _) (by decide) rfl) (some ⟨g2, 0, none⟩) (6 + D.length + 3) cp2 BB rfl HE2.out.2.2 (fun h => by cases h) (Sl_alloc HE2.out.2.1 _) (by omega) (by simp) ?_; intro v3 w3 hown hgrow; have HO3 := mkHid hown; have HG3 : Hid ((w2.alloc (.cells #[] 5)).grownBy w3 (Value.slice (some ⟨w2.heap.size, 0, none⟩) 0 0).ownBlock) := hgrow; clear hown hgrow; have HB3 : Hid (Below w2.heap.size w2 w3) := ((Below.refl w2.heap.size w2).alloc (Nat.le_refl _) _).grown HG3.out (by simp) (fun k hk => by simp [Value.ownBlock] at hk; omega))
    | (at_builtin; refine wpList_append_bytes rfl (.tmp 57) (.tmp 58) rfl w2.heap.size i0 Tryd.underlying22 hi hz0 hz1 hz2 v3 (0 + (6 + D.length + 3)) ([] ++ bc BB) rfl HO3.out ro X.length c' X rfl rfl HXn.out (Sl_below (Sl_below HX.out HE2.out.1) HB3.out) (by omega) HB3.out.size ?_; intro v4 w4 hown hgrow; obtain ⟨g4, cp4, cur4, hv4, _⟩ := own_shape hown (by omega); rw [Nat.zero_add] at hv4; subst hv4; have HE4 := mkHid (others_b4 HE2.out.2.2 HO3.out HG3.out hown hgrow (by omega)); clear hown hgrow HO3 HG3))
  obtain ⟨l, hl⟩ : ∃ l, l = BB ++ X := ⟨_, rfl⟩
  have hl2 : l = hb V D.length ++ (D ++ (2 :: 8 :: 9 :: X)) := by rw [hl, ← HBB.out]; simp
  obtain ⟨p1, p2, p3, p4, p5⟩ := others_parse h0 h1 hV0 hV1 hn l hl2
  have hB24 : Below w.heap.size w w4 := HE2.out.1.trans (HE4.out.1.mono HE2.out.1.size)
  have R := HRA.out (some ⟨g4, 0, none⟩) l cp4 0 w4 (by rw [hl]; exact HE4.out.2.1) (Tb_below HT.out hB24 (Tb_pos HT.out)) (by omega) (by have := HE4.out.2.2.1; omega) HE4.out.2.2.2.1 (fun h => absurd h p5) g4 0 (fun _ => rfl)
  rw [show l.length = 6 + D.length + 3 + X.length by omega] at R
  refine R.mono ?_
  rintro e w5 ⟨cs, a, E, rfl, hB5, hres⟩
  rcases hres with ⟨_, hp, _⟩ | ⟨rfl, p, dv, sv, tv, lv, hp, hcs, ha, hd, hs, ht', hlv⟩
  · rw [p1] at hp; cases hp
  rw [p1] at hp
  simp only [Option.some.injEq] at hp
  subst hp
  simp only at hcs ha hd hs ht' hlv
  rw [p2] at hd
  rw [p3] at hs
  obtain ⟨oa, cd, rfl, dn, dsl, _⟩ := hd.parts
  obtain ⟨ob, cb, rfl, bn, bsl, _⟩ := hs.parts
  obtain ⟨oc, ct, rfl, _⟩ := ht'.parts
  have hlv' : lv = .slice none 0 0 := by
    rcases hlv with ⟨_, h⟩ | ⟨h, _⟩
    · exact h
    · exact absurd rfl h
  subst hlv'
  have HZ : Hid (cs.size = 24) := by rw [hcs]; exact hc_size bc_zs
  have HONE : Hid (cs.all (·.oneCell') = true) := by
    rw [hcs]
    have hq : (hc 6 V (.slice oa D.length cd) (.slice ob [(8 : UInt8), 9].length cb) (.slice oc (piece l none).length ct) 0 false (.slice none 0 0) (bc zs)).all (·.oneCell') = true := rfl
    show (hc 6 V (.slice oa D.length cd) (.slice ob [(8 : UInt8), 9].length cb) (.slice oc (piece l none).length ct) 0 false (.slice none 0 0) (bc zs)).toArray.all (·.oneCell') = true
    rw [List.all_toArray]
    exact hq
  have hB6 : Below w5.heap.size w5 ((w5.alloc (.cells zr 26)).setRow w5.heap.size cs) := below_setRow ((Below.refl _ _).alloc (Nat.le_refl _) _) (Nat.le_refl _) _
  have hrow : ((w5.alloc (.cells zr 26)).setRow w5.heap.size cs).heap[w5.heap.size]? = some (.cells cs 26 (0, 0)) := setRow_heap _ _ _ _ 26 _ (heap_alloc_new w5 _)
  have hB06 : Below w.heap.size w ((w5.alloc (.cells zr 26)).setRow w5.heap.size cs) := (hB24.trans (hB5.mono hB24.size)).trans (hB6.mono (by have := hB24.size; have := hB5.size; omega))
  have HC : Hid (∀ W6, W6 = (w5.alloc (.cells zr 26)).setRow w5.heap.size cs → (W6.cell? ⟨w5.heap.size, 0, none⟩ = some (.int .i64 6) ∧ W6.cell? ⟨w5.heap.size, 1, none⟩ = some (.int .i64 V) ∧ W6.cell? ⟨w5.heap.size, 2, none⟩ = some (.slice oa D.length cd) ∧ W6.cell? ⟨w5.heap.size, 3, none⟩ = some (.slice ob 2 cb)) ∧
      (convert 22 9 (.slice oa D.length cd)).run Tryd.prog W6 = .ok (.string ⟨D.toArray⟩) W6 ∧ (convert 22 9 (.slice ob 2 cb)).run Tryd.prog W6 = .ok (.string ⟨#[8, 9]⟩) W6 ∧ (convert 22 9 (.slice ao D.length c)).run Tryd.prog W6 = .ok (.string ⟨D.toArray⟩) W6 ∧ Below w.heap.size w W6) := by
    intro W6 hW
    subst hW
    refine ⟨⟨?_, ?_, ?_, ?_⟩, str_any (Sl_below dsl hB6) rfl dn, str_any (Sl_below bsl hB6) rfl bn, str_any (Sl_below HD.out hB06) rfl HDn.out, hB06⟩ <;> (unfold World.cell?; rw [hrow, hcs]; rfl)
  have ha' : a = ((6 + D.length + 3 : Nat) : Int) := by rw [ha]; omega
  subst ha'
  clear hcs hB5 hB6 hrow hB06 hB24 R p1 p2 p3 p4 p5 hl hl2 hd hs ht' dn dsl bn bsl ha hlv
  go_wp2_with ((refine wpList_store_row rfl 26 (.tmp 11) (.tmp 61) rfl w5.heap.size cs rfl rfl 26 zr (heap_alloc_new w5 (.cells zr 26)) (by rw [HZ.out]; exact sz26) (by rw [HZ.out]; rfl) HONE.out ?_; generalize hWW : World.setRow (World.alloc w5 _) w5.heap.size cs = W6; obtain ⟨⟨c0, c1, c2, c3⟩, cx, cy, cz, hbel⟩ := HC.out W6 hWW.symm; have HBEL := mkHid hbel; clear hWW hbel))
  go_ret
  exact ⟨by simp, HBEL.out⟩
end Go.Proofs.YtlllejgpmdeeiaaDoor
