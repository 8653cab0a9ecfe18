/- What caravellaw01.behind answers where the two answers lie behind the bytes as they must. -/
import Derived.Test.YtkhoohceikjbmaaDoorPutAny
namespace Go.Proofs.YtkhoohceikjbmaaDoor
open Go.ChangeShapes Go.WideShapes Go.ChangeAt Go.RowKit
set_option linter.unusedVariables false

theorem behind_err (ao : Option Addr) (l : List UInt8) (cap : Nat) (E : Int) (w : World) (hE : E ≠ 0) :
    Calls Tryd.prog 9 #[.slice none 0 0, .slice none 0 0, .int .i64 E, .slice ao l.length cap, .slice none 0 0, .int .i64 E] w fun e w' => e = .returned (.bool true) ∧ w' = w := by
  have c0 := str_any (w := w) (ao := none) (l := []) (m := 0) (cap := 0) (fun j hj => absurd hj (by simp)) rfl (fun _ => ⟨rfl, rfl⟩)
  have hb : (E == 0) = false := by simpa using hE
  go_enter Tryd.func9, Tryd.ntmps9
  go_wp2
  go_loop [14] (fun i => i = .int .i64 0) (fun _ => 0)
  case atStart => rfl
  case round =>
    subst hrel
    go_wp2
    go_ret
    exact ⟨by simp, rfl⟩

/-- the world behind some rounds of the loop that turns x's bytes -/
structure Turned (w wr : World) (B gx gy m cx : Nat) (k : Nat) (X : List UInt8) : Prop where
  below : Below B w wr
  other : ∀ b, b ≠ gx → wr.heap[b]? = w.heap[b]?
  row : ∃ cur, wr.heap[gx]? = some (.cells cur 5 (0, 0)) ∧ cur.size = cx ∧ ∀ j (h : j < X.length), k ≤ j → cur[j]? = some (.int .u8 X[j].toNat)

theorem Turned.cell {w wr : World} {B gx gy m cx k : Nat} {X : List UInt8} (h : Turned w wr B gx gy m cx k X) (hk : k < X.length) : wr.cell? ⟨gx, k, none⟩ = some (.int .u8 X[k].toNat) := by
  obtain ⟨cur, hb, _, hc⟩ := h.row
  unfold World.cell?
  rw [hb]
  simpa using hc k hk (Nat.le_refl _)
theorem Turned.frozen {w wr : World} {B gx gy m cx k : Nat} {X : List UInt8} (h : Turned w wr B gx gy m cx k X) : wr.frozen? ⟨gx, k, none⟩ = false := by
  obtain ⟨cur, hb, _, hc⟩ := h.row
  unfold World.frozen?
  rw [hb]
  simp
theorem Turned.set {w wr : World} {B gx gy m cx k : Nat} {X : List UInt8} (h : Turned w wr B gx gy m cx k X) (hB : B ≤ gx) (x : Value) : Turned w (wr.setCell ⟨gx, k, none⟩ x) B gx gy m cx (k + 1) X := by
  obtain ⟨cur, hb, hs, hc⟩ := h.row
  refine ⟨h.below.setCell hB _, fun b hne => ?_, _, heap_setCell_same wr gx k cur 5 x hb, by simp [hs], fun j hj hk => ?_⟩
  · rw [Below.heap_setCell _ _ _ _ hne]; exact h.other b hne
  · rw [Array.getElem?_setIfInBounds, if_neg (by omega)]
    exact hc j hj (by omega)

set_option maxRecDepth 10000 in
theorem behind_ok (ao : Option Addr) (l Wn : List UInt8) (cap gx gy gw m k cx cy cw B : Nat) (w : World) (curx : Array Value) (hs : Sl w ao l) (hnil : ao = none → l.length = 0 ∧ cap = 0)
    (hm : (l ++ Wn).length = m) (hk : Wn.length = k) (hl : m ≤ 9223372036854775000) (hB : B ≤ gx) (hne : gy ≠ gx)
    (hbx : w.heap[gx]? = some (.cells curx 5 (0, 0))) (hcx : curx.size = cx) (hmx : m ≤ cx) (htx : curx.toList.take m = bc (l ++ Wn)) (hy : Sl w (some ⟨gy, 0, none⟩) (l ++ Wn)) (hw : Sl w (some ⟨gw, 0, none⟩) Wn) :
    Calls Tryd.prog 9 #[.slice (some ⟨gx, 0, none⟩) m cx, .slice (some ⟨gy, 0, none⟩) m cy, .int .i64 0, .slice ao l.length cap, .slice (some ⟨gw, 0, none⟩) k cw, .int .i64 0] w fun e w' => e = .returned (.bool true) ∧ Below B w w' := by
  have hx : Sl w (some ⟨gx, 0, none⟩) (l ++ Wn) := Sl_own hbx (by rw [hm]; exact htx)
  have cb := str_any (w := w) (cap := cap) hs rfl hnil
  have cwn := str_any (w := w) (cap := cw) hw hk (fun h => by cases h)
  have cxx := str_any (w := w) (cap := cx) hx hm (fun h => by cases h)
  have hadd : ((⟨l.toArray⟩ : ByteArray) ++ ⟨Wn.toArray⟩) = ⟨(l ++ Wn).toArray⟩ := ByteArray.mk_append_mk l Wn
  have HT0 : Hid (Turned w w B gx gy m cx 0 (l ++ Wn)) := ⟨Below.refl _ _, fun _ _ => rfl, curx, hbx, hcx, fun j hj _ => by
    have h1 : (curx.toList.take m)[j]? = some (.int .u8 (l ++ Wn)[j].toNat) := by rw [htx]; unfold bc; rw [List.getElem?_map, List.getElem?_eq_getElem hj]; rfl
    rw [List.getElem?_take, if_pos (by omega)] at h1
    simpa using h1⟩
  have hsum : l.length + Wn.length ≤ 9223372036854775000 := by rw [List.length_append] at hm; omega
  have HY := mkHid hy
  have HM := mkHid hm
  clear hx hs hnil hbx htx hy hw hm
  go_enter Tryd.func9, Tryd.ntmps9
  go_wp2
  go_loopw [14] (fun i wr => ∃ j : Nat, j ≤ m ∧ i = .int .i64 j ∧ Hid (Turned w wr B gx gy m cx j (l ++ Wn))) (fun i _ => m - (intOf i).toNat)
  case atStart => exact ⟨0, Nat.zero_le _, rfl, HT0⟩
  case round =>
    obtain ⟨j, hj, rfl, HT⟩ := hrel
    clear cb cwn cxx HT0
    by_cases hlt : j < m
    · have hc := HT.out.cell (by rw [HM.out]; exact hlt)
      have hf := HT.out.frozen
      obtain ⟨c, hcc⟩ : ∃ c : Nat, c = ((l ++ Wn)[j]'(by rw [HM.out]; exact hlt)).toNat := ⟨_, rfl⟩
      rw [← hcc] at hc
      clear hcc
      go_wp2
      go_roundw
      case rel => exact ⟨j + 1, by omega, by go_num, HT.out.set hB _⟩
      case measure => simp [intOf]; omega
    · have HYr : Hid (Sl wr (some ⟨gy, 0, none⟩) (l ++ Wn)) := by
        intro i hi
        obtain ⟨b, off, he, hcy⟩ := HY.out i hi
        simp only [Option.some.injEq, Addr.mk.injEq] at he
        obtain ⟨rfl, rfl, _⟩ := he
        exact ⟨_, _, rfl, (World.cell?_of_block (w := w) (w' := wr) (a := ⟨gy, 0 + i, none⟩) (HT.out.other _ hne)).trans hcy⟩
      have cy' := str_any (w := wr) (cap := cy) HYr.out HM.out (fun h => by cases h)
      go_wp2
      go_ret
      exact ⟨by simp, HT.out.below⟩

theorem Res_ok {B : Nat} {w : World} {v : Value} {X : List UInt8} (h : Res B w v 0 X) : ∃ g cp cur, v = .slice (some ⟨g, 0, none⟩) X.length cp ∧ B ≤ g ∧ w.heap[g]? = some (.cells cur 5 (0, 0)) ∧ X.length ≤ cp ∧ cur.size = cp ∧ cur.toList.take X.length = bc X := by
  rcases h with ⟨_, h0, ho⟩ | ⟨h, _⟩
  · obtain ⟨g, cap, cur, he, h1, h2, h3, _, h5, h6⟩ := own_shape ho h0
    exact ⟨g, cap, cur, he, h1, h2, h3, h5, h6⟩
  · exact absurd rfl h
theorem Res_err {B : Nat} {w : World} {v : Value} {E : Int} {X : List UInt8} (hE : E ≠ 0) (h : Res B w v E X) : v = .slice none 0 0 := by
  rcases h with ⟨h, _⟩ | ⟨_, h⟩
  · exact absurd h hE
  · exact h
theorem Res_below {B C : Nat} {w w' : World} {v : Value} {E : Int} {X : List UInt8} (h : Res B w v E X) (hb : Below w.heap.size w w') : Res B w' v E X := by
  rcases h with ⟨h0, h1, h2⟩ | h
  · refine .inl ⟨h0, h1, ?_⟩
    obtain ⟨hl, hc | ⟨g, cap, cur, he, k1, k2, k3⟩⟩ := h2
    · exact ⟨hl, .inl hc⟩
    · exact ⟨hl, .inr ⟨g, cap, cur, he, k1, (hb.block g (lt_block k2)).trans k2, k3⟩⟩
  · exact .inr h

/-- 'behind' says yes. B: below it nothing is turned; C: from there on lies y. -/
theorem behind_any (ao : Option Addr) (l Wn : List UInt8) (cap B C D : Nat) (vx vy vw : Value) (E : Int) (w : World) (hs : Sl w ao l) (hnil : ao = none → l.length = 0 ∧ cap = 0)
    (hl : E = 0 → (l ++ Wn).length ≤ 9223372036854775000) (hx : Res B w vx E (l ++ Wn)) (hy : Res C w vy E (l ++ Wn)) (hw : Res D w vw E Wn) (hsep : ∀ g n c, vx = .slice (some ⟨g, 0, none⟩) n c → g < C) :
    Calls Tryd.prog 9 #[vx, vy, .int .i64 E, .slice ao l.length cap, vw, .int .i64 E] w fun e w' => e = .returned (.bool true) ∧ Below B w w' := by
  by_cases hE : E = 0
  · subst hE
    obtain ⟨gx, cx, curx, rfl, x1, x2, x3, x4, x5⟩ := Res_ok hx
    obtain ⟨gy, cy, cury, rfl, y1, y2, y3, y4, y5⟩ := Res_ok hy
    obtain ⟨gw, cw, curw, rfl, w1, w2, w3, w4, w5⟩ := Res_ok hw
    have := hsep gx _ _ rfl
    exact behind_ok ao l Wn cap gx gy gw _ _ cx cy cw B w curx hs hnil rfl rfl (hl rfl) x1 (by omega) x2 x4 x3 x5 (Sl_own y2 y5) (Sl_own w2 w5)
  · rw [Res_err hE hx, Res_err hE hy, Res_err hE hw]
    exact (behind_err ao l cap E w hE).mono fun e w' h => ⟨h.1, by rw [h.2]; exact Below.refl _ _⟩
end Go.Proofs.YtkhoohceikjbmaaDoor
