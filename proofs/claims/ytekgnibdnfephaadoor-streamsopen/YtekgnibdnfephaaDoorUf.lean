/- streams: Told. -/
import Derived.Test.YtekgnibdnfephaaDoorUb
import Derived.Maps.RangeWalk
namespace Go.Proofs.YtekgnibdnfephaaDoor
open Go.RowKit Go.Maps
set_option linter.unusedVariables false
set_option maxRecDepth 100000

theorem bel_grown {w W Z : World} {r : Nat} (h : Below w.heap.size w W) (hr : w.heap.size ≤ r) (hg : W.grownBy Z (some r)) : Below w.heap.size w Z :=
  ⟨hg.os.trans h.os, hg.tape.trans h.tape, hg.output.trans h.output, Nat.le_trans h.size hg.size, fun b hb => (hg.block b (Nat.lt_of_lt_of_le hb h.size) (by simp; omega)).trans (h.block b hb)⟩
theorem bel_grown0 {w Z : World} (hg : w.grownBy Z none) : Below w.heap.size w Z :=
  ⟨hg.os, hg.tape, hg.output, hg.size, fun b hb => hg.block b hb (by simp)⟩
set_option maxHeartbeats 2000000 in
theorem told_all {srv : Bool} {x y : Lm} {k : Bks} {st : Tst} {w : World} (h : Tb srv x y k st w) {n : Nat} {G : Int → Option Value} (hs : Sx w k.sb n G) (hok : ∀ a v, G a = some v → Ok w v) :
    Calls Tryd.prog 8 #[.pointer (some ⟨k.T, 0, none⟩)] w fun e w' => (∃ a b c, e = .returned (.tuple #[.int .i64 a, .int .i64 b, .int .i64 c, .int .i64 (n : Int)])) ∧ Below w.heap.size w w' := by
  have HN : Hid _ := tnone_c h
  have HT : Hid (Tb srv x y k st w) := h
  have HS : Hid (Sx w k.sb n G) := hs
  obtain ⟨D, hown, htidy, hsize, hat⟩ := hs
  have HAT : Hid (∀ a : Int, wfI a → ∀ z, D.atKey (.int .i64 a) z = (G a).elim z .held) := hat
  have HOK : Hid (∀ a v, G a = some v → Ok w v) := hok
  have c13 : w.cell? ⟨k.T, 13, none⟩ = some (.map (some k.sb)) := h.tab.cell 13
  clear h hok hat htidy hsize
  go_enter Tryd.func8, Tryd.ntmps8
  go_wp2_with fail
  refine Calls.mono HN.out ?_
  rintro e w' ⟨rfl, hw⟩
  subst w'
  go_wp2_with (first
    | (at_range; refine wpList_range_own _ rfl _ 50 rfl 3 72 law3 Tryd.underlying50 _ k.sb n D rfl hown ?_; intro w0 hrg0 hg0 hs0)
    | go_in)
  go_frame
  clear c13
  have hb0 := bel_grown0 hg0
  go_loopw [2] (fun v wr => ∃ (hd : Int) (left : Lit → Bool) (cnt : Nat), v = .int .i64 hd ∧ wr.ranges Tryd.prog 3 Rv k.sb w.heap.size n D left cnt ∧ Below w.heap.size w wr)
    (fun _ wr => wr.rangeLeft k.sb w.heap.size)
  case atStart => exact ⟨0, _, _, rfl, hrg0, hb0⟩
  case round =>
    clear hrg0 hg0 hs0 hb0
    obtain ⟨hd, left, cnt, rfl, hrg, hbw⟩ := hrel
    go_wp2_with (first
      | (at_next; refine wpList_next_ranges (mkK := Value.int .i64) (mkV := fun v => v) _ rfl _ rfl 3 law3 Rv (fun key kl hk => (by obtain ⟨a, ha, _⟩ := keyOf_int_inv Tryd.underlying3 hk; exact ⟨a, ha⟩)) (fun v y _ => ⟨v, rfl⟩) k.sb w.heap.size n D _ _ rfl hrg ?_ ?_)
      | go_in)
    · intro _ _
      have ht := HT.out.go hbw
      have hsx : Sx wr k.sb n G := Sx.kept HS.out (hbw.block k.sb (Sx.lt HS.out))
      have c16 : wr.cell? ⟨k.T, 16, none⟩ = some (.pointer (some ⟨k.t, 0, none⟩)) := ht.tab.cell 16
      have hto := ttold_c k.t st.t wr ht.ht
      have d13 : wr.drew.cell? ⟨k.T, 13, none⟩ = some (.map (some k.sb)) := ht.tab.cell 13
      have HTO : Hid _ := hto
      have HB : Hid (Below w.heap.size w wr.drew) := bel_trans hbw (bel_drew wr)
      have hlen : Sx wr.drew k.sb n G := hsx.kept rfl
      have HL : Hid (∀ ty, _) := fun ty => hlen.len ty
      clear hto hrg hown ht hsx hlen hbw
      go_wp2_with fail
      refine Calls.mono HTO.out ?_
      rintro e w' ⟨rfl, hw⟩
      subst w'
      clear c16
      have hl3 := HL.out 3
      go_wp2
      refine bodyPost_ret (results_tmp4 rfl _ _ _) rfl ?_
      exact ⟨⟨_, _, _, rfl⟩, HB.out⟩
    · intro a c kl y1 y2 w1 cnt1 hkey hlk hy1 hy2 hat1 hrg1 hlt hg1 hs1 hen
      subst hy1
      obtain ⟨a', ha', rfl, hwf⟩ := keyOf_int_inv Tryd.underlying3 hkey
      obtain rfl : a = a' := by injection ha'
      have hb1 := bel_grown hbw (Nat.le_refl _) hg1
      have hG : G a = some c := elim_held fun z => by rw [← HAT.out a hwf z]; exact hat1 z
      obtain ⟨S, v, cs, hc, hrs, h11, hnb⟩ := (HOK.out a c hG).bel hb1
      have c11 : w1.cell? ⟨S, 11, none⟩ = some v := (hrs.cell 11).trans h11
      have hhe := held_c w1 v hnb
      have HHE : Hid _ := hhe
      have hle := hrg.left_eq
      subst hc
      clear hkey hlk hat1 hwf hG hrs h11 hnb hhe ha' hrg hown hbw hg1 hs1
      go_wp2_with fail
      refine Calls.mono HHE.out ?_
      rintro e w' ⟨⟨h2, rfl⟩, hw⟩
      subst w'
      go_wp2_with fail
      go_roundw
      case rel => exact ⟨_, _, cnt1, rfl, hrg1, hb1⟩
      case measure => rw [hrg1.left_eq, hle]; exact hlt
end Go.Proofs.YtekgnibdnfephaaDoor
