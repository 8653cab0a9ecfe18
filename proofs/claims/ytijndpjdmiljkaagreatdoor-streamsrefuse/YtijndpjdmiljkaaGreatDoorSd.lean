/- streams: begin: a stream as it lies when it begins. -/
import Derived.Test.YtijndpjdmiljkaaGreatDoorSc
namespace Go.Proofs.YtijndpjdmiljkaaGreatDoor
open Go.RowKit Go.Maps
set_option linter.unusedVariables false

/-- A stream on the way of being made. -/
structure Bg (srv : Bool) (x y : Lm) (k : Bks) (st : Tst) (w : World) (S : Nat) (cs : Array Value) (X : World) : Prop where
  tw : Tb srv x y k st w
  sc : Rt 128 cs X S
  bel : Below w.heap.size w X
  lo : w.heap.size ≤ S
section
variable {srv : Bool} {x y : Lm} {k : Bks} {st : Tst} {w : World} {S : Nat} {cs : Array Value} {X : World}
theorem Bg.tb (h : Bg srv x y k st w S cs X) : Tb srv x y k st X := h.tw.go h.bel
theorem Bg.go (h : Bg srv x y k st w S cs X) {Z : World} (hb : Below X.heap.size X Z) : Bg srv x y k st w S cs Z := ⟨h.tw, rt_bel h.sc hb, bel_trans h.bel hb, h.lo⟩
theorem Bg.set (h : Bg srv x y k st w S cs X) (j : Nat) (v : Value) : Bg srv x y k st w S (cs.setIfInBounds j v) (X.setCell ⟨S, j, none⟩ v) :=
  ⟨h.tw, h.sc.set j v, bel_setc h.sc j v h.bel h.lo, h.lo⟩
/-- An inbox lies behind what was there. -/
def In0 (w W : World) (vi : Value) (win : Int) : Prop := ∃ ib mb, vi = .pointer (some ⟨ib, 0, none⟩) ∧ Ib W ib mb 0 (fun _ => none) 0 0 0 win win 0 false ∧ w.heap.size ≤ ib ∧ w.heap.size ≤ mb
theorem In0.keep {w W Z : World} {vi : Value} {win : Int} (h : In0 w W vi win) {S : Nat} {cs : Array Value} (hs : Rt 128 cs W S) (j : Nat) (v : Value) (hz : Z = W.setCell ⟨S, j, none⟩ v) : In0 w Z vi win := by
  subst hz
  obtain ⟨ib, mb, h1, h2, h3, h4⟩ := h
  have h' : W.heap[S]? = _ := hs
  have n1 : ib ≠ S := by
    rintro rfl
    rw [h2.1] at h'
    simp at h'
  have n2 : mb ≠ S := by
    rintro rfl
    obtain ⟨_, D, ⟨es, ck, h5, _⟩, _⟩ := h2
    rw [h5] at h'
    simp at h'
  exact ⟨ib, mb, h1, ⟨(heap_set hs j v n1).trans h2.1, h2.2.kept (heap_set hs j v n2)⟩, h3, h4⟩
theorem bel_of_chg {w W : World} (h : Chg (fun _ => False) w W) : Below w.heap.size w W := ⟨h.1, h.2.1, h.2.2.1, h.2.2.2.1, fun k hk => h.2.2.2.2 k hk (fun h => h)⟩
end
set_option maxRecDepth 10000 in
set_option maxHeartbeats 4000000 in
theorem begin_pu {srv : Bool} {x y : Lm} {k : Bks} {st : Tst} {w : World} (h : Tb srv x y k st w) (hx : x.le ownM = true) (hy : y.le peerM = true) (p : Nat) (s : Bool) (hp : p < 1152921504606846976) (hq : (s == srv) = false) :
    Calls Tryz.prog 51 #[.pointer (some ⟨k.T, 0, none⟩), .int .i64 (sid p s true)] w fun e w' => ∃ S vo vg vi, e = .returned (.pointer (some ⟨S, 0, none⟩)) ∧ Bg srv x y k st w S (scs (sid p s true) vo vg true vi (x.first false true) (x.first false true)).toArray w' ∧ In0 w w' vi (x.first false true) := by
  obtain ⟨⟨xd0, xd1⟩, ⟨xl0, xl1⟩, ⟨xr0, xr1⟩, ⟨xu0, xu1⟩, _, _⟩ := le_ok hx
  obtain ⟨⟨yd0, yd1⟩, ⟨yl0, yl1⟩, ⟨yr0, yr1⟩, ⟨yu0, yu1⟩, _, _⟩ := le_ok hy
  simp only [ownM] at xd1 xl1 xr1 xu1
  simp only [peerM] at yd1 yl1 yr1 yu1
  have HM : Hid (∀ W, Tb srv x y k st W → _) := fun W (hW : Tb srv x y k st W) => mine_c hW p s true hp
  have HU : Hid (∀ W, _) := fun W => isUni_c p s true W hp
  have HR : Hid (∀ W, Tb srv x y k st W → _) := fun W (hW : Tb srv x y k st W) => reads_c hW p s true hp
  have HW : Hid (∀ W, Tb srv x y k st W → _) := fun W (hW : Tb srv x y k st W) => writes_c hW p s true hp
  have HG : Hid (∀ W, _) := fun W => newg_c (y.first true true) W (may_ok (by simp [Lm.first]; omega) (by simp [Lm.first]; omega))
  have HI : Hid (∀ W, _) := fun W => new_c (x.first false true) W (by simp [Lm.first]; omega) (by simp [Lm.first]; omega)
  rw [hq] at HM HR HW
  have HT : Hid _ := h
  clear xd0 xd1 xl0 xl1 xr0 xr1 xu0 xu1 yd0 yd1 yl0 yl1 yr0 yr1 yu0 yu1 hx hy hq h
  generalize sid p s true = id at *
  go_enter Tryz.func51, Tryz.ntmps51
  go_wp2_with fail
  refine Calls.mono (HM.out _ HT.out) ?_
  rintro e w' ⟨rfl, hw⟩
  subst w'
  go_wp2_with fail
  refine Calls.mono (HU.out _) ?_
  rintro e w' ⟨rfl, hw⟩
  subst w'
  go_wp2_with fail
  refine Calls.mono (HW.out _ HT.out) ?_
  rintro e w' ⟨rfl, hw⟩
  subst w'
  go_upto_region 3 with fail
  have HBX : Hid (Bg srv x y k st w w.heap.size (scs id (.pointer none) (.pointer none) true (.pointer none) 0 0).toArray (w.alloc (.cells #[.int .i64 id, .bool false, .bool false, .bool false, .int .i64 0, .pointer none, .pointer none, .bool false, .bool false, .bool false, .bool true, .pointer none, .int .i64 0, .int .i64 0, .int .i64 0, .bool false, .bool false] 128))) := ⟨HT.out, heap_alloc_new _ _, bel1 _ _, Nat.le_refl _⟩
  generalize w.alloc (.cells #[.int .i64 id, .bool false, .bool false, .bool false, .int .i64 0, .pointer none, .pointer none, .bool false, .bool false, .bool false, .bool true, .pointer none, .int .i64 0, .int .i64 0, .int .i64 0, .bool false, .bool false] 128) = X at *
  obtain ⟨S, hS⟩ : ∃ S, w.heap.size = S := ⟨_, rfl⟩
  rw [hS] at HBX
  rw [hS]
  clear hS
  go_wp2_with fail
  refine Calls.mono (HW.out _ HBX.out.tb) ?_
  rintro e w' ⟨rfl, hw⟩
  subst w'
  go_wp2_with fail
  refine Calls.mono (HR.out _ HBX.out.tb) ?_
  rintro e w' ⟨rfl, hw⟩
  subst w'
  go_wp2_with (refine wpList_load_mid rfl 23 (.tmp 51) rfl k.T 1 rfl x.v _ (Tb.own HBX.out.tb) u23 rfl i23 ?_)
  refine Calls.mono (first_c x false true _) ?_
  rintro e Z1 ⟨rfl, hbx⟩
  have HC1 : Hid _ := HBX.out.go hbx
  clear HBX hbx
  have cS : Z1.cell? ⟨S, 12, none⟩ = some (.int .i64 0) := HC1.out.sc.cell 12
  have fS : Z1.frozen? ⟨S, 12, none⟩ = false := HC1.out.sc.frozen 12
  go_upto_region 8 with fail
  clear cS fS
  have HS2 : Hid (Bg srv x y k st w S (scs id (.pointer none) (.pointer none) true (.pointer none) (x.first false true) 0).toArray (Z1.setCell ⟨S, 12, none⟩ (.int .i64 (x.first false true)))) := HC1.out.set 12 (.int .i64 (x.first false true))
  generalize Z1.setCell ⟨S, 12, none⟩ (.int .i64 (x.first false true)) = V2 at *
  clear HC1
  have c12 : V2.cell? ⟨S, 12, none⟩ = some (.int .i64 (x.first false true)) := HS2.out.sc.cell 12
  have cS : V2.cell? ⟨S, 13, none⟩ = some (.int .i64 0) := HS2.out.sc.cell 13
  have fS : V2.frozen? ⟨S, 13, none⟩ = false := HS2.out.sc.frozen 13
  go_upto_region 9 with fail
  clear cS fS c12
  have HS3 : Hid (Bg srv x y k st w S (scs id (.pointer none) (.pointer none) true (.pointer none) (x.first false true) (x.first false true)).toArray (V2.setCell ⟨S, 13, none⟩ (.int .i64 (x.first false true)))) := HS2.out.set 13 (.int .i64 (x.first false true))
  generalize V2.setCell ⟨S, 13, none⟩ (.int .i64 (x.first false true)) = V3 at *
  clear HS2
  have c12 : V3.cell? ⟨S, 12, none⟩ = some (.int .i64 (x.first false true)) := HS3.out.sc.cell 12
  go_wp2_with fail
  refine Calls.mono (HI.out _) ?_
  rintro e X9 ⟨he, hib, hch⟩
  have hbx := bel_of_chg hch
  have HB9 : Hid _ := HS3.out.go hbx
  have hlo : w.heap.size ≤ V3.heap.size := HS3.out.bel.size
  obtain ⟨vi, hvi⟩ : ∃ v : Value, v = .pointer (some ⟨V3.heap.size + 1, 0, none⟩) := ⟨_, rfl⟩
  have HIN : Hid (In0 w X9 vi (x.first false true)) := ⟨_, _, hvi, hib, by omega, hlo⟩
  rw [← hvi] at he
  subst he
  have hvp : ∃ ib : Nat, vi = .pointer (some ⟨ib, 0, none⟩) := ⟨_, hvi⟩
  clear hvi hib hch hbx c12 hlo HS3
  obtain ⟨ib, rfl⟩ := hvp
  have cS : X9.cell? ⟨S, 11, none⟩ = some (.pointer none) := HB9.out.sc.cell 11
  have fS : X9.frozen? ⟨S, 11, none⟩ = false := HB9.out.sc.frozen 11
  go_upto_region 10 with fail
  clear cS fS
  have HIN2 : Hid (In0 w (X9.setCell ⟨S, 11, none⟩ (.pointer (some ⟨ib, 0, none⟩))) (.pointer (some ⟨ib, 0, none⟩)) (x.first false true)) := HIN.out.keep HB9.out.sc 11 _ rfl
  clear HIN
  have HS4 : Hid (Bg srv x y k st w S (scs id (.pointer none) (.pointer none) true (.pointer (some ⟨ib, 0, none⟩)) (x.first false true) (x.first false true)).toArray (X9.setCell ⟨S, 11, none⟩ (.pointer (some ⟨ib, 0, none⟩)))) := HB9.out.set 11 (.pointer (some ⟨ib, 0, none⟩))
  generalize X9.setCell ⟨S, 11, none⟩ (.pointer (some ⟨ib, 0, none⟩)) = V4 at *
  clear HB9
  go_wp2
  go_ret
  exact ⟨S, _, _, _, rfl, HS4.out, HIN2.out⟩
set_option maxRecDepth 10000 in
set_option maxHeartbeats 4000000 in
theorem begin_pb {srv : Bool} {x y : Lm} {k : Bks} {st : Tst} {w : World} (h : Tb srv x y k st w) (hx : x.le ownM = true) (hy : y.le peerM = true) (p : Nat) (s : Bool) (hp : p < 1152921504606846976) (hq : (s == srv) = false) :
    Calls Tryz.prog 51 #[.pointer (some ⟨k.T, 0, none⟩), .int .i64 (sid p s false)] w fun e w' => ∃ S vo vg vi, e = .returned (.pointer (some ⟨S, 0, none⟩)) ∧ Bg srv x y k st w S (scs (sid p s false) vo vg false vi (x.first false false) (x.first false false)).toArray w' ∧ In0 w w' vi (x.first false false) := by
  obtain ⟨⟨xd0, xd1⟩, ⟨xl0, xl1⟩, ⟨xr0, xr1⟩, ⟨xu0, xu1⟩, _, _⟩ := le_ok hx
  obtain ⟨⟨yd0, yd1⟩, ⟨yl0, yl1⟩, ⟨yr0, yr1⟩, ⟨yu0, yu1⟩, _, _⟩ := le_ok hy
  simp only [ownM] at xd1 xl1 xr1 xu1
  simp only [peerM] at yd1 yl1 yr1 yu1
  have HM : Hid (∀ W, Tb srv x y k st W → _) := fun W (hW : Tb srv x y k st W) => mine_c hW p s false hp
  have HU : Hid (∀ W, _) := fun W => isUni_c p s false W hp
  have HR : Hid (∀ W, Tb srv x y k st W → _) := fun W (hW : Tb srv x y k st W) => reads_c hW p s false hp
  have HW : Hid (∀ W, Tb srv x y k st W → _) := fun W (hW : Tb srv x y k st W) => writes_c hW p s false hp
  have HG : Hid (∀ W, _) := fun W => newg_c (y.first true false) W (may_ok (by simp [Lm.first]; omega) (by simp [Lm.first]; omega))
  have HI : Hid (∀ W, _) := fun W => new_c (x.first false false) W (by simp [Lm.first]; omega) (by simp [Lm.first]; omega)
  rw [hq] at HM HR HW
  have HT : Hid _ := h
  clear xd0 xd1 xl0 xl1 xr0 xr1 xu0 xu1 yd0 yd1 yl0 yl1 yr0 yr1 yu0 yu1 hx hy hq h
  generalize sid p s false = id at *
  go_enter Tryz.func51, Tryz.ntmps51
  go_wp2_with fail
  refine Calls.mono (HM.out _ HT.out) ?_
  rintro e w' ⟨rfl, hw⟩
  subst w'
  go_wp2_with fail
  refine Calls.mono (HU.out _) ?_
  rintro e w' ⟨rfl, hw⟩
  subst w'
  go_wp2_with fail
  refine Calls.mono (HW.out _ HT.out) ?_
  rintro e w' ⟨rfl, hw⟩
  subst w'
  go_upto_region 3 with fail
  have HBX : Hid (Bg srv x y k st w w.heap.size (scs id (.pointer none) (.pointer none) false (.pointer none) 0 0).toArray (w.alloc (.cells #[.int .i64 id, .bool false, .bool false, .bool false, .int .i64 0, .pointer none, .pointer none, .bool false, .bool false, .bool false, .bool false, .pointer none, .int .i64 0, .int .i64 0, .int .i64 0, .bool false, .bool false] 128))) := ⟨HT.out, heap_alloc_new _ _, bel1 _ _, Nat.le_refl _⟩
  generalize w.alloc (.cells #[.int .i64 id, .bool false, .bool false, .bool false, .int .i64 0, .pointer none, .pointer none, .bool false, .bool false, .bool false, .bool false, .pointer none, .int .i64 0, .int .i64 0, .int .i64 0, .bool false, .bool false] 128) = X at *
  obtain ⟨S, hS⟩ : ∃ S, w.heap.size = S := ⟨_, rfl⟩
  rw [hS] at HBX
  rw [hS]
  clear hS
  go_wp2_with fail
  refine Calls.mono (HW.out _ HBX.out.tb) ?_
  rintro e w' ⟨rfl, hw⟩
  subst w'
  go_wp2_with fail
  refine Calls.mono (onew_c _) ?_
  rintro e X1 ⟨⟨ob, rfl⟩, hbx⟩
  have HB1 : Hid _ := HBX.out.go hbx
  clear hbx HBX
  have cS : X1.cell? ⟨S, 5, none⟩ = some (.pointer none) := HB1.out.sc.cell 5
  have fS : X1.frozen? ⟨S, 5, none⟩ = false := HB1.out.sc.frozen 5
  go_upto_region 5 with fail
  clear cS fS
  have HS1 : Hid (Bg srv x y k st w S (scs id (.pointer (some ⟨ob, 0, none⟩)) (.pointer none) false (.pointer none) 0 0).toArray (X1.setCell ⟨S, 5, none⟩ (.pointer (some ⟨ob, 0, none⟩)))) := HB1.out.set 5 (.pointer (some ⟨ob, 0, none⟩))
  generalize X1.setCell ⟨S, 5, none⟩ (.pointer (some ⟨ob, 0, none⟩)) = V1 at *
  clear HB1
  go_wp2_with (refine wpList_load_mid rfl 23 (.tmp 34) rfl k.T 7 rfl y.v _ (Tb.peer HS1.out.tb) u23 rfl i23 ?_)
  refine Calls.mono (first_c y true false _) ?_
  rintro e Z2 ⟨rfl, hbx⟩
  have HC2 : Hid _ := HS1.out.go hbx
  clear HS1 hbx
  go_wp2_with fail
  refine Calls.mono (HG.out _) ?_
  rintro e Z3 ⟨he, hg, hbx⟩
  obtain ⟨gb, hgb⟩ : ∃ gb, e = .returned (.tuple #[.pointer (some ⟨gb, 0, none⟩), .int .i64 0]) := ⟨_, he⟩
  subst hgb
  have HC3 : Hid _ := HC2.out.go hbx
  clear HC2 hbx hg he
  have cS : Z3.cell? ⟨S, 6, none⟩ = some (.pointer none) := HC3.out.sc.cell 6
  have fS : Z3.frozen? ⟨S, 6, none⟩ = false := HC3.out.sc.frozen 6
  go_upto_region 6 with fail
  clear cS fS
  have HS4 : Hid (Bg srv x y k st w S (scs id (.pointer (some ⟨ob, 0, none⟩)) (.pointer (some ⟨gb, 0, none⟩)) false (.pointer none) 0 0).toArray (Z3.setCell ⟨S, 6, none⟩ (.pointer (some ⟨gb, 0, none⟩)))) := HC3.out.set 6 (.pointer (some ⟨gb, 0, none⟩))
  generalize Z3.setCell ⟨S, 6, none⟩ (.pointer (some ⟨gb, 0, none⟩)) = V4 at *
  clear HC3
  go_wp2_with fail
  refine Calls.mono (HR.out _ HS4.out.tb) ?_
  rintro e w' ⟨rfl, hw⟩
  subst w'
  go_wp2_with (refine wpList_load_mid rfl 23 (.tmp 51) rfl k.T 1 rfl x.v _ (Tb.own HS4.out.tb) u23 rfl i23 ?_)
  refine Calls.mono (first_c x false false _) ?_
  rintro e Z5 ⟨rfl, hbx⟩
  have HC5 : Hid _ := HS4.out.go hbx
  clear HS4 hbx
  have cS : Z5.cell? ⟨S, 12, none⟩ = some (.int .i64 0) := HC5.out.sc.cell 12
  have fS : Z5.frozen? ⟨S, 12, none⟩ = false := HC5.out.sc.frozen 12
  go_upto_region 8 with fail
  clear cS fS
  have HS6 : Hid (Bg srv x y k st w S (scs id (.pointer (some ⟨ob, 0, none⟩)) (.pointer (some ⟨gb, 0, none⟩)) false (.pointer none) (x.first false false) 0).toArray (Z5.setCell ⟨S, 12, none⟩ (.int .i64 (x.first false false)))) := HC5.out.set 12 (.int .i64 (x.first false false))
  generalize Z5.setCell ⟨S, 12, none⟩ (.int .i64 (x.first false false)) = V6 at *
  clear HC5
  have c12 : V6.cell? ⟨S, 12, none⟩ = some (.int .i64 (x.first false false)) := HS6.out.sc.cell 12
  have cS : V6.cell? ⟨S, 13, none⟩ = some (.int .i64 0) := HS6.out.sc.cell 13
  have fS : V6.frozen? ⟨S, 13, none⟩ = false := HS6.out.sc.frozen 13
  go_upto_region 9 with fail
  clear cS fS c12
  have HS7 : Hid (Bg srv x y k st w S (scs id (.pointer (some ⟨ob, 0, none⟩)) (.pointer (some ⟨gb, 0, none⟩)) false (.pointer none) (x.first false false) (x.first false false)).toArray (V6.setCell ⟨S, 13, none⟩ (.int .i64 (x.first false false)))) := HS6.out.set 13 (.int .i64 (x.first false false))
  generalize V6.setCell ⟨S, 13, none⟩ (.int .i64 (x.first false false)) = V7 at *
  clear HS6
  have c12 : V7.cell? ⟨S, 12, none⟩ = some (.int .i64 (x.first false false)) := HS7.out.sc.cell 12
  go_wp2_with fail
  refine Calls.mono (HI.out _) ?_
  rintro e X9 ⟨he, hib, hch⟩
  have hbx := bel_of_chg hch
  have HB9 : Hid _ := HS7.out.go hbx
  have hlo : w.heap.size ≤ V7.heap.size := HS7.out.bel.size
  obtain ⟨vi, hvi⟩ : ∃ v : Value, v = .pointer (some ⟨V7.heap.size + 1, 0, none⟩) := ⟨_, rfl⟩
  have HIN : Hid (In0 w X9 vi (x.first false false)) := ⟨_, _, hvi, hib, by omega, hlo⟩
  rw [← hvi] at he
  subst he
  have hvp : ∃ ib : Nat, vi = .pointer (some ⟨ib, 0, none⟩) := ⟨_, hvi⟩
  clear hvi hib hch hbx c12 hlo HS7
  obtain ⟨ib, rfl⟩ := hvp
  have cS : X9.cell? ⟨S, 11, none⟩ = some (.pointer none) := HB9.out.sc.cell 11
  have fS : X9.frozen? ⟨S, 11, none⟩ = false := HB9.out.sc.frozen 11
  go_upto_region 10 with fail
  clear cS fS
  have HIN2 : Hid (In0 w (X9.setCell ⟨S, 11, none⟩ (.pointer (some ⟨ib, 0, none⟩))) (.pointer (some ⟨ib, 0, none⟩)) (x.first false false)) := HIN.out.keep HB9.out.sc 11 _ rfl
  clear HIN
  have HS8 : Hid (Bg srv x y k st w S (scs id (.pointer (some ⟨ob, 0, none⟩)) (.pointer (some ⟨gb, 0, none⟩)) false (.pointer (some ⟨ib, 0, none⟩)) (x.first false false) (x.first false false)).toArray (X9.setCell ⟨S, 11, none⟩ (.pointer (some ⟨ib, 0, none⟩)))) := HB9.out.set 11 (.pointer (some ⟨ib, 0, none⟩))
  generalize X9.setCell ⟨S, 11, none⟩ (.pointer (some ⟨ib, 0, none⟩)) = V8 at *
  clear HB9
  go_wp2
  go_ret
  exact ⟨S, _, _, _, rfl, HS8.out, HIN2.out⟩
end Go.Proofs.YtijndpjdmiljkaaGreatDoor
