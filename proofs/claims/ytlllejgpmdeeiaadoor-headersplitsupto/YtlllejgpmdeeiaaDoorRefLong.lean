/- What caravelref02.Read answers of long headers whose identifiers are not there: contracts. -/
import Derived.Test.YtlllejgpmdeeiaaDoorRefRead
namespace Go.Proofs.YtlllejgpmdeeiaaDoor
open Go.ChangeShapes Go.WideShapes Go.ChangeAt Go.RowKit
set_option linter.unusedVariables false

/-- the two rows of the reference's Read: what it answers, and its header -/
structure RL (w W : World) (cs : Array Value) : Prop where
  below : Below w.heap.size w W
  row0 : W.heap[w.heap.size]? = some (.cells zr 33 (0, 0))
  row1 : W.heap[w.heap.size + 1]? = some (.cells cs 33 (0, 0))
  size : w.heap.size + 2 ≤ W.heap.size
theorem RL.on {w W W' : World} {cs : Array Value} (h : RL w W cs) {B : Nat} (hb : Below B W W') (hB : w.heap.size + 2 ≤ B) : RL w W' cs :=
  ⟨h.below.trans (hb.mono (by omega)), (hb.block _ (by omega)).trans h.row0, (hb.block _ (by omega)).trans h.row1, by have := hb.size; have := h.size; omega⟩
abbrev rlh (k V : Int) (d s lv : Value) : List Value := hc k V d s (.slice none 0 0) 0 false lv (bc zs)
theorem RL.set2 {w W : World} {cs : Array Value} {k V : Int} {d s lv : Value} (h : RL w W cs) (hcs : cs = (rlh k V d s lv).toArray) (x : Value) : RL w (W.setCell ⟨w.heap.size + 1, 2, none⟩ x) (rlh k V x s lv).toArray :=
  ⟨h.below.setCell (p := ⟨w.heap.size + 1, 2, none⟩) (by show w.heap.size ≤ w.heap.size + 1; omega) x, (Below.heap_setCell _ _ _ _ (by show w.heap.size ≠ w.heap.size + 1; omega)).trans h.row0, by rw [heap_setCell_same W (w.heap.size + 1) 2 _ 33 _ h.row1, hcs]; rfl, by simpa using h.size⟩
theorem RL.set3 {w W : World} {cs : Array Value} {k V : Int} {d s lv : Value} (h : RL w W cs) (hcs : cs = (rlh k V d s lv).toArray) (x : Value) : RL w (W.setCell ⟨w.heap.size + 1, 3, none⟩ x) (rlh k V d x lv).toArray :=
  ⟨h.below.setCell (p := ⟨w.heap.size + 1, 3, none⟩) (by show w.heap.size ≤ w.heap.size + 1; omega) x, (Below.heap_setCell _ _ _ _ (by show w.heap.size ≠ w.heap.size + 1; omega)).trans h.row0, by rw [heap_setCell_same W (w.heap.size + 1) 3 _ 33 _ h.row1, hcs]; rfl, by simpa using h.size⟩
theorem RL.cell {w W : World} {cs : Array Value} {k V : Int} {d s lv : Value} (h : RL w W cs) (hcs : cs = (rlh k V d s lv).toArray) : W.cell? ⟨w.heap.size + 1, 0, none⟩ = some (.int .i64 k) ∧ W.cell? ⟨w.heap.size + 1, 2, none⟩ = some d ∧ W.cell? ⟨w.heap.size + 1, 3, none⟩ = some s ∧ W.cell? ⟨w.heap.size + 1, 7, none⟩ = some lv ∧ ∀ j, W.frozen? ⟨w.heap.size + 1, j, none⟩ = false := by
  refine ⟨?_, ?_, ?_, ?_, fun j => ?_⟩
  · unfold World.cell?; rw [h.row1, hcs]; rfl
  · unfold World.cell?; rw [h.row1, hcs]; rfl
  · unfold World.cell?; rw [h.row1, hcs]; rfl
  · unfold World.cell?; rw [h.row1, hcs]; rfl
  · unfold World.frozen?; rw [h.row1]; simp
theorem RL.fin {w W : World} {cs : Array Value} {r : Option PH} {E : Int} (h : RL w W cs) (hE : E ≠ 0) (hr : r = none) : RefP w (W.setRow w.heap.size zr) r zr 0 E :=
  ⟨below_setRow h.below (Nat.le_refl _) _, rfl, zr_one, .inl ⟨hE, hr⟩⟩

set_option maxRecDepth 10000 in
set_option maxHeartbeats 1000000 in
theorem rread_id1 (b off cap : Nat) (l : List UInt8) (ids : Int) (w : World) (hs : Sl w (some ⟨b, off, none⟩) l) (hl : l.length ≤ 140737488355327) (hc' : l.length ≤ cap) (hcm : cap ≤ 9223372036854775807) (h0 : 0 ≤ ids) (h1 : ids ≤ 20) (hf : 128 ≤ fb l) (hn : 5 ≤ l.length) (hid : ¬ iOk l 5) :
    Calls Tryd.prog 30 #[.slice (some ⟨b, off, none⟩) l.length cap, .int .i64 ids] w fun e w' => ∃ cs' a' E, e = .returned (.tuple #[.agg cs', .int .i64 a', .int .i64 E]) ∧ RefP w w' (parse l ids) cs' a' E := by
  obtain ⟨d33, hd33⟩ := hu33
  have hf8 := fb_lt l
  obtain ⟨r, hr⟩ : ∃ r, parse l ids = r := ⟨_, rfl⟩
  rw [hr]
  have HP := mkHid hr
  have HN : Hid (r = none) := by
    show r = none
    rw [← hr]
    unfold parse pLong
    rw [if_neg (by omega), if_neg (by omega), if_neg (by rintro ⟨⟨g1, g2⟩, g3, g4⟩; exact hid ⟨by omega, g3, by have : iN l 5 = idN l := rfl; omega⟩)]
  clear hr
  obtain ⟨hc0, blt⟩ := first_cell hs (by omega)
  have HS := mkHid hs
  have HG := mkHid (rget_any (some ⟨b, off, none⟩) l cap 1 4 (w.alloc (.cells zr 33)) (Sl_alloc hs _) (by omega) hc' hcm)
  rw [show gE l 1 4 = 0 by unfold gE; rw [if_neg (by unfold gArg; omega), if_pos (by unfold gOk; omega)], show gN l 1 4 = 5 by unfold gN; rw [if_pos (by unfold gOk; omega)]; rfl] at HG
  obtain ⟨V, hV⟩ : ∃ V : Int, gV l 1 4 = V := ⟨_, rfl⟩
  have hVb : 0 ≤ V ∧ V < 4294967296 := by
    rw [← hV]
    unfold gV
    rw [if_pos (by unfold gOk; omega)]
    have := num_lt (sub l (1 : Int).toNat (4 : Int).toNat)
    rw [sub_length l _ _ (by show 1 + 4 ≤ l.length; omega)] at this
    have e : 256 ^ (4 : Int).toNat = 4294967296 := rfl
    omega
  rw [hV] at HG
  have HV := mkHid hV
  obtain ⟨hV0, hV1⟩ := hVb
  have eV : IntKind.i64.wrap V = V := by rw [IntKind.wrap_i64]; omega
  obtain ⟨csV, hcsV⟩ : ∃ csV, csV = (rlh 0 V (.slice none 0 0) (.slice none 0 0) (.slice none 0 0)).toArray := ⟨_, rfl⟩
  have HCSV := mkHid hcsV
  have HZV : Hid (csV.size = 24) := by show csV.size = 24; rw [hcsV]; rfl
  have HONEV : Hid (csV.all (·.oneCell') = true) := by show csV.all _ = true; rw [hcsV, List.all_toArray]; rfl
  have HR1 : Hid (((w.alloc (.cells zr 33)).alloc (.cells zr 33)).heap[w.heap.size + 1]? = some (.cells zr 33 (0, 0))) := two_new w _ _
  have HRL : Hid (RL w (((w.alloc (.cells zr 33)).alloc (.cells zr 33)).setRow (w.heap.size + 1) csV) csV) := by
    refine ⟨below_setRow (((Below.refl _ _).alloc (Nat.le_refl _) _).alloc (by simp) _) (by omega) _, ?_, setRow_heap _ _ _ _ 33 _ HR1.out, by simp [World.setRow]⟩
    rw [setRow_other _ _ _ _ (by omega), Below.heap_alloc _ _ _ (by simp)]
    exact heap_alloc_new w _
  obtain ⟨x, hx⟩ : ∃ x, fb l = x := ⟨_, rfl⟩
  rw [hx] at hc0 hf hf8
  have HFX := mkHid hx
  clear hx hs hV hcsV
  go_enter Tryd.func30, Tryd.ntmps30
  go_wp2_with fail
  refine HG.out.mono ?_
  rintro e w1 ⟨rfl, rfl⟩
  go_wp2_with ((refine wpList_store_row rfl 33 (.tmp 10) (.tmp 63) rfl (w.heap.size + 1) csV rfl (congrArg Value.agg HCSV.out.symm) 33 zr HR1.out (by rw [HZV.out]; exact sz33) (by rw [HZV.out]; rfl) HONEV.out ?_; generalize hWW : World.setRow (World.alloc (World.alloc w _) _) (w.heap.size + 1) csV = W2; have HL2 := mkHid (Eq.subst (motive := fun x => RL w x csV) hWW HRL.out); clear hWW; refine Hid.out ?_))
  refine mkHid ?_
  clear HRL HR1 HG
  have HS2 := mkHid (Sl_below HS.out HL2.out.below)
  go_wp2_with fail
  refine (id_no b off cap l 5 W2 HS2.out hl (by decide) hid).mono ?_
  rintro e w3 ⟨E, rfl, hE, rfl⟩
  obtain ⟨i0, i2, i3, i7, ifr⟩ := HL2.out.cell HCSV.out
  have if2 := ifr 2
  have hbE : (E != 0) = true := by simp [hE]
  have HL3 := mkHid (HL2.out.set2 HCSV.out (.slice none 0 0))
  clear ifr i0 i3 i7
  go_wp2_with ((refine wpList_store_row rfl 33 (.tmp 4) (.tmp 74) rfl w.heap.size zr rfl rfl 33 zr HL3.out.row0 sz33 rfl zr_one ?_; refine Hid.out ?_))
  refine mkHid ?_
  go_wp2
  refine bodyPost_ret (v := .tuple #[.agg zr, .int .i64 0, .int .i64 E]) (results_cell2 (fn := Tryd.f30) (p := 4) (u := 5) (v := 6) (ty := 33) rfl _ _ w.heap.size 33 zr (0, 0) d33 rfl (setRow_heap _ _ _ _ 33 _ HL3.out.row0) hd33 sz33) rfl ?_
  exact ⟨_, _, _, rfl, HL3.out.fin hE HN.out⟩
set_option maxRecDepth 10000 in
set_option maxHeartbeats 1000000 in
theorem rread_id2 (b off cap : Nat) (l : List UInt8) (ids : Int) (w : World) (hs : Sl w (some ⟨b, off, none⟩) l) (hl : l.length ≤ 140737488355327) (hc' : l.length ≤ cap) (hcm : cap ≤ 9223372036854775807) (h0 : 0 ≤ ids) (h1 : ids ≤ 20) (hf : 128 ≤ fb l) (hn : 5 ≤ l.length) (hid : iOk l 5) (hid2 : ¬ iOk l (6 + iN l 5)) :
    Calls Tryd.prog 30 #[.slice (some ⟨b, off, none⟩) l.length cap, .int .i64 ids] w fun e w' => ∃ cs' a' E, e = .returned (.tuple #[.agg cs', .int .i64 a', .int .i64 E]) ∧ RefP w w' (parse l ids) cs' a' E := by
  obtain ⟨d33, hd33⟩ := hu33
  have hf8 := fb_lt l
  obtain ⟨r, hr⟩ : ∃ r, parse l ids = r := ⟨_, rfl⟩
  rw [hr]
  have HP := mkHid hr
  have HN : Hid (r = none) := by
    show r = none
    rw [← hr]
    unfold parse pLong
    rw [if_neg (by omega), if_neg (by omega), if_neg (by rintro ⟨⟨g1, g2⟩, g3, g4⟩; exact hid2 ⟨g1, g4, by have e1 : iN l 5 = idN l := rfl; have e2 : iN l (6 + iN l 5) = idM l := rfl; omega⟩)]
  clear hr
  obtain ⟨hc0, blt⟩ := first_cell hs (by omega)
  have HS := mkHid hs
  have HG := mkHid (rget_any (some ⟨b, off, none⟩) l cap 1 4 (w.alloc (.cells zr 33)) (Sl_alloc hs _) (by omega) hc' hcm)
  rw [show gE l 1 4 = 0 by unfold gE; rw [if_neg (by unfold gArg; omega), if_pos (by unfold gOk; omega)], show gN l 1 4 = 5 by unfold gN; rw [if_pos (by unfold gOk; omega)]; rfl] at HG
  obtain ⟨V, hV⟩ : ∃ V : Int, gV l 1 4 = V := ⟨_, rfl⟩
  have hVb : 0 ≤ V ∧ V < 4294967296 := by
    rw [← hV]
    unfold gV
    rw [if_pos (by unfold gOk; omega)]
    have := num_lt (sub l (1 : Int).toNat (4 : Int).toNat)
    rw [sub_length l _ _ (by show 1 + 4 ≤ l.length; omega)] at this
    have e : 256 ^ (4 : Int).toNat = 4294967296 := rfl
    omega
  rw [hV] at HG
  have HV := mkHid hV
  obtain ⟨hV0, hV1⟩ := hVb
  have eV : IntKind.i64.wrap V = V := by rw [IntKind.wrap_i64]; omega
  obtain ⟨csV, hcsV⟩ : ∃ csV, csV = (rlh 0 V (.slice none 0 0) (.slice none 0 0) (.slice none 0 0)).toArray := ⟨_, rfl⟩
  have HCSV := mkHid hcsV
  have HZV : Hid (csV.size = 24) := by show csV.size = 24; rw [hcsV]; rfl
  have HONEV : Hid (csV.all (·.oneCell') = true) := by show csV.all _ = true; rw [hcsV, List.all_toArray]; rfl
  have HR1 : Hid (((w.alloc (.cells zr 33)).alloc (.cells zr 33)).heap[w.heap.size + 1]? = some (.cells zr 33 (0, 0))) := two_new w _ _
  have HRL : Hid (RL w (((w.alloc (.cells zr 33)).alloc (.cells zr 33)).setRow (w.heap.size + 1) csV) csV) := by
    refine ⟨below_setRow (((Below.refl _ _).alloc (Nat.le_refl _) _).alloc (by simp) _) (by omega) _, ?_, setRow_heap _ _ _ _ 33 _ HR1.out, by simp [World.setRow]⟩
    rw [setRow_other _ _ _ _ (by omega), Below.heap_alloc _ _ _ (by simp)]
    exact heap_alloc_new w _
  obtain ⟨x, hx⟩ : ∃ x, fb l = x := ⟨_, rfl⟩
  rw [hx] at hc0 hf hf8
  have HFX := mkHid hx
  clear hx hs hV hcsV
  go_enter Tryd.func30, Tryd.ntmps30
  go_wp2_with fail
  refine HG.out.mono ?_
  rintro e w1 ⟨rfl, rfl⟩
  go_wp2_with ((refine wpList_store_row rfl 33 (.tmp 10) (.tmp 63) rfl (w.heap.size + 1) csV rfl (congrArg Value.agg HCSV.out.symm) 33 zr HR1.out (by rw [HZV.out]; exact sz33) (by rw [HZV.out]; rfl) HONEV.out ?_; generalize hWW : World.setRow (World.alloc (World.alloc w _) _) (w.heap.size + 1) csV = W2; have HL2 := mkHid (Eq.subst (motive := fun x => RL w x csV) hWW HRL.out); clear hWW; refine Hid.out ?_))
  refine mkHid ?_
  clear HRL HR1 HG
  have HS2 := mkHid (Sl_below HS.out HL2.out.below)
  go_wp2_with fail
  obtain ⟨n1, hn1⟩ : ∃ n1, iN l 5 = n1 := ⟨_, rfl⟩
  have HI1 := mkHid (id_yes b off cap l 5 W2 HS2.out hl hc' hcm hid)
  rw [hn1] at HI1
  refine HI1.out.mono ?_
  rintro e w3 ⟨oa, ca, rfl, hby3, hB3⟩
  have HN1 := mkHid hn1
  have hn1b : n1 ≤ 20 ∧ 6 + n1 ≤ l.length := by have := hid; rw [← hn1]; omega
  obtain ⟨hn1c, hn1d⟩ := hn1b
  have HL3 := mkHid (HL2.out.on hB3 HL2.out.size)
  obtain ⟨i0, i2, i3, i7, ifr⟩ := HL3.out.cell HCSV.out
  have if2 := ifr 2
  have HL4 := mkHid (HL3.out.set2 HCSV.out (.slice oa n1 ca))
  have HS4 := mkHid (Sl_below HS.out HL4.out.below)
  clear ifr i0 i3 i7 hby3 hB3 HI1 hn1
  go_wp2_with fail
  have HI2 := mkHid (id_no b off cap l (5 + 1 + n1) _ HS4.out hl (by omega) (by rw [← HN1.out]; exact hid2))
  refine HI2.out.mono ?_
  rintro e w5 ⟨E, rfl, hE, rfl⟩
  obtain ⟨i0, i2', i3, i7, ifr⟩ := HL4.out.cell rfl
  have if3 := ifr 3
  have hbE : (E != 0) = true := by simp [hE]
  have HL5 := mkHid (HL4.out.set3 rfl (.slice none 0 0))
  clear ifr i0 i7 HI2
  go_wp2_with ((refine wpList_store_row rfl 33 (.tmp 4) (.tmp 86) rfl w.heap.size zr rfl rfl 33 zr HL5.out.row0 sz33 rfl zr_one ?_; refine Hid.out ?_))
  refine mkHid ?_
  go_wp2
  refine bodyPost_ret (v := .tuple #[.agg zr, .int .i64 0, .int .i64 E]) (results_cell2 (fn := Tryd.f30) (p := 4) (u := 5) (v := 6) (ty := 33) rfl _ _ w.heap.size 33 zr (0, 0) d33 rfl (setRow_heap _ _ _ _ 33 _ HL5.out.row0) hd33 sz33) rfl ?_
  exact ⟨_, _, _, rfl, HL5.out.fin hE HN.out⟩
end Go.Proofs.YtlllejgpmdeeiaaDoor
