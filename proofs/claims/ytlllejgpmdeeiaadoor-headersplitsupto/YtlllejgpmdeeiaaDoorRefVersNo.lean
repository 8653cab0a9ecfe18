/- What caravelref02.Read answers of long headers whose identifiers are there, of version 1: contracts. -/
import Derived.Test.YtlllejgpmdeeiaaDoorRefSpoken
namespace Go.Proofs.YtlllejgpmdeeiaaDoor
open Go.ChangeShapes Go.WideShapes Go.ChangeAt Go.RowKit
set_option linter.unusedVariables false

set_option maxRecDepth 10000 in
set_option maxHeartbeats 1000000 in
theorem rread_vers_no (b off cap : Nat) (l : List UInt8) (ids : Int) (w : World) (hs : Sl w (some ⟨b, off, none⟩) l) (hl : l.length ≤ 140737488355327) (hc' : l.length ≤ cap) (hcm : cap ≤ 9223372036854775807) (h0 : 0 ≤ ids) (h1 : ids ≤ 20) (hf : 128 ≤ fb l) (hn : 5 ≤ l.length) (hid : iOk l 5) (hid2 : iOk l (6 + iN l 5)) (hv1 : num (sub l 1 4) = 0) (hbad : ¬ (7 + iN l 5 + iN l (6 + iN l 5) < l.length ∧ (l.length - (7 + iN l 5 + iN l (6 + iN l 5))) % 4 = 0)) :
    Calls Tryd.prog 30 #[.slice (some ⟨b, off, none⟩) l.length cap, .int .i64 ids] w fun e w' => ∃ cs' a' E, e = .returned (.tuple #[.agg cs', .int .i64 a', .int .i64 E]) ∧ RefP w w' (parse l ids) cs' a' E := by
  obtain ⟨d33, hd33⟩ := hu33
  have hf8 := fb_lt l
  obtain ⟨r, hr⟩ : ∃ r, parse l ids = r := ⟨_, rfl⟩
  rw [hr]
  have HP := mkHid hr
  have HPL : Hid (r = pRest l (num (sub l 1 4)) (some (6, idN l)) (some (7 + idN l, idM l)) ((7 + idN l + idM l : Nat) : Int)) := by
    show r = _
    rw [← hr]
    unfold parse pLong
    have e1 : iN l 5 = idN l := rfl
    have e2 : iN l (6 + iN l 5) = idM l := rfl
    rw [if_neg (by omega), if_neg (by omega), if_pos ⟨⟨hid2.1, by have := hid2.2.2; omega⟩, hid.2.1, hid2.2.1⟩]
  clear hr
  obtain ⟨hc0, blt⟩ := first_cell hs (by omega)
  have HS := mkHid hs
  have HG := mkHid (rget_any (some ⟨b, off, none⟩) l cap 1 4 (w.alloc (.cells zr 33)) (Sl_alloc hs _) (by omega) hc' hcm)
  rw [show gE l 1 4 = 0 by unfold gE; rw [if_neg (by unfold gArg; omega), if_pos (by unfold gOk; omega)], show gN l 1 4 = 5 by unfold gN; rw [if_pos (by unfold gOk; omega)]; rfl] at HG
  obtain ⟨V, hV⟩ : ∃ V : Int, gV l 1 4 = V := ⟨_, rfl⟩
  have hVb : 0 ≤ V ∧ V < 4294967296 := by
    rw [← hV]
    unfold gV
    rw [if_pos (by unfold gOk; omega)]
    have := num_lt (sub l (1 : Int).toNat (4 : Int).toNat)
    rw [sub_length l _ _ (by show 1 + 4 ≤ l.length; omega)] at this
    have e : 256 ^ (4 : Int).toNat = 4294967296 := rfl
    omega
  rw [hV] at HG
  have HV := mkHid hV
  obtain ⟨hV0, hV1⟩ := hVb
  have eV : IntKind.i64.wrap V = V := by rw [IntKind.wrap_i64]; omega
  obtain ⟨csV, hcsV⟩ : ∃ csV, csV = (rlh 0 V (.slice none 0 0) (.slice none 0 0) (.slice none 0 0)).toArray := ⟨_, rfl⟩
  have HCSV := mkHid hcsV
  have HZV : Hid (csV.size = 24) := by show csV.size = 24; rw [hcsV]; rfl
  have HONEV : Hid (csV.all (·.oneCell') = true) := by show csV.all _ = true; rw [hcsV, List.all_toArray]; rfl
  have HR1 : Hid (((w.alloc (.cells zr 33)).alloc (.cells zr 33)).heap[w.heap.size + 1]? = some (.cells zr 33 (0, 0))) := two_new w _ _
  have HRL : Hid (RL w (((w.alloc (.cells zr 33)).alloc (.cells zr 33)).setRow (w.heap.size + 1) csV) csV) := by
    refine ⟨below_setRow (((Below.refl _ _).alloc (Nat.le_refl _) _).alloc (by simp) _) (by omega) _, ?_, setRow_heap _ _ _ _ 33 _ HR1.out, by simp [World.setRow]⟩
    rw [setRow_other _ _ _ _ (by omega), Below.heap_alloc _ _ _ (by simp)]
    exact heap_alloc_new w _
  obtain ⟨x, hx⟩ : ∃ x, fb l = x := ⟨_, rfl⟩
  rw [hx] at hc0 hf hf8
  have HFX := mkHid hx
  clear hx hs hV hcsV
  go_enter Tryd.func30, Tryd.ntmps30
  go_wp2_with fail
  refine HG.out.mono ?_
  rintro e w1 ⟨rfl, rfl⟩
  go_wp2_with ((refine wpList_store_row rfl 33 (.tmp 10) (.tmp 63) rfl (w.heap.size + 1) csV rfl (congrArg Value.agg HCSV.out.symm) 33 zr HR1.out (by rw [HZV.out]; exact sz33) (by rw [HZV.out]; rfl) HONEV.out ?_; generalize hWW : World.setRow (World.alloc (World.alloc w _) _) (w.heap.size + 1) csV = W2; have HL2 := mkHid (Eq.subst (motive := fun x => RL w x csV) hWW HRL.out); clear hWW; refine Hid.out ?_))
  refine mkHid ?_
  clear HRL HR1 HG
  have HS2 := mkHid (Sl_below HS.out HL2.out.below)
  go_wp2_with fail
  obtain ⟨n1, hn1⟩ : ∃ n1, iN l 5 = n1 := ⟨_, rfl⟩
  have HI1 := mkHid (id_yes b off cap l 5 W2 HS2.out hl hc' hcm hid)
  rw [hn1] at HI1
  refine HI1.out.mono ?_
  rintro e w3 ⟨oa, ca, rfl, hby3, hB3⟩
  have HN1 := mkHid hn1
  have hn1b : n1 ≤ 20 ∧ 6 + n1 ≤ l.length := by have := hid; rw [← hn1]; omega
  obtain ⟨hn1c, hn1d⟩ := hn1b
  have HL3 := mkHid (HL2.out.on hB3 HL2.out.size)
  obtain ⟨i0, i2, i3, i7, ifr⟩ := HL3.out.cell HCSV.out
  have if2 := ifr 2
  have HL4 := mkHid (HL3.out.set2 HCSV.out (.slice oa n1 ca))
  have HS4 := mkHid (Sl_below HS.out HL4.out.below)
  clear ifr i0 i3 i7 hby3 hB3 HI1 hn1
  go_wp2_with fail
  obtain ⟨n2, hn2⟩ : ∃ n2, iN l (5 + 1 + n1) = n2 := ⟨_, rfl⟩
  have hid2' : iOk l (5 + 1 + n1) := by rw [← HN1.out]; exact hid2
  have HI2 := mkHid (id_yes b off cap l (5 + 1 + n1) _ HS4.out hl hc' hcm hid2')
  rw [hn2] at HI2
  refine HI2.out.mono ?_
  rintro e w5 ⟨ob, cb, rfl, hby5, hB5⟩
  have HN2 := mkHid hn2
  have hn2b : n2 ≤ 20 ∧ 7 + n1 + n2 ≤ l.length := by have := hid2'; rw [← hn2]; omega
  obtain ⟨hn2c, hn2d⟩ := hn2b
  have HL5 := mkHid (HL4.out.on hB5 HL4.out.size)
  obtain ⟨i0, i2', i3, i7, ifr⟩ := HL5.out.cell rfl
  have if3 := ifr 3
  have HL6 := mkHid (HL5.out.set3 rfl (.slice ob n2 cb))
  obtain ⟨j0, j2, j3, j7, jfr⟩ := HL6.out.cell rfl
  have jf0 := jfr 0
  clear ifr jfr i0 i7 hby5 hB5 HI2 hn2 j2 j3 hid2'
  obtain ⟨cs7, hcs7⟩ : ∃ cs7, cs7 = (rlh 4 V (.slice oa n1 ca) (.slice ob n2 cb) (.slice none 0 0)).toArray := ⟨_, rfl⟩
  have HL7 := mkHid (HL6.out.set0 rfl (4))
  rw [← hcs7] at HL7
  have HZ7 : Hid (cs7.size = 24) := by show cs7.size = 24; rw [hcs7]; rfl
  have HONE7 : Hid (cs7.all (·.oneCell') = true) := by show cs7.all _ = true; rw [hcs7, List.all_toArray]; rfl
  have HK7 : Hid (cs7[0]? = some (.int .i64 (4)) ∧ cs7[5]? = some (.int .i64 0)) := by rw [hcs7]; exact ⟨rfl, rfl⟩
  have HCS7 := mkHid hcs7
  clear hcs7
  have hVn : V = 0 := by have := HV.out; rw [gV_num hn] at this; omega
  subst hVn
  have HBD : Hid (¬ (7 + n1 + n2 < l.length ∧ (l.length - (7 + n1 + n2)) % 4 = 0)) := by
    show ¬ _
    rw [HN1.out, show 6 + n1 = 5 + 1 + n1 by omega, HN2.out] at hbad
    exact hbad
  have HN : Hid (r = none) := by
    show r = none
    have e1 : iN l 5 = idN l := rfl
    have e2 : iN l (6 + iN l 5) = idM l := rfl
    have h1 := HN1.out
    have h2 := HN2.out
    rw [show 5 + 1 + n1 = 6 + iN l 5 by omega, e2] at h2
    rw [HPL.out, hv1]
    unfold pRest pVersions
    rw [if_pos (by decide), if_neg (by have := HBD.out; omega)]
  by_cases hA : l.length = 7 + n1 + n2
  · have hAi : (l.length : Int) = ((5 + 1 + n1 + 1 + n2 : Nat) : Int) := by omega
    clear hA
    go_wp2_with ((refine wpList_store_row rfl 33 (.tmp 4) (.tmp 103) rfl w.heap.size zr rfl rfl 33 zr HL7.out.row0 sz33 rfl zr_one ?_; refine Hid.out ?_))
    refine mkHid ?_
    go_wp2
    refine bodyPost_ret (v := .tuple #[.agg zr, .int .i64 0, .int .i64 11]) (results_cell2 (fn := Tryd.f30) (p := 4) (u := 5) (v := 6) (ty := 33) rfl _ _ w.heap.size 33 zr (0, 0) d33 rfl (setRow_heap _ _ _ _ 33 _ HL7.out.row0) hd33 sz33) rfl ?_
    exact ⟨_, _, _, rfl, HL7.out.fin (by decide) HN.out⟩
  · have hm : ¬ ((l.length : Int) - ((5 + 1 + n1 + 1 + n2 : Nat) : Int)) % 4 = 0 := by have := HBD.out; omega
    have hAi : ((l.length : Int) == 6 + (n1 : Int) + 1 + (n2 : Int)) = false := by simp; omega
    have hmb : (((l.length : Int) - (6 + (n1 : Int) + 1 + (n2 : Int))) % 4 != 0) = true := by simp; omega
    clear hm
    clear hA
    go_wp2_with ((refine wpList_store_row rfl 33 (.tmp 4) (.tmp 103) rfl w.heap.size zr rfl rfl 33 zr HL7.out.row0 sz33 rfl zr_one ?_; refine Hid.out ?_))
    refine mkHid ?_
    go_wp2
    refine bodyPost_ret (v := .tuple #[.agg zr, .int .i64 0, .int .i64 11]) (results_cell2 (fn := Tryd.f30) (p := 4) (u := 5) (v := 6) (ty := 33) rfl _ _ w.heap.size 33 zr (0, 0) d33 rfl (setRow_heap _ _ _ _ 33 _ HL7.out.row0) hd33 sz33) rfl ?_
    exact ⟨_, _, _, rfl, HL7.out.fin (by decide) HN.out⟩
end Go.Proofs.YtlllejgpmdeeiaaDoor
