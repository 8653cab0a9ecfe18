/- What caravelref02.Read answers of Versions that are there: a contract. -/
import Derived.Test.YtlllejgpmdeeiaaDoorRefSpoken
import Derived.Test.YtlllejgpmdeeiaaDoorVers
import Derived.Test.YtlllejgpmdeeiaaDoorBegShort
import Derived.Deep.RegionLaw
namespace Go.Proofs.YtlllejgpmdeeiaaDoor
open Go.ChangeShapes Go.WideShapes Go.ChangeAt Go.RowKit
set_option linter.unusedVariables false

/-- 'append(v, x)' of one int onto a row of the call's own, as one step of a region that draws its order. -/
theorem step_append_int {P : Program} {w : World} {ops : Array Oper} {o : Oper} {a : Act} {K : Act → World → Prop} {Q : Exit → Act → World → Prop} {E : Prop} (hgd : o.guard = none) (s x : Operand)
    (ho : o.op = .call { callee := .builtin .append, args := #[s, x], argTypes := #[23, 23] })
    (base : Nat) (i : TypeInfo) (ht : P.underlying 23 = some (.slice 3)) (hi : P.info? 3 = some i) (hz : i.zero = some (.int .i64 0)) (hsize : i.size = 1) (hby : i.bytes = 8)
    (v : Value) (n : Nat) (xs : List Value) (hs : a.eval s = v) (hown : w.ownsRow base 3 1 v n xs)
    (ad : Addr) (V : Int) (hx : a.eval x = .slice (some ad) 1 1) (hc : ∀ j u, [Value.int .i64 V][j]? = some u → w.cell? (ad.add j) = some u)
    (hb : n + 1 ≤ 1048577) (hbase : base ≤ w.heap.size)
    (h : ∀ v' w', w'.ownsRow base 3 1 v' (n + 1) (xs ++ [.int .i64 V]) → w.grownBy w' v.ownBlock → K (a.put o.dst v') w') : if Region.wanted o (yielded ops a.tmps) = true then Oper.wp P o a w K Q else E := by
  have hw : Region.wanted o (yielded ops a.tmps) = true := by simp [Region.wanted, hgd]
  rw [if_pos hw]
  exact wp_append_own w s x 23 ho base 3 i (.int .i64 0) 1 8 ht hi hz hsize hby rfl (by decide) v n xs hs hown ad 1 1 [.int .i64 V] hx rfl hc (by simp [Value.oneCell']) (by unfold maxLen; omega) (by omega) hbase (fun v' w' h1 h2 _ => h v' w' h1 h2)

/-- the loop's relation behind i rounds -/
structure RVR (w wr : World) (d s : Value) (i : Nat) (lo : Option Addr) (lc : Nat) : Prop where
  rl : RL w wr (rlh 4 0 d s (.slice lo i lc)).toArray
  own : ∃ xs, wr.ownsRow (w.heap.size + 2) 3 1 (.slice lo i lc) i xs
theorem RL.set7 {w W : World} {cs : Array Value} {k V : Int} {d s lv : Value} (h : RL w W cs) (hcs : cs = (rlh k V d s lv).toArray) (x : Value) : RL w (W.setCell ⟨w.heap.size + 1, 7, none⟩ x) (rlh k V d s x).toArray :=
  ⟨h.below.setCell (p := ⟨w.heap.size + 1, 7, none⟩) (by show w.heap.size ≤ w.heap.size + 1; omega) _, (Below.heap_setCell _ _ _ _ (by show w.heap.size ≠ w.heap.size + 1; omega)).trans h.row0, by rw [heap_setCell_same W (w.heap.size + 1) 7 _ 33 _ h.row1, hcs]; rfl, by simpa using h.size⟩
theorem RL.grown {w W W' : World} {cs : Array Value} {v : Value} (h : RL w W cs) (hg : W.grownBy W' v.ownBlock) (hb : ∀ g, v.ownBlock = some g → w.heap.size + 2 ≤ g) : RL w W' cs :=
  ⟨h.below.grown hg (by have := h.size; omega) (fun k hk => by have := hb k hk; omega), (hg.block _ (by have := h.size; omega) (fun e => by have := hb _ e.symm; omega)).trans h.row0, (hg.block _ (by have := h.size; omega) (fun e => by have := hb _ e.symm; omega)).trans h.row1, Nat.le_trans h.size hg.size⟩
theorem RL.drew {w W : World} {cs : Array Value} (h : RL w W cs) : RL w W.drew cs := ⟨h.below.drew, h.row0, h.row1, h.size⟩

set_option maxRecDepth 10000 in
set_option maxHeartbeats 1000000 in
theorem rread_vers_yes (b off cap : Nat) (l : List UInt8) (ids : Int) (w : World) (hs : Sl w (some ⟨b, off, none⟩) l) (hl : l.length ≤ 140737488355327) (hc' : l.length ≤ cap) (hcm : cap ≤ 9223372036854775807) (h0 : 0 ≤ ids) (h1 : ids ≤ 20) (hf : 128 ≤ fb l) (hn : 5 ≤ l.length) (hid : iOk l 5) (hid2 : iOk l (6 + iN l 5)) (hv1 : num (sub l 1 4) = 0) (hlm : l.length ≤ 1048577) (hgood : 7 + iN l 5 + iN l (6 + iN l 5) < l.length ∧ (l.length - (7 + iN l 5 + iN l (6 + iN l 5))) % 4 = 0) :
    Calls Tryd.prog 30 #[.slice (some ⟨b, off, none⟩) l.length cap, .int .i64 ids] w fun e w' => ∃ cs' a' E, e = .returned (.tuple #[.agg cs', .int .i64 a', .int .i64 E]) ∧ RefP w w' (parse l ids) cs' a' E := by
  obtain ⟨d33, hd33⟩ := hu33
  have hf8 := fb_lt l
  obtain ⟨r, hr⟩ : ∃ r, parse l ids = r := ⟨_, rfl⟩
  rw [hr]
  have HP := mkHid hr
  have HPL : Hid (r = pRest l (num (sub l 1 4)) (some (6, idN l)) (some (7 + idN l, idM l)) ((7 + idN l + idM l : Nat) : Int)) := by
    show r = _
    rw [← hr]
    unfold parse pLong
    have e1 : iN l 5 = idN l := rfl
    have e2 : iN l (6 + iN l 5) = idM l := rfl
    rw [if_neg (by omega), if_neg (by omega), if_pos ⟨⟨hid2.1, by have := hid2.2.2; omega⟩, hid.2.1, hid2.2.1⟩]
  clear hr
  obtain ⟨hc0, blt⟩ := first_cell hs (by omega)
  have HS := mkHid hs
  have HG := mkHid (rget_any (some ⟨b, off, none⟩) l cap 1 4 (w.alloc (.cells zr 33)) (Sl_alloc hs _) (by omega) hc' hcm)
  rw [show gE l 1 4 = 0 by unfold gE; rw [if_neg (by unfold gArg; omega), if_pos (by unfold gOk; omega)], show gN l 1 4 = 5 by unfold gN; rw [if_pos (by unfold gOk; omega)]; rfl] at HG
  obtain ⟨V, hV⟩ : ∃ V : Int, gV l 1 4 = V := ⟨_, rfl⟩
  have hVb : 0 ≤ V ∧ V < 4294967296 := by
    rw [← hV]
    unfold gV
    rw [if_pos (by unfold gOk; omega)]
    have := num_lt (sub l (1 : Int).toNat (4 : Int).toNat)
    rw [sub_length l _ _ (by show 1 + 4 ≤ l.length; omega)] at this
    have e : 256 ^ (4 : Int).toNat = 4294967296 := rfl
    omega
  rw [hV] at HG
  have HV := mkHid hV
  obtain ⟨hV0, hV1⟩ := hVb
  have eV : IntKind.i64.wrap V = V := by rw [IntKind.wrap_i64]; omega
  obtain ⟨csV, hcsV⟩ : ∃ csV, csV = (rlh 0 V (.slice none 0 0) (.slice none 0 0) (.slice none 0 0)).toArray := ⟨_, rfl⟩
  have HCSV := mkHid hcsV
  have HZV : Hid (csV.size = 24) := by show csV.size = 24; rw [hcsV]; rfl
  have HONEV : Hid (csV.all (·.oneCell') = true) := by show csV.all _ = true; rw [hcsV, List.all_toArray]; rfl
  have HR1 : Hid (((w.alloc (.cells zr 33)).alloc (.cells zr 33)).heap[w.heap.size + 1]? = some (.cells zr 33 (0, 0))) := two_new w _ _
  have HRL : Hid (RL w (((w.alloc (.cells zr 33)).alloc (.cells zr 33)).setRow (w.heap.size + 1) csV) csV) := by
    refine ⟨below_setRow (((Below.refl _ _).alloc (Nat.le_refl _) _).alloc (by simp) _) (by omega) _, ?_, setRow_heap _ _ _ _ 33 _ HR1.out, by simp [World.setRow]⟩
    rw [setRow_other _ _ _ _ (by omega), Below.heap_alloc _ _ _ (by simp)]
    exact heap_alloc_new w _
  obtain ⟨x, hx⟩ : ∃ x, fb l = x := ⟨_, rfl⟩
  rw [hx] at hc0 hf hf8
  have HFX := mkHid hx
  clear hx hs hV hcsV
  go_enter Tryd.func30, Tryd.ntmps30
  go_wp2_with fail
  refine HG.out.mono ?_
  rintro e w1 ⟨rfl, rfl⟩
  go_wp2_with ((refine wpList_store_row rfl 33 (.tmp 10) (.tmp 63) rfl (w.heap.size + 1) csV rfl (congrArg Value.agg HCSV.out.symm) 33 zr HR1.out (by rw [HZV.out]; exact sz33) (by rw [HZV.out]; rfl) HONEV.out ?_; generalize hWW : World.setRow (World.alloc (World.alloc w _) _) (w.heap.size + 1) csV = W2; have HL2 := mkHid (Eq.subst (motive := fun x => RL w x csV) hWW HRL.out); clear hWW; refine Hid.out ?_))
  refine mkHid ?_
  clear HRL HR1 HG
  have HS2 := mkHid (Sl_below HS.out HL2.out.below)
  go_wp2_with fail
  obtain ⟨n1, hn1⟩ : ∃ n1, iN l 5 = n1 := ⟨_, rfl⟩
  have HI1 := mkHid (id_yes b off cap l 5 W2 HS2.out hl hc' hcm hid)
  rw [hn1] at HI1
  refine HI1.out.mono ?_
  rintro e w3 ⟨oa, ca, rfl, hby3, hB3⟩
  have HN1 := mkHid hn1
  have hn1b : n1 ≤ 20 ∧ 6 + n1 ≤ l.length := by have := hid; rw [← hn1]; omega
  obtain ⟨hn1c, hn1d⟩ := hn1b
  have HL3 := mkHid (HL2.out.on hB3 HL2.out.size)
  obtain ⟨i0, i2, i3, i7, ifr⟩ := HL3.out.cell HCSV.out
  have if2 := ifr 2
  have HL4 := mkHid (HL3.out.set2 HCSV.out (.slice oa n1 ca))
  have HS4 := mkHid (Sl_below HS.out HL4.out.below)
  clear ifr i0 i3 i7 hby3 hB3 HI1 hn1
  go_wp2_with fail
  obtain ⟨n2, hn2⟩ : ∃ n2, iN l (5 + 1 + n1) = n2 := ⟨_, rfl⟩
  have hid2' : iOk l (5 + 1 + n1) := by rw [← HN1.out]; exact hid2
  have HI2 := mkHid (id_yes b off cap l (5 + 1 + n1) _ HS4.out hl hc' hcm hid2')
  rw [hn2] at HI2
  refine HI2.out.mono ?_
  rintro e w5 ⟨ob, cb, rfl, hby5, hB5⟩
  have HN2 := mkHid hn2
  have hn2b : n2 ≤ 20 ∧ 7 + n1 + n2 ≤ l.length := by have := hid2'; rw [← hn2]; omega
  obtain ⟨hn2c, hn2d⟩ := hn2b
  have HL5 := mkHid (HL4.out.on hB5 HL4.out.size)
  obtain ⟨i0, i2', i3, i7, ifr⟩ := HL5.out.cell rfl
  have if3 := ifr 3
  have HL6 := mkHid (HL5.out.set3 rfl (.slice ob n2 cb))
  obtain ⟨j0, j2, j3, j7, jfr⟩ := HL6.out.cell rfl
  have jf0 := jfr 0
  clear ifr jfr i0 i7 hby5 hB5 HI2 hn2 j2 j3 hid2'
  obtain ⟨cs7, hcs7⟩ : ∃ cs7, cs7 = (rlh 4 V (.slice oa n1 ca) (.slice ob n2 cb) (.slice none 0 0)).toArray := ⟨_, rfl⟩
  have HL7 := mkHid (HL6.out.set0 rfl (4))
  rw [← hcs7] at HL7
  have HZ7 : Hid (cs7.size = 24) := by show cs7.size = 24; rw [hcs7]; rfl
  have HONE7 : Hid (cs7.all (·.oneCell') = true) := by show cs7.all _ = true; rw [hcs7, List.all_toArray]; rfl
  have HK7 : Hid (cs7[0]? = some (.int .i64 (4)) ∧ cs7[5]? = some (.int .i64 0)) := by rw [hcs7]; exact ⟨rfl, rfl⟩
  have HCS7 := mkHid hcs7
  clear hcs7
  have hVn : V = 0 := by have := HV.out; rw [gV_num hn] at this; omega
  subst hVn
  obtain ⟨hg1, hg2⟩ : 7 + n1 + n2 < l.length ∧ (l.length - (7 + n1 + n2)) % 4 = 0 := by
    rw [HN1.out, show 6 + n1 = 5 + 1 + n1 by omega, HN2.out] at hgood
    exact hgood
  clear hgood
  have HN : Hid (∃ p, r = some p ∧ p.k = 4 ∧ p.len = 0 ∧ p.at' = l.length) := by
    have e1 : iN l 5 = idN l := rfl
    have e2 : iN l (6 + iN l 5) = idM l := rfl
    have h1 := HN1.out
    have h2 := HN2.out
    rw [show 5 + 1 + n1 = 6 + iN l 5 by omega, e2] at h2
    refine ⟨⟨4, 0, some (6, idN l), some (7 + idN l, idM l), none, 0, false, vers l ((7 + idN l + idM l : Nat) : Int).toNat ((l.length - ((7 + idN l + idM l : Nat) : Int).toNat) / 4), zs, l.length⟩, ?_, rfl, rfl, rfl⟩
    rw [HPL.out, hv1]
    unfold pRest pVersions
    rw [if_pos (by decide), if_pos (by omega)]
  obtain ⟨A, hA⟩ : ∃ A : Nat, 5 + 1 + n1 + 1 + n2 = A := ⟨_, rfl⟩
  have hAi : ((l.length : Int) == (A : Int)) = false := by simp; omega
  have hmb : (((l.length : Int) - (A : Int)) % 4 != 0) = false := by simp; omega
  have hAe : 6 + (n1 : Int) + 1 + (n2 : Int) = (A : Int) := by omega
  have hA2 : (l.length - A) % 4 = 0 ∧ A < l.length := by omega
  have HA3 := mkHid hA2.1
  have hA4 := hA2.2
  have H0 : Hid (∀ W, W = ((w5.setCell ⟨w.heap.size + 1, 3, none⟩ (.slice ob n2 cb)).setCell ⟨w.heap.size + 1, 0, none⟩ (.int .i64 4)) → Hid (RVR w W (.slice oa n1 ca) (.slice ob n2 cb) 0 none 0)) := by
    rintro W rfl
    exact ⟨by rw [← HCS7.out]; exact HL7.out, [], rfl, .inl ⟨rfl, rfl⟩⟩
  clear hA2
  go_wp2
  have H0' := H0.out _ rfl
  clear H0
  clear hA hAi hmb hAe hn1c hn1d hn2c hn2d hg1 hg2 j7 j0 jf0 i2 i2' if2 if3
  generalize ((w5.setCell ⟨w.heap.size + 1, 3, none⟩ (.slice ob n2 cb)).setCell ⟨w.heap.size + 1, 0, none⟩ (.int .i64 4)) = W7 at H0' ⊢
  go_loopg [8] (l.length + 1) (fun k v wr => ∃ i lo lc, A + 4 * i ≤ l.length ∧ k = l.length + 1 - i ∧ v = .int .i64 ((A + 4 * i : Nat) : Int) ∧ Hid (RVR w wr (.slice oa n1 ca) (.slice ob n2 cb) i lo lc))
  case atStart => exact ⟨0, none, 0, by omega, by omega, rfl, H0'⟩
  case round =>
    obtain ⟨i, lo, lc, hi, hk, rfl, HR⟩ := hrel
    clear H0'
    obtain ⟨B, hB⟩ : ∃ B : Nat, A + 4 * i = B := ⟨_, rfl⟩
    rw [hB] at hi ⊢
    by_cases hlt : B < l.length
    · have hf : B + 4 ≤ l.length := by have := HA3.out; omega
      have hBc : ¬ cap = B := by omega
      have hBc2 : ¬ (cap : Int) = (B : Int) := by omega
      have hw1 : IntKind.i64.wrap ((B : Int) + 4) = (B : Int) + 4 := by rw [IntKind.wrap_i64]; omega
      have hw2 : 0 ≤ (B : Int) + 4 := by omega
      have hw3 : (B : Int) + 4 ≤ (cap : Int) := by omega
      have hw4 : ((B : Int) + 4).toNat = B + 4 := by omega
      have hw5 : B + 4 - B = 4 := by omega
      obtain ⟨i3, hi3, hz0, hz1, hz2⟩ := info_parts info3
      obtain ⟨V, hV⟩ : ∃ V : Int, ((num (sub l B 4) : Nat) : Int) = V := ⟨_, rfl⟩
      have hVb : 0 ≤ V ∧ V < 4294967296 := by
        have := num_lt (sub l B 4)
        rw [sub_length l _ _ hf] at this
        have e : 256 ^ 4 = 4294967296 := rfl
        omega
      obtain ⟨hV0, hV1⟩ := hVb
      have eV : IntKind.i64.wrap V = V := by rw [IntKind.wrap_i64]; omega
      have HSr := mkHid (Sl_below HS.out HR.out.rl.below)
      have HNUM := mkHid (number_any (some ⟨b, off + B, none⟩) (sub l B 4) 4 (cap - B) wr.drew (Sl_cut (off + B) (show Sl wr.drew _ _ from HSr.out) hf (fun _ => rfl)) (sub_length l B 4 hf) (by decide) (by decide))
      rw [hV] at HNUM
      obtain ⟨xs, hown⟩ := HR.out.own
      have HO := mkHid hown
      have hge := fun g hg => (hown.lt g hg).1
      obtain ⟨k0, k2, k3, k7, kfr⟩ := HR.out.rl.cell rfl
      have kf7 := kfr 7
      have hszr := HR.out.rl.size
      have HIN : Hid (∀ W v' w3, W = (wr.alloc (.cells #[.int .i64 V] 3)).drew → w3.ownsRow (w.heap.size + 2) 3 1 v' (i + 1) (xs ++ [.int .i64 V]) → W.grownBy w3 (Value.slice lo i lc).ownBlock → ∃ g' cp', v' = .slice (some ⟨g', 0, none⟩) (i + 1) cp' ∧ w.heap.size + 2 ≤ g' ∧ Hid (RL w w3 (rlh 4 0 (.slice oa n1 ca) (.slice ob n2 cb) (.slice lo i lc)).toArray) ∧ Hid (w3.ownsRow (w.heap.size + 2) 3 1 (.slice (some ⟨g', 0, none⟩) (i + 1) cp') (i + 1) (xs ++ [.int .i64 V]))) := by
        rintro W v' w3 rfl h1 h2
        obtain ⟨g', cp', rfl⟩ := ints_shape h1 (by omega)
        refine ⟨g', cp', rfl, (h1.lt g' rfl).1, ?_, h1⟩
        exact ((HR.out.rl.on ((Below.refl wr.heap.size wr).alloc (Nat.le_refl _) (.cells #[.int .i64 V] 3)) hszr).drew).grown h2 hge
      have k7' : (wr.alloc (.cells #[.int .i64 V] 3)).cell? ⟨w.heap.size + 1, 7, none⟩ = some (.slice lo i lc) := (World.cell?_of_block (w := wr) (a := ⟨w.heap.size + 1, 7, none⟩) (Below.heap_alloc _ _ _ (by show w.heap.size + 1 < wr.heap.size; omega))).trans k7
      clear hown hV k0 k2 k3 kfr hge
      go_wp2
      go_region_law ((first
        | (go_simp; go_at_call 46; refine HNUM.out.mono ?_; rintro e w' ⟨rfl, rfl⟩)
        | (refine step_append_int rfl (.tmp 109) (.tmp 117) rfl (w.heap.size + 2) i3 Tryd.underlying23 hi3 hz0 hz1 hz2 (.slice lo i lc) i xs rfl (by exact HO.out.alloc _) ⟨wr.heap.size, 0, none⟩ V rfl (by exact new_int V) (by omega) (by simp; omega) ?_; intro v1 w3 hown hgrow; obtain ⟨g', cp', rfl, hg', HL3, HO3⟩ := HIN.out _ _ _ rfl hown hgrow; obtain ⟨m0, m2, m3, m7, mfr⟩ := HL3.out.cell rfl; have mf7 := mfr 7; clear hown hgrow m0 m2 m3 mfr)))
      all_goals
        go_wp2
        go_roundg (l.length + 1 - (i + 1))
        case measure => omega
        case rel => exact ⟨i + 1, some ⟨g', 0, none⟩, cp', by omega, rfl, by rw [← hB]; go_num, ⟨HL3.out.set7 rfl _, _, ownsRow_setCell_below HO3.out (by show w.heap.size + 1 < w.heap.size + 2; omega) _⟩⟩
    · obtain rfl : B = l.length := by omega
      obtain ⟨p, hp, hpk, hpl, hpa⟩ := HN.out
      obtain ⟨cs8, hcs8⟩ : ∃ cs8, cs8 = (rlh 4 0 (.slice oa n1 ca) (.slice ob n2 cb) (.slice lo i lc)).toArray := ⟨_, rfl⟩
      have HL8 := mkHid HR.out.rl
      rw [← hcs8] at HL8
      have HZ8 : Hid (cs8.size = 24) := by show cs8.size = 24; rw [hcs8]; rfl
      have HONE8 : Hid (cs8.all (·.oneCell') = true) := by show cs8.all _ = true; rw [hcs8, List.all_toArray]; rfl
      have HK8 : Hid (cs8[0]? = some (.int .i64 4) ∧ cs8[5]? = some (.int .i64 0)) := by rw [hcs8]; exact ⟨rfl, rfl⟩
      have HPP := mkHid hp
      have HPK : Hid (cs8[0]? = some (.int .i64 p.k) ∧ cs8[5]? = some (.int .i64 p.len) ∧ (l.length : Int) = p.at') := by rw [hpk, hpl, hpa]; exact ⟨HK8.out.1, HK8.out.2, rfl⟩
      clear hcs8 hp hpk hpl hpa HN
      go_wp2_with (first
        | (refine wpList_load_row rfl 33 (.tmp 10) rfl (w.heap.size + 1) rfl 33 cs8 (0, 0) (.struct d33) HL8.out.row1 hd33 rfl (by rw [HZ8.out]; exact sz33) ?_)
        | (refine wpList_store_row rfl 33 (.tmp 4) (.tmp 122) rfl w.heap.size cs8 rfl rfl 33 zr HL8.out.row0 (by rw [HZ8.out]; exact sz33) (by rw [HZ8.out]; rfl) HONE8.out ?_; refine Hid.out ?_))
      refine mkHid ?_
      go_wp2
      refine bodyPost_ret (v := .tuple #[.agg cs8, .int .i64 (l.length : Int), .int .i64 0]) (results_cell2 (fn := Tryd.f30) (p := 4) (u := 5) (v := 6) (ty := 33) rfl _ _ w.heap.size 33 cs8 (0, 0) d33 rfl (setRow_heap _ _ _ _ 33 _ HL8.out.row0) hd33 (by rw [HZ8.out]; exact sz33)) rfl ?_
      exact ⟨_, _, _, rfl, below_setRow HL8.out.below (Nat.le_refl _) _, HZ8.out, HONE8.out, .inr ⟨rfl, p, HPP.out, HPK.out.1, HPK.out.2.1, HPK.out.2.2⟩⟩
end Go.Proofs.YtlllejgpmdeeiaaDoor
