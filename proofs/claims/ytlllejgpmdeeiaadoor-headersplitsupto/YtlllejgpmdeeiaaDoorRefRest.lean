/- What the reference's rest answers: contracts, a kind each. -/
import Derived.Test.YtlllejgpmdeeiaaDoorRefId
import Derived.Test.YtlllejgpmdeeiaaDoorLook
namespace Go.Proofs.YtlllejgpmdeeiaaDoor
open Go.ChangeShapes Go.WideShapes Go.ChangeAt Go.RowKit
set_option linter.unusedVariables false

theorem hu33 : ∃ fs, Tryd.prog.underlying 33 = some (.struct fs) := ⟨_, Tryd.underlying33⟩
theorem sz33 : (Tryd.prog.info? 33).map (·.size) = some 24 := by kernel_rfl
/-- What the reference's Read and rest answer. -/
def RefP (w w' : World) (r : Option PH) (cs : Array Value) (a E : Int) : Prop :=
  Below w.heap.size w w' ∧ cs.size = 24 ∧ cs.all (·.oneCell') = true ∧ ((E ≠ 0 ∧ r = none) ∨ (E = 0 ∧ ∃ p, r = some p ∧ cs[0]? = some (.int .i64 p.k) ∧ cs[5]? = some (.int .i64 p.len) ∧ a = p.at'))
/-- the reference's header as it lies -/
abbrev rh (k : Int) (da sa ta : Option Addr) (dn dc sn sc tn tc : Nat) (len : Int) : List Value := hc k 1 (.slice da dn dc) (.slice sa sn sc) (.slice ta tn tc) len false (.slice none 0 0) (bc zs)
theorem rh_size {k : Int} {da sa ta : Option Addr} {dn dc sn sc tn tc : Nat} {len : Int} : (rh k da sa ta dn dc sn sc tn tc len).toArray.size = 24 := rfl
theorem rh_one {k : Int} {da sa ta : Option Addr} {dn dc sn sc tn tc : Nat} {len : Int} : (rh k da sa ta dn dc sn sc tn tc len).toArray.all (·.oneCell') = true := by
  rw [List.all_toArray]; rfl
theorem two_new (w : World) (o1 o2 : Obj) : ((w.alloc o1).alloc o2).heap[w.heap.size + 1]? = some o2 := by
  have := heap_alloc_new (w.alloc o1) o2
  rw [show (w.alloc o1).heap.size = w.heap.size + 1 by simp] at this
  exact this
theorem row_set5 {w : World} {g : Nat} {k : Int} {da sa ta : Option Addr} {dn dc sn sc tn tc : Nat} {len x : Int} (h : w.heap[g]? = some (.cells (rh k da sa ta dn dc sn sc tn tc len).toArray 33 (0, 0))) : (w.setCell ⟨g, 5, none⟩ (.int .i64 x)).heap[g]? = some (.cells (rh k da sa ta dn dc sn sc tn tc x).toArray 33 (0, 0)) := by
  rw [heap_setCell_same w g 5 _ 33 _ h]; rfl
theorem row_set4 {w : World} {g : Nat} {k : Int} {da sa ta ta' : Option Addr} {dn dc sn sc tn tc tn' tc' : Nat} {len : Int} (h : w.heap[g]? = some (.cells (rh k da sa ta dn dc sn sc tn tc len).toArray 33 (0, 0))) : (w.setCell ⟨g, 4, none⟩ (.slice ta' tn' tc')).heap[g]? = some (.cells (rh k da sa ta' dn dc sn sc tn' tc' len).toArray 33 (0, 0)) := by
  rw [heap_setCell_same w g 4 _ 33 _ h]; rfl
theorem row_cells {w : World} {g : Nat} {k : Int} {da sa ta : Option Addr} {dn dc sn sc tn tc : Nat} {len : Int} (h : w.heap[g]? = some (.cells (rh k da sa ta dn dc sn sc tn tc len).toArray 33 (0, 0))) : w.cell? ⟨g, 0, none⟩ = some (.int .i64 k) ∧ w.cell? ⟨g, 4, none⟩ = some (.slice ta tn tc) ∧ w.cell? ⟨g, 5, none⟩ = some (.int .i64 len) ∧ (∀ j, w.frozen? ⟨g, j, none⟩ = false) := by
  refine ⟨?_, ?_, ?_, fun j => ?_⟩
  · unfold World.cell?; rw [h]; rfl
  · unfold World.cell?; rw [h]; rfl
  · unfold World.cell?; rw [h]; rfl
  · unfold World.frozen?; rw [h]; simp


set_option maxRecDepth 10000 in
set_option maxHeartbeats 1000000 in
theorem rest_1 (cs : Array Value) (da sa : Option Addr) (dn dc sn sc : Nat) (b off cap : Nat) (l : List UInt8) (a : Int) (d s : Option (Nat × Nat)) (w : World) (hcs : cs = (rh 1 da sa none dn dc sn sc 0 0 0).toArray) (hs : Sl w (some ⟨b, off, none⟩) l) (hl : l.length ≤ 140737488355327) (hc' : l.length ≤ cap) (hcm : cap ≤ 9223372036854775807) :
    Calls Tryd.prog 47 #[.agg cs, .slice (some ⟨b, off, none⟩) l.length cap, .int .i64 a] w fun e w' => ∃ cs' a' E, e = .returned (.tuple #[.agg cs', .int .i64 a', .int .i64 E]) ∧ RefP w w' (pLen l 1 d s none a) cs' a' E := by
  obtain ⟨d33, hd33⟩ := hu33
  have k0 : cs[0]? = some (.int .i64 1) := by rw [hcs]; rfl
  obtain ⟨vb1, vb2, vb3⟩ := v_bounds l a
  obtain ⟨r, hr⟩ : ∃ r, r = pLen l 1 d s none a := ⟨_, rfl⟩
  rw [← hr]
  have HRR := mkHid hr
  have HV := mkHid (vb3)
  have HCS := mkHid hcs
  have HS := mkHid hs
  clear hcs hs hr vb3
  go_enter Tryd.func47, Tryd.ntmps47
  go_wp2_with fail
  refine (rread_any (some ⟨b, off, none⟩) l cap a _ ?_ (by omega) hc' hcm).mono ?_
  · exact Sl_alloc (Sl_alloc HS.out (.cells cs 33)) (.cells zr 33)
  rintro e w2 ⟨rfl, hB2⟩
  have HB2 : Hid (Below w.heap.size w w2) := (((Below.refl w.heap.size w).alloc (Nat.le_refl _) (.cells cs 33)).alloc (by simp) (.cells zr 33)).trans (hB2.mono (by simp; omega))
  have HR0 : Hid (w2.heap[w.heap.size]? = some (.cells (rh 1 da sa none dn dc sn sc 0 0 0).toArray 33 (0, 0))) := by
    rw [← HCS.out]
    refine (hB2.block w.heap.size (by simp; omega)).trans ?_
    rw [Below.heap_alloc _ _ _ (by simp)]
    exact heap_alloc_new w _
  have HR1 : Hid (w2.heap[w.heap.size + 1]? = some (.cells zr 33 (0, 0))) := by
    refine (hB2.block (w.heap.size + 1) (by simp)).trans ?_
    exact two_new w _ (.cells zr 33)
  clear hB2
  by_cases hE : vE l a = 0
  · obtain ⟨u1, u2, u3⟩ := HV.out hE
    by_cases hf : vN l a + vV l a ≤ l.length
    · have HN : Hid (r = some ⟨1, 1, d, s, none, vV l a, false, [], zs, vN l a⟩) := HRR.out.trans (if_pos ⟨hE, hf⟩)
      rw [hE]
      generalize vV l a = V at *
      generalize vN l a = N at *
      obtain ⟨c0, c4, c5, f0⟩ := row_cells HR0.out
      have HR5 := mkHid (row_set5 (x := V) HR0.out)
      have HR15 : Hid ((w2.setCell ⟨w.heap.size, 5, none⟩ (.int .i64 V)).heap[w.heap.size + 1]? = some (.cells zr 33 (0, 0))) := (Below.heap_setCell _ _ _ _ (by show w.heap.size + 1 ≠ w.heap.size; omega)).trans HR1.out
      clear hE HRR HV
      go_wp2_with (first
        | (refine wpList_load_row rfl 33 (.tmp 3) rfl w.heap.size rfl 33 _ (0, 0) (.struct d33) HR5.out hd33 rfl sz33 ?_)
        | (refine wpList_store_row rfl 33 (.tmp 6) (.tmp 117) rfl (w.heap.size + 1) (rh 1 da sa none dn dc sn sc 0 0 V).toArray rfl rfl 33 zr HR15.out sz33 rfl rh_one ?_))
      refine bodyPost_ret (v := .tuple #[.agg (rh 1 da sa none dn dc sn sc 0 0 V).toArray, .int .i64 N, .int .i64 0]) (results_cell2 (fn := Tryd.f47) (p := 6) (u := 7) (v := 8) (ty := 33) rfl _ _ (w.heap.size + 1) 33 _ (0, 0) d33 rfl (setRow_heap _ _ _ _ 33 _ HR15.out) hd33 sz33) rfl ?_
      refine ⟨_, _, _, rfl, below_setRow (HB2.out.setCell (Nat.le_refl _) _) (by omega) _, rfl, rh_one, .inr ⟨rfl, _, HN.out, rfl, rfl, rfl⟩⟩
    · have HN : Hid (r = none) := HRR.out.trans (if_neg (fun h => hf h.2))
      rw [hE]
      generalize vV l a = V at *
      generalize vN l a = N at *
      clear hE HRR HV
      go_wp2_with ((refine wpList_store_row rfl 33 (.tmp 6) (.tmp 114) rfl (w.heap.size + 1) zr rfl rfl 33 zr HR1.out sz33 rfl zr_one ?_))
      refine bodyPost_ret (v := .tuple #[.agg zr, .int .i64 0, .int .i64 10]) (results_cell2 (fn := Tryd.f47) (p := 6) (u := 7) (v := 8) (ty := 33) rfl _ _ (w.heap.size + 1) 33 zr (0, 0) d33 rfl (setRow_heap _ _ _ _ 33 _ HR1.out) hd33 sz33) rfl ?_
      exact ⟨_, _, _, rfl, below_setRow HB2.out (by omega) _, rfl, zr_one, .inl ⟨by decide, HN.out⟩⟩
  · have HN : Hid (r = none) := HRR.out.trans (if_neg (fun h => hE h.1))
    have hb : (vE l a != 0) = true := by simp [hE]
    generalize vV l a = V at *
    generalize vN l a = N at *
    generalize vE l a = E at *
    clear HRR HV
    go_wp2_with ((refine wpList_store_row rfl 33 (.tmp 6) (.tmp 114) rfl (w.heap.size + 1) zr rfl rfl 33 zr HR1.out sz33 rfl zr_one ?_))
    refine bodyPost_ret (v := .tuple #[.agg zr, .int .i64 0, .int .i64 10]) (results_cell2 (fn := Tryd.f47) (p := 6) (u := 7) (v := 8) (ty := 33) rfl _ _ (w.heap.size + 1) 33 zr (0, 0) d33 rfl (setRow_heap _ _ _ _ 33 _ HR1.out) hd33 sz33) rfl ?_
    exact ⟨_, _, _, rfl, below_setRow HB2.out (by omega) _, rfl, zr_one, .inl ⟨by decide, HN.out⟩⟩


set_option maxRecDepth 10000 in
set_option maxHeartbeats 1000000 in
theorem rest_2 (cs : Array Value) (da sa : Option Addr) (dn dc sn sc : Nat) (b off cap : Nat) (l : List UInt8) (a : Int) (d s : Option (Nat × Nat)) (w : World) (hcs : cs = (rh 2 da sa none dn dc sn sc 0 0 0).toArray) (hs : Sl w (some ⟨b, off, none⟩) l) (hl : l.length ≤ 140737488355327) (hc' : l.length ≤ cap) (hcm : cap ≤ 9223372036854775807) :
    Calls Tryd.prog 47 #[.agg cs, .slice (some ⟨b, off, none⟩) l.length cap, .int .i64 a] w fun e w' => ∃ cs' a' E, e = .returned (.tuple #[.agg cs', .int .i64 a', .int .i64 E]) ∧ RefP w w' (pLen l 2 d s none a) cs' a' E := by
  obtain ⟨d33, hd33⟩ := hu33
  have k0 : cs[0]? = some (.int .i64 2) := by rw [hcs]; rfl
  obtain ⟨vb1, vb2, vb3⟩ := v_bounds l a
  obtain ⟨r, hr⟩ : ∃ r, r = pLen l 2 d s none a := ⟨_, rfl⟩
  rw [← hr]
  have HRR := mkHid hr
  have HV := mkHid (vb3)
  have HCS := mkHid hcs
  have HS := mkHid hs
  clear hcs hs hr vb3
  go_enter Tryd.func47, Tryd.ntmps47
  go_wp2_with fail
  refine (rread_any (some ⟨b, off, none⟩) l cap a _ ?_ (by omega) hc' hcm).mono ?_
  · exact Sl_alloc (Sl_alloc HS.out (.cells cs 33)) (.cells zr 33)
  rintro e w2 ⟨rfl, hB2⟩
  have HB2 : Hid (Below w.heap.size w w2) := (((Below.refl w.heap.size w).alloc (Nat.le_refl _) (.cells cs 33)).alloc (by simp) (.cells zr 33)).trans (hB2.mono (by simp; omega))
  have HR0 : Hid (w2.heap[w.heap.size]? = some (.cells (rh 2 da sa none dn dc sn sc 0 0 0).toArray 33 (0, 0))) := by
    rw [← HCS.out]
    refine (hB2.block w.heap.size (by simp; omega)).trans ?_
    rw [Below.heap_alloc _ _ _ (by simp)]
    exact heap_alloc_new w _
  have HR1 : Hid (w2.heap[w.heap.size + 1]? = some (.cells zr 33 (0, 0))) := by
    refine (hB2.block (w.heap.size + 1) (by simp)).trans ?_
    exact two_new w _ (.cells zr 33)
  clear hB2
  by_cases hE : vE l a = 0
  · obtain ⟨u1, u2, u3⟩ := HV.out hE
    by_cases hf : vN l a + vV l a ≤ l.length
    · have HN : Hid (r = some ⟨2, 1, d, s, none, vV l a, false, [], zs, vN l a⟩) := HRR.out.trans (if_pos ⟨hE, hf⟩)
      rw [hE]
      generalize vV l a = V at *
      generalize vN l a = N at *
      obtain ⟨c0, c4, c5, f0⟩ := row_cells HR0.out
      have HR5 := mkHid (row_set5 (x := V) HR0.out)
      have HR15 : Hid ((w2.setCell ⟨w.heap.size, 5, none⟩ (.int .i64 V)).heap[w.heap.size + 1]? = some (.cells zr 33 (0, 0))) := (Below.heap_setCell _ _ _ _ (by show w.heap.size + 1 ≠ w.heap.size; omega)).trans HR1.out
      clear hE HRR HV
      go_wp2_with (first
        | (refine wpList_load_row rfl 33 (.tmp 3) rfl w.heap.size rfl 33 _ (0, 0) (.struct d33) HR5.out hd33 rfl sz33 ?_)
        | (refine wpList_store_row rfl 33 (.tmp 6) (.tmp 117) rfl (w.heap.size + 1) (rh 2 da sa none dn dc sn sc 0 0 V).toArray rfl rfl 33 zr HR15.out sz33 rfl rh_one ?_))
      refine bodyPost_ret (v := .tuple #[.agg (rh 2 da sa none dn dc sn sc 0 0 V).toArray, .int .i64 N, .int .i64 0]) (results_cell2 (fn := Tryd.f47) (p := 6) (u := 7) (v := 8) (ty := 33) rfl _ _ (w.heap.size + 1) 33 _ (0, 0) d33 rfl (setRow_heap _ _ _ _ 33 _ HR15.out) hd33 sz33) rfl ?_
      refine ⟨_, _, _, rfl, below_setRow (HB2.out.setCell (Nat.le_refl _) _) (by omega) _, rfl, rh_one, .inr ⟨rfl, _, HN.out, rfl, rfl, rfl⟩⟩
    · have HN : Hid (r = none) := HRR.out.trans (if_neg (fun h => hf h.2))
      rw [hE]
      generalize vV l a = V at *
      generalize vN l a = N at *
      clear hE HRR HV
      go_wp2_with ((refine wpList_store_row rfl 33 (.tmp 6) (.tmp 114) rfl (w.heap.size + 1) zr rfl rfl 33 zr HR1.out sz33 rfl zr_one ?_))
      refine bodyPost_ret (v := .tuple #[.agg zr, .int .i64 0, .int .i64 10]) (results_cell2 (fn := Tryd.f47) (p := 6) (u := 7) (v := 8) (ty := 33) rfl _ _ (w.heap.size + 1) 33 zr (0, 0) d33 rfl (setRow_heap _ _ _ _ 33 _ HR1.out) hd33 sz33) rfl ?_
      exact ⟨_, _, _, rfl, below_setRow HB2.out (by omega) _, rfl, zr_one, .inl ⟨by decide, HN.out⟩⟩
  · have HN : Hid (r = none) := HRR.out.trans (if_neg (fun h => hE h.1))
    have hb : (vE l a != 0) = true := by simp [hE]
    generalize vV l a = V at *
    generalize vN l a = N at *
    generalize vE l a = E at *
    clear HRR HV
    go_wp2_with ((refine wpList_store_row rfl 33 (.tmp 6) (.tmp 114) rfl (w.heap.size + 1) zr rfl rfl 33 zr HR1.out sz33 rfl zr_one ?_))
    refine bodyPost_ret (v := .tuple #[.agg zr, .int .i64 0, .int .i64 10]) (results_cell2 (fn := Tryd.f47) (p := 6) (u := 7) (v := 8) (ty := 33) rfl _ _ (w.heap.size + 1) 33 zr (0, 0) d33 rfl (setRow_heap _ _ _ _ 33 _ HR1.out) hd33 sz33) rfl ?_
    exact ⟨_, _, _, rfl, below_setRow HB2.out (by omega) _, rfl, zr_one, .inl ⟨by decide, HN.out⟩⟩


set_option maxRecDepth 10000 in
set_option maxHeartbeats 1000000 in
theorem rest_0 (cs : Array Value) (da sa : Option Addr) (dn dc sn sc : Nat) (b off cap : Nat) (l : List UInt8) (a : Int) (d s : Option (Nat × Nat)) (w : World) (hcs : cs = (rh 0 da sa none dn dc sn sc 0 0 0).toArray) (hs : Sl w (some ⟨b, off, none⟩) l) (hl : l.length ≤ 140737488355327) (hc' : l.length ≤ cap) (hcm : cap ≤ 9223372036854775807) :
    Calls Tryd.prog 47 #[.agg cs, .slice (some ⟨b, off, none⟩) l.length cap, .int .i64 a] w fun e w' => ∃ cs' a' E, e = .returned (.tuple #[.agg cs', .int .i64 a', .int .i64 E]) ∧ RefP w w' (pInitial l d s a) cs' a' E := by
  obtain ⟨d33, hd33⟩ := hu33
  obtain ⟨i0, hi, hz0, hz1, hz2⟩ := info_parts info5
  have k0 : cs[0]? = some (.int .i64 0) := by rw [hcs]; rfl
  obtain ⟨vb1, vb2, vb3⟩ := v_bounds l a
  obtain ⟨r, hr⟩ : ∃ r, r = pInitial l d s a := ⟨_, rfl⟩
  rw [← hr]
  have HRR := mkHid hr
  have HV := mkHid (vb3)
  have HCS := mkHid hcs
  have HS := mkHid hs
  clear hcs hs hr vb3
  go_enter Tryd.func47, Tryd.ntmps47
  go_wp2_with fail
  refine (rread_any (some ⟨b, off, none⟩) l cap a _ ?_ (by omega) hc' hcm).mono ?_
  · exact Sl_alloc (Sl_alloc HS.out (.cells cs 33)) (.cells zr 33)
  rintro e w2 ⟨rfl, hB2⟩
  have HB2 : Hid (Below w.heap.size w w2) := (((Below.refl w.heap.size w).alloc (Nat.le_refl _) (.cells cs 33)).alloc (by simp) (.cells zr 33)).trans (hB2.mono (by simp; omega))
  have hlt2 : w.heap.size + 2 ≤ w2.heap.size := by have := hB2.size; simp at this; omega
  have HR0 : Hid (w2.heap[w.heap.size]? = some (.cells (rh 0 da sa none dn dc sn sc 0 0 0).toArray 33 (0, 0))) := by
    rw [← HCS.out]
    refine (hB2.block w.heap.size (by simp; omega)).trans ?_
    rw [Below.heap_alloc _ _ _ (by simp)]
    exact heap_alloc_new w _
  have HR1 : Hid (w2.heap[w.heap.size + 1]? = some (.cells zr 33 (0, 0))) := by
    refine (hB2.block (w.heap.size + 1) (by simp)).trans ?_
    exact two_new w _ (.cells zr 33)
  clear hB2
  by_cases hE : vE l a = 0
  · obtain ⟨u1, u2, u3⟩ := HV.out hE
    by_cases hbig : vV l a ≤ 512
    · by_cases hf : vN l a + vV l a ≤ l.length
      · have HP : Hid (r = pLen l 0 d s (some ((vN l a).toNat, (vV l a).toNat)) (vN l a + vV l a)) := HRR.out.trans (if_pos ⟨hE, hbig, hf⟩)
        rw [hE]
        obtain ⟨V, hV⟩ := Int.eq_ofNat_of_zero_le vb1
        obtain ⟨N, hN⟩ := Int.eq_ofNat_of_zero_le (show 0 ≤ vN l a by omega)
        rw [hV, hN] at HP
        rw [hV] at hbig hf ⊢
        rw [hN] at u2 u3 hf ⊢
        clear HV HRR hV hN hE vb1 vb2
        obtain ⟨c0, c4, c5, f0⟩ := row_cells HR0.out
        have hpos : 0 < l.length := by omega
        have blt : b < w.heap.size := by
          obtain ⟨b', off', he, hx⟩ := HS.out 0 hpos
          simp only [Option.some.injEq, Addr.mk.injEq, and_true] at he
          obtain ⟨rfl, rfl⟩ := he
          exact World.block_lt_of_cell? w _ hx
        rw [Int.toNat_natCast, Int.toNat_natCast] at HP
        by_cases hcap : cap = N
        · have hV0 : V = 0 := by omega
          subst hV0
          have HPc : Hid (Sl w2 (some ⟨b, off, none⟩) (sub l N 0)) := Sl_cut off (Sl_below HS.out HB2.out) (by omega) (by omega)
          have HSUB := mkHid (sub_length l N 0 (by omega))
          have hP2 := HP.out
          simp only [Int.natCast_zero, Int.add_zero] at hP2
          have HP := mkHid hP2
          clear hP2
          subst hcap
          go_wp2_with ((at_builtin; refine wpList_append_bytes rfl (.tmp 85) (.tmp 91) rfl w2.heap.size i0 Tryd.underlying22 hi hz0 hz1 hz2 _ 0 [] rfl (World.ownsRow_made w2 #[] 0 (Nat.le_refl _) (by decide) rfl) (some ⟨b, off, none⟩) 0 0 (sub l cap 0) rfl HSUB.out (fun h => by cases h) (Sl_alloc HPc.out _) (by omega) (by simp) ?_; intro v1 w3 hown hgrow; obtain ⟨oa, cp, hv, hy, hB3⟩ := id_end HSUB.out (by omega) hown hgrow; subst hv; clear hown hgrow; have HB3 : Hid (Below w.heap.size w w3) := HB2.out.trans (hB3.mono (by omega)); have HR03 : Hid (w3.heap[w.heap.size]? = some (.cells (rh 0 da sa none dn dc sn sc 0 0 0).toArray 33 (0, 0))) := (hB3.block w.heap.size (by omega)).trans HR0.out; have HR13 : Hid (w3.heap[w.heap.size + 1]? = some (.cells zr 33 (0, 0))) := (hB3.block (w.heap.size + 1) (by omega)).trans HR1.out; have hs3 := hB3.size; clear hy hB3; obtain ⟨x0, x4, x5, xf⟩ := row_cells HR03.out))
          refine (rread_any (some ⟨b, off, none⟩) l cap ((cap : Int)) _ ?_ (by omega) hc' hcm).mono ?_
          · exact Sl.setOther (Sl_below HS.out HB3.out) (by show b ≠ w.heap.size; omega) _
          rintro e w4 ⟨rfl, hB4⟩
          have hsz4 : w3.heap.size ≤ w4.heap.size := by have := hB4.size; simpa [World.setCell] using this
          have HB4 : Hid (Below w.heap.size w w4) := (HB3.out.setCell (p := ⟨w.heap.size, 4, none⟩) (Nat.le_refl _) (.slice oa 0 cp)).trans (hB4.mono (by simp [World.setCell]; omega))
          have HR04 : Hid (w4.heap[w.heap.size]? = some (.cells (rh 0 da sa oa dn dc sn sc 0 cp 0).toArray 33 (0, 0))) := (hB4.block w.heap.size (by simp [World.setCell]; omega)).trans (row_set4 HR03.out)
          have HR14 : Hid (w4.heap[w.heap.size + 1]? = some (.cells zr 33 (0, 0))) := (hB4.block (w.heap.size + 1) (by simp [World.setCell]; omega)).trans ((Below.heap_setCell _ _ _ _ (by show w.heap.size + 1 ≠ w.heap.size; omega)).trans HR13.out)
          clear hB4
          obtain ⟨y1, y2, y3⟩ := v_bounds l ((cap : Int))
          by_cases hE2 : vE l ((cap : Int)) = 0
          · obtain ⟨z1, z2, z3⟩ := y3 hE2
            exfalso
            omega
          · have HN : Hid (r = none) := HP.out.trans (if_neg (fun h => hE2 h.1))
            have hbe : (vE l ((cap : Int)) != 0) = true := by simp [hE2]
            clear HP y3
            generalize vV l ((cap : Int)) = V2 at *
            generalize vN l ((cap : Int)) = N2 at *
            generalize vE l ((cap : Int)) = E2 at *
            go_wp2_with ((refine wpList_store_row rfl 33 (.tmp 6) (.tmp 114) rfl (w.heap.size + 1) zr rfl rfl 33 zr HR14.out sz33 rfl zr_one ?_))
            refine bodyPost_ret (v := .tuple #[.agg zr, .int .i64 0, .int .i64 10]) (results_cell2 (fn := Tryd.f47) (p := 6) (u := 7) (v := 8) (ty := 33) rfl _ _ (w.heap.size + 1) 33 zr (0, 0) d33 rfl (setRow_heap _ _ _ _ 33 _ HR14.out) hd33 sz33) rfl ?_
            exact ⟨_, _, _, rfl, below_setRow HB4.out (by omega) _, rfl, zr_one, .inl ⟨by decide, HN.out⟩⟩
        · have e1 : ¬ (cap : Int) = (N : Int) := by omega
          have HPc : Hid (Sl w2 (some ⟨b, off + N, none⟩) (sub l N V)) := Sl_cut (off + N) (Sl_below HS.out HB2.out) (by omega) (fun _ => rfl)
          have HSUB := mkHid (sub_length l N V (by omega))
          go_wp2_with ((at_builtin; refine wpList_append_bytes rfl (.tmp 85) (.tmp 91) rfl w2.heap.size i0 Tryd.underlying22 hi hz0 hz1 hz2 _ 0 [] rfl (World.ownsRow_made w2 #[] 0 (Nat.le_refl _) (by decide) rfl) (some ⟨b, off + N, none⟩) (N + V - N) (cap - N) (sub l N V) rfl (by rw [HSUB.out]; omega) (fun h => by cases h) (Sl_alloc HPc.out _) (by omega) (by simp) ?_; intro v1 w3 hown hgrow; obtain ⟨oa, cp, hv, hy, hB3⟩ := id_end HSUB.out (by omega) hown hgrow; subst hv; clear hown hgrow; have HB3 : Hid (Below w.heap.size w w3) := HB2.out.trans (hB3.mono (by omega)); have HR03 : Hid (w3.heap[w.heap.size]? = some (.cells (rh 0 da sa none dn dc sn sc 0 0 0).toArray 33 (0, 0))) := (hB3.block w.heap.size (by omega)).trans HR0.out; have HR13 : Hid (w3.heap[w.heap.size + 1]? = some (.cells zr 33 (0, 0))) := (hB3.block (w.heap.size + 1) (by omega)).trans HR1.out; have hs3 := hB3.size; clear hy hB3; obtain ⟨x0, x4, x5, xf⟩ := row_cells HR03.out))
          refine (rread_any (some ⟨b, off, none⟩) l cap ((N : Int) + (V : Int)) _ ?_ (by omega) hc' hcm).mono ?_
          · exact Sl.setOther (Sl_below HS.out HB3.out) (by show b ≠ w.heap.size; omega) _
          rintro e w4 ⟨rfl, hB4⟩
          have hsz4 : w3.heap.size ≤ w4.heap.size := by have := hB4.size; simpa [World.setCell] using this
          have HB4 : Hid (Below w.heap.size w w4) := (HB3.out.setCell (p := ⟨w.heap.size, 4, none⟩) (Nat.le_refl _) (.slice oa V cp)).trans (hB4.mono (by simp [World.setCell]; omega))
          have HR04 : Hid (w4.heap[w.heap.size]? = some (.cells (rh 0 da sa oa dn dc sn sc V cp 0).toArray 33 (0, 0))) := (hB4.block w.heap.size (by simp [World.setCell]; omega)).trans (row_set4 HR03.out)
          have HR14 : Hid (w4.heap[w.heap.size + 1]? = some (.cells zr 33 (0, 0))) := (hB4.block (w.heap.size + 1) (by simp [World.setCell]; omega)).trans ((Below.heap_setCell _ _ _ _ (by show w.heap.size + 1 ≠ w.heap.size; omega)).trans HR13.out)
          clear hB4
          obtain ⟨y1, y2, y3⟩ := v_bounds l ((N : Int) + (V : Int))
          by_cases hE2 : vE l ((N : Int) + (V : Int)) = 0
          · obtain ⟨z1, z2, z3⟩ := y3 hE2
            clear y3
            by_cases hg : vN l ((N : Int) + (V : Int)) + vV l ((N : Int) + (V : Int)) ≤ l.length
            · have HN : Hid (r = some ⟨0, 1, d, s, some (N, V), vV l ((N : Int) + (V : Int)), false, [], zs, vN l ((N : Int) + (V : Int))⟩) := HP.out.trans (if_pos ⟨hE2, hg⟩)
              rw [hE2]
              clear HP
              generalize vV l ((N : Int) + (V : Int)) = V2 at *
              generalize vN l ((N : Int) + (V : Int)) = N2 at *
              obtain ⟨t0, t4, t5, tf⟩ := row_cells HR04.out
              have HR5 := mkHid (row_set5 (x := V2) HR04.out)
              have HR15 : Hid ((w4.setCell ⟨w.heap.size, 5, none⟩ (.int .i64 V2)).heap[w.heap.size + 1]? = some (.cells zr 33 (0, 0))) := (Below.heap_setCell _ _ _ _ (by show w.heap.size + 1 ≠ w.heap.size; omega)).trans HR14.out
              clear hE2
              go_wp2_with (first
                | (refine wpList_load_row rfl 33 (.tmp 3) rfl w.heap.size rfl 33 _ (0, 0) (.struct d33) HR5.out hd33 rfl sz33 ?_)
                | (refine wpList_store_row rfl 33 (.tmp 6) (.tmp 117) rfl (w.heap.size + 1) (rh 0 da sa oa dn dc sn sc V cp V2).toArray rfl rfl 33 zr HR15.out sz33 rfl rh_one ?_))
              refine bodyPost_ret (v := .tuple #[.agg (rh 0 da sa oa dn dc sn sc V cp V2).toArray, .int .i64 N2, .int .i64 0]) (results_cell2 (fn := Tryd.f47) (p := 6) (u := 7) (v := 8) (ty := 33) rfl _ _ (w.heap.size + 1) 33 _ (0, 0) d33 rfl (setRow_heap _ _ _ _ 33 _ HR15.out) hd33 sz33) rfl ?_
              exact ⟨_, _, _, rfl, below_setRow (HB4.out.setCell (Nat.le_refl _) _) (by omega) _, rfl, rh_one, .inr ⟨rfl, _, HN.out, rfl, rfl, rfl⟩⟩
            · have HN : Hid (r = none) := HP.out.trans (if_neg (fun h => hg h.2))
              rw [hE2]
              clear HP
              generalize vV l ((N : Int) + (V : Int)) = V2 at *
              generalize vN l ((N : Int) + (V : Int)) = N2 at *
              clear hE2
              go_wp2_with ((refine wpList_store_row rfl 33 (.tmp 6) (.tmp 114) rfl (w.heap.size + 1) zr rfl rfl 33 zr HR14.out sz33 rfl zr_one ?_))
              refine bodyPost_ret (v := .tuple #[.agg zr, .int .i64 0, .int .i64 10]) (results_cell2 (fn := Tryd.f47) (p := 6) (u := 7) (v := 8) (ty := 33) rfl _ _ (w.heap.size + 1) 33 zr (0, 0) d33 rfl (setRow_heap _ _ _ _ 33 _ HR14.out) hd33 sz33) rfl ?_
              exact ⟨_, _, _, rfl, below_setRow HB4.out (by omega) _, rfl, zr_one, .inl ⟨by decide, HN.out⟩⟩
          · have HN : Hid (r = none) := HP.out.trans (if_neg (fun h => hE2 h.1))
            have hbe : (vE l ((N : Int) + (V : Int)) != 0) = true := by simp [hE2]
            clear HP y3
            generalize vV l ((N : Int) + (V : Int)) = V2 at *
            generalize vN l ((N : Int) + (V : Int)) = N2 at *
            generalize vE l ((N : Int) + (V : Int)) = E2 at *
            go_wp2_with ((refine wpList_store_row rfl 33 (.tmp 6) (.tmp 114) rfl (w.heap.size + 1) zr rfl rfl 33 zr HR14.out sz33 rfl zr_one ?_))
            refine bodyPost_ret (v := .tuple #[.agg zr, .int .i64 0, .int .i64 10]) (results_cell2 (fn := Tryd.f47) (p := 6) (u := 7) (v := 8) (ty := 33) rfl _ _ (w.heap.size + 1) 33 zr (0, 0) d33 rfl (setRow_heap _ _ _ _ 33 _ HR14.out) hd33 sz33) rfl ?_
            exact ⟨_, _, _, rfl, below_setRow HB4.out (by omega) _, rfl, zr_one, .inl ⟨by decide, HN.out⟩⟩
      · have HN : Hid (r = none) := HRR.out.trans (if_neg (fun h => hf h.2.2))
        rw [hE]
        generalize vV l a = V at *
        generalize vN l a = N at *
        clear hE HRR HV
        go_wp2_with ((refine wpList_store_row rfl 33 (.tmp 6) (.tmp 84) rfl (w.heap.size + 1) zr rfl rfl 33 zr HR1.out sz33 rfl zr_one ?_))
        refine bodyPost_ret (v := .tuple #[.agg zr, .int .i64 0, .int .i64 10]) (results_cell2 (fn := Tryd.f47) (p := 6) (u := 7) (v := 8) (ty := 33) rfl _ _ (w.heap.size + 1) 33 zr (0, 0) d33 rfl (setRow_heap _ _ _ _ 33 _ HR1.out) hd33 sz33) rfl ?_
        exact ⟨_, _, _, rfl, below_setRow HB2.out (by omega) _, rfl, zr_one, .inl ⟨by decide, HN.out⟩⟩
    · have HN : Hid (r = none) := HRR.out.trans (if_neg (fun h => hbig h.2.1))
      rw [hE]
      generalize vV l a = V at *
      generalize vN l a = N at *
      clear hE HRR HV
      go_wp2_with ((refine wpList_store_row rfl 33 (.tmp 6) (.tmp 77) rfl (w.heap.size + 1) zr rfl rfl 33 zr HR1.out sz33 rfl zr_one ?_))
      refine bodyPost_ret (v := .tuple #[.agg zr, .int .i64 0, .int .i64 11]) (results_cell2 (fn := Tryd.f47) (p := 6) (u := 7) (v := 8) (ty := 33) rfl _ _ (w.heap.size + 1) 33 zr (0, 0) d33 rfl (setRow_heap _ _ _ _ 33 _ HR1.out) hd33 sz33) rfl ?_
      exact ⟨_, _, _, rfl, below_setRow HB2.out (by omega) _, rfl, zr_one, .inl ⟨by decide, HN.out⟩⟩
  · have HN : Hid (r = none) := HRR.out.trans (if_neg (fun h => hE h.1))
    have hb : (vE l a != 0) = true := by simp [hE]
    generalize vV l a = V at *
    generalize vN l a = N at *
    generalize vE l a = E at *
    clear HRR HV
    go_wp2_with ((refine wpList_store_row rfl 33 (.tmp 6) (.tmp 74) rfl (w.heap.size + 1) zr rfl rfl 33 zr HR1.out sz33 rfl zr_one ?_))
    refine bodyPost_ret (v := .tuple #[.agg zr, .int .i64 0, .int .i64 10]) (results_cell2 (fn := Tryd.f47) (p := 6) (u := 7) (v := 8) (ty := 33) rfl _ _ (w.heap.size + 1) 33 zr (0, 0) d33 rfl (setRow_heap _ _ _ _ 33 _ HR1.out) hd33 sz33) rfl ?_
    exact ⟨_, _, _, rfl, below_setRow HB2.out (by omega) _, rfl, zr_one, .inl ⟨by decide, HN.out⟩⟩

end Go.Proofs.YtlllejgpmdeeiaaDoor
