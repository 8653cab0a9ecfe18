/- What the reference's rest answers for Retry: a contract. -/
import Derived.Test.YtlllejgpmdeeiaaDoorRefRest
import Derived.Deep.LoopGhost
namespace Go.Proofs.YtlllejgpmdeeiaaDoor
open Go.ChangeShapes Go.WideShapes Go.ChangeAt Go.RowKit
set_option linter.unusedVariables false

theorem row_tag {w : World} {g : Nat} {k ver : Int} {d s t : Value} {len : Int} {ph : Bool} {lv : Value} {tg : List Value} (j : Nat) (x : Value) (hj : j < 16) (h : w.heap[g]? = some (.cells (hc k ver d s t len ph lv tg).toArray 33 (0, 0))) (htg : tg.length = 16) :
    (w.setCell ⟨g, 8 + j, none⟩ x).heap[g]? = some (.cells (hc k ver d s t len ph lv (tg.set j x)).toArray 33 (0, 0)) := by
  rw [heap_setCell_same w g (8 + j) _ 33 _ h]
  congr 2
  apply Array.ext'
  simp only [Array.toList_setIfInBounds, hc]
  rw [List.set_append_right _ _ (by simp)]
  simp
theorem row_tagc {w : World} {g : Nat} {k ver : Int} {d s t : Value} {len : Int} {ph : Bool} {lv : Value} {tg : List Value} (j : Nat) (hj : j < 16) (h : w.heap[g]? = some (.cells (hc k ver d s t len ph lv tg).toArray 33 (0, 0))) (htg : tg.length = 16) :
    (∃ v, w.cell? ⟨g, 8 + j, none⟩ = some v) ∧ (∀ i, w.frozen? ⟨g, i, none⟩ = false) := by
  refine ⟨⟨tg[j]'(by omega), ?_⟩, fun i => ?_⟩
  · unfold World.cell?
    rw [h]
    have e : (hc k ver d s t len ph lv tg)[8 + j]? = some (tg[j]'(by omega)) := by
      unfold hc
      rw [List.getElem?_append_right (by simp)]
      simp [List.getElem?_eq_getElem (show j < tg.length by omega)]
    simpa using e
  · unfold World.frozen?; rw [h]; simp
/-- the loop's relation -/
structure TR (w wr : World) (l : List UInt8) (hdr : List Value → List Value) : Prop where
  below : Below w.heap.size w wr
  row0 : ∃ tg : List Value, tg.length = 16 ∧ tg.all (·.oneCell') = true ∧ wr.heap[w.heap.size]? = some (.cells (hdr tg).toArray 33 (0, 0))
  row1 : wr.heap[w.heap.size + 1]? = some (.cells zr 33 (0, 0))

set_option maxRecDepth 10000 in
set_option maxHeartbeats 1000000 in
theorem rest_3 (cs : Array Value) (da sa : Option Addr) (dn dc sn sc : Nat) (b off cap : Nat) (l : List UInt8) (A : Nat) (d s : Option (Nat × Nat)) (w : World) (hcs : cs = (rh 3 da sa none dn dc sn sc 0 0 0).toArray) (hs : Sl w (some ⟨b, off, none⟩) l) (hl : l.length ≤ 140737488355327) (hc' : l.length ≤ cap) (hcm : cap ≤ 9223372036854775807) (hA : A ≤ l.length) (hp : 0 < l.length) :
    Calls Tryd.prog 47 #[.agg cs, .slice (some ⟨b, off, none⟩) l.length cap, .int .i64 (A : Int)] w fun e w' => ∃ cs' a' E, e = .returned (.tuple #[.agg cs', .int .i64 a', .int .i64 E]) ∧ RefP w w' (pRetry l d s A) cs' a' E := by
  obtain ⟨d33, hd33⟩ := hu33
  obtain ⟨i0, hi, hz0, hz1, hz2⟩ := info_parts info5
  have k0 : cs[0]? = some (.int .i64 3) := by rw [hcs]; rfl
  obtain ⟨r, hr⟩ : ∃ r, r = pRetry l d s A := ⟨_, rfl⟩
  rw [← hr]
  have HRR := mkHid hr
  have HCS := mkHid hcs
  have HS := mkHid hs
  have blt : b < w.heap.size := by
    obtain ⟨b', off', he, hx⟩ := hs 0 hp
    simp only [Option.some.injEq, Addr.mk.injEq, and_true] at he
    obtain ⟨rfl, rfl⟩ := he
    exact World.block_lt_of_cell? w _ hx
  obtain ⟨W1, hW1⟩ : ∃ W1 : World, W1 = (w.alloc (.cells cs 33)).alloc (.cells zr 33) := ⟨_, rfl⟩
  have HB1 : Hid (Below w.heap.size w W1) := by rw [hW1]; exact ((Below.refl w.heap.size w).alloc (Nat.le_refl _) (.cells cs 33)).alloc (by simp) (.cells zr 33)
  have HR0 : Hid (W1.heap[w.heap.size]? = some (.cells (rh 3 da sa none dn dc sn sc 0 0 0).toArray 33 (0, 0))) := by
    rw [← HCS.out, hW1, Below.heap_alloc _ _ _ (by simp)]
    exact heap_alloc_new w _
  have HR1 : Hid (W1.heap[w.heap.size + 1]? = some (.cells zr 33 (0, 0))) := by rw [hW1]; exact two_new w _ _
  have hsz1 : W1.heap.size = w.heap.size + 2 := by rw [hW1]; simp
  have HW1 := mkHid hW1
  clear hcs hs hr hW1
  by_cases h16 : (l.length : Int) - A < 16
  · have HN : Hid (r = none) := HRR.out.trans (if_neg (by omega))
    have HX : Hid (((w.alloc (.cells cs 33)).alloc (.cells zr 33)).heap[w.heap.size + 1]? = some (.cells zr 33 (0, 0))) := two_new w _ _
    clear HRR
    go_enter Tryd.func47, Tryd.ntmps47
    go_wp2_with ((refine wpList_store_row rfl 33 (.tmp 6) (.tmp 23) rfl (w.heap.size + 1) zr rfl rfl 33 zr HX.out sz33 rfl zr_one ?_))
    refine bodyPost_ret (v := .tuple #[.agg zr, .int .i64 0, .int .i64 10]) (results_cell2 (fn := Tryd.f47) (p := 6) (u := 7) (v := 8) (ty := 33) rfl _ _ (w.heap.size + 1) 33 zr (0, 0) d33 rfl (setRow_heap _ _ _ _ 33 _ HX.out) hd33 sz33) rfl ?_
    exact ⟨_, _, _, rfl, below_setRow (by rw [HW1.out] at HB1; exact HB1.out) (by omega) _, rfl, zr_one, .inl ⟨by decide, HN.out⟩⟩
  · obtain ⟨N, hN⟩ : ∃ N : Nat, l.length = A + N + 16 := ⟨l.length - A - 16, by omega⟩
    have e1 : ¬ (cap : Int) = (A : Int) := by omega
    have e2 : ¬ cap = A := by omega
    have hNE : l.length - 16 - A = N := by omega
    have HPc : Hid (Sl W1 (some ⟨b, off + A, none⟩) (sub l A N)) := Sl_cut (off + A) (Sl_below HS.out HB1.out) (by omega) (fun _ => rfl)
    have HSUB := mkHid ((sub_length l A N (by omega)).trans hNE.symm)
    have HNL := mkHid hN
    have HNE := mkHid hNE
    have hN1 : N ≤ l.length := by omega
    have HOWN : Hid ((W1.alloc (.cells #[] 5)).ownsRow (w.heap.size + 2) 5 1 (.slice (some ⟨w.heap.size + 2, 0, none⟩) 0 0) 0 []) := by
      have h := World.ownsRow_made (base := w.heap.size + 2) (e := 5) (size := 1) W1 #[] 0 (by omega) (by decide) rfl
      rw [hsz1] at h
      exact h
    have HINM : Hid (∀ v2 w2, w2.ownsRow (w.heap.size + 2) 5 1 v2 (0 + (l.length - 16 - A)) ([] ++ bc (sub l A N)) → (W1.alloc (.cells #[] 5)).grownBy w2 (Value.slice (some ⟨w.heap.size + 2, 0, none⟩) 0 0).ownBlock → (∃ o2 c2, v2 = .slice o2 N c2) ∧ Below w.heap.size w w2 ∧ w2.heap[w.heap.size]? = some (.cells (rh 3 da sa none dn dc sn sc 0 0 0).toArray 33 (0, 0)) ∧ w2.heap[w.heap.size + 1]? = some (.cells zr 33 (0, 0))) := by
      intro v2 w2 ho hg
      have hb : Below W1.heap.size W1 w2 := ((Below.refl W1.heap.size W1).alloc (Nat.le_refl _) _).grown hg (by simp) (fun k hk => by simp [Value.ownBlock] at hk; omega)
      have hby : By (w.heap.size + 2) w2 v2 (sub l A N) := by
        rw [Nat.zero_add, List.nil_append, ← HSUB.out] at ho
        exact ho
      obtain ⟨o2, c2, he, _⟩ := hby.parts
      rw [HSUB.out, HNE.out] at he
      exact ⟨⟨o2, c2, he⟩, HB1.out.trans (hb.mono (by omega)), (hb.block _ (by omega)).trans HR0.out, (hb.block _ (by omega)).trans HR1.out⟩
    rw [HW1.out] at HOWN HPc HINM
    clear hN hNE
    by_cases hn0 : N = 0
    · have HN : Hid (r = none) := HRR.out.trans (if_neg (by have := HNL.out; omega))
      clear HRR
      have hb0 : ((N : Int) == 0) = true := by simp [hn0]
      clear hn0
      go_enter Tryd.func47, Tryd.ntmps47
      go_wp2_with ((at_builtin; refine wpList_append_bytes rfl (.tmp 24) (.tmp 30) rfl (w.heap.size + 2) i0 Tryd.underlying22 hi hz0 hz1 hz2 (.slice (some ⟨w.heap.size + 2, 0, none⟩) 0 0) 0 [] rfl HOWN.out (some ⟨b, off + A, none⟩) (l.length - 16 - A) (cap - A) (sub l A N) rfl HSUB.out (fun h => by cases h) (Sl_alloc HPc.out _) (by omega) (by simp) ?_; intro v2 w2 hown hgrow; obtain ⟨⟨o2, c2, hv2⟩, hb2, hr0, hr1⟩ := HINM.out v2 w2 hown hgrow; subst hv2; clear hown hgrow; have HB2 := mkHid hb2; have HR2 := mkHid hr0; have HS2 := mkHid hr1; clear hb2 hr0 hr1; refine Hid.out ?_))
      refine mkHid ?_
      have d4 : w2.cell? ⟨w.heap.size, 4, none⟩ = some (.slice none 0 0) := by unfold World.cell?; rw [HR2.out]; rfl
      have f4 : w2.frozen? ⟨w.heap.size, 4, none⟩ = false := by unfold World.frozen?; rw [HR2.out]; simp
      have s4 : (w2.setCell ⟨w.heap.size, 4, none⟩ (.slice o2 N c2)).cell? ⟨w.heap.size, 4, none⟩ = some (.slice o2 N c2) := by unfold World.cell?; rw [heap_setCell_same w2 w.heap.size 4 _ 33 _ HR2.out]; rfl
      have HX : Hid ((w2.setCell ⟨w.heap.size, 4, none⟩ (.slice o2 N c2)).heap[w.heap.size + 1]? = some (.cells zr 33 (0, 0))) := (Below.heap_setCell _ _ _ _ (by show w.heap.size + 1 ≠ w.heap.size; omega)).trans HS2.out
      have HBS : Hid (Below w.heap.size w (w2.setCell ⟨w.heap.size, 4, none⟩ (.slice o2 N c2))) := HB2.out.setCell (p := ⟨w.heap.size, 4, none⟩) (Nat.le_refl _) _
      go_wp2_with ((refine wpList_store_row rfl 33 (.tmp 6) (.tmp 43) rfl (w.heap.size + 1) zr rfl rfl 33 zr HX.out sz33 rfl zr_one ?_; refine Hid.out ?_))
      refine mkHid ?_
      go_wp2
      refine bodyPost_ret (v := .tuple #[.agg zr, .int .i64 0, .int .i64 11]) (results_cell2 (fn := Tryd.f47) (p := 6) (u := 7) (v := 8) (ty := 33) rfl _ _ (w.heap.size + 1) 33 zr (0, 0) d33 rfl (setRow_heap _ _ _ _ 33 _ HX.out) hd33 sz33) rfl ?_
      exact ⟨_, _, _, rfl, below_setRow HBS.out (by omega) _, rfl, zr_one, .inl ⟨by decide, HN.out⟩⟩
    · by_cases hn5 : 512 < N
      · have HN : Hid (r = none) := HRR.out.trans (if_neg (by have := HNL.out; omega))
        clear HRR
        go_enter Tryd.func47, Tryd.ntmps47
        go_wp2_with ((at_builtin; refine wpList_append_bytes rfl (.tmp 24) (.tmp 30) rfl (w.heap.size + 2) i0 Tryd.underlying22 hi hz0 hz1 hz2 (.slice (some ⟨w.heap.size + 2, 0, none⟩) 0 0) 0 [] rfl HOWN.out (some ⟨b, off + A, none⟩) (l.length - 16 - A) (cap - A) (sub l A N) rfl HSUB.out (fun h => by cases h) (Sl_alloc HPc.out _) (by omega) (by simp) ?_; intro v2 w2 hown hgrow; obtain ⟨⟨o2, c2, hv2⟩, hb2, hr0, hr1⟩ := HINM.out v2 w2 hown hgrow; subst hv2; clear hown hgrow; have HB2 := mkHid hb2; have HR2 := mkHid hr0; have HS2 := mkHid hr1; clear hb2 hr0 hr1; refine Hid.out ?_))
        refine mkHid ?_
        have d4 : w2.cell? ⟨w.heap.size, 4, none⟩ = some (.slice none 0 0) := by unfold World.cell?; rw [HR2.out]; rfl
        have f4 : w2.frozen? ⟨w.heap.size, 4, none⟩ = false := by unfold World.frozen?; rw [HR2.out]; simp
        have s4 : (w2.setCell ⟨w.heap.size, 4, none⟩ (.slice o2 N c2)).cell? ⟨w.heap.size, 4, none⟩ = some (.slice o2 N c2) := by unfold World.cell?; rw [heap_setCell_same w2 w.heap.size 4 _ 33 _ HR2.out]; rfl
        have HX : Hid ((w2.setCell ⟨w.heap.size, 4, none⟩ (.slice o2 N c2)).heap[w.heap.size + 1]? = some (.cells zr 33 (0, 0))) := (Below.heap_setCell _ _ _ _ (by show w.heap.size + 1 ≠ w.heap.size; omega)).trans HS2.out
        have HBS : Hid (Below w.heap.size w (w2.setCell ⟨w.heap.size, 4, none⟩ (.slice o2 N c2))) := HB2.out.setCell (p := ⟨w.heap.size, 4, none⟩) (Nat.le_refl _) _
        go_wp2_with ((refine wpList_store_row rfl 33 (.tmp 6) (.tmp 43) rfl (w.heap.size + 1) zr rfl rfl 33 zr HX.out sz33 rfl zr_one ?_; refine Hid.out ?_))
        refine mkHid ?_
        go_wp2
        refine bodyPost_ret (v := .tuple #[.agg zr, .int .i64 0, .int .i64 11]) (results_cell2 (fn := Tryd.f47) (p := 6) (u := 7) (v := 8) (ty := 33) rfl _ _ (w.heap.size + 1) 33 zr (0, 0) d33 rfl (setRow_heap _ _ _ _ 33 _ HX.out) hd33 sz33) rfl ?_
        exact ⟨_, _, _, rfl, below_setRow HBS.out (by omega) _, rfl, zr_one, .inl ⟨by decide, HN.out⟩⟩
      · have hn6 : N ≤ 512 := by omega
        have hb0 : ((N : Int) == 0) = false := by simp [hn0]
        go_enter Tryd.func47, Tryd.ntmps47
        go_wp2_with ((at_builtin; refine wpList_append_bytes rfl (.tmp 24) (.tmp 30) rfl (w.heap.size + 2) i0 Tryd.underlying22 hi hz0 hz1 hz2 (.slice (some ⟨w.heap.size + 2, 0, none⟩) 0 0) 0 [] rfl HOWN.out (some ⟨b, off + A, none⟩) (l.length - 16 - A) (cap - A) (sub l A N) rfl HSUB.out (fun h => by cases h) (Sl_alloc HPc.out _) (by omega) (by simp) ?_; intro v2 w2 hown hgrow; obtain ⟨⟨o2, c2, hv2⟩, hb2, hr0, hr1⟩ := HINM.out v2 w2 hown hgrow; subst hv2; clear hown hgrow; have HB2 := mkHid hb2; have HR2 := mkHid hr0; have HS2 := mkHid hr1; clear hb2 hr0 hr1; refine Hid.out ?_))
        refine mkHid ?_
        have d4 : w2.cell? ⟨w.heap.size, 4, none⟩ = some (.slice none 0 0) := by unfold World.cell?; rw [HR2.out]; rfl
        have f4 : w2.frozen? ⟨w.heap.size, 4, none⟩ = false := by unfold World.frozen?; rw [HR2.out]; simp
        have s4 : (w2.setCell ⟨w.heap.size, 4, none⟩ (.slice o2 N c2)).cell? ⟨w.heap.size, 4, none⟩ = some (.slice o2 N c2) := by unfold World.cell?; rw [heap_setCell_same w2 w.heap.size 4 _ 33 _ HR2.out]; rfl
        have HX : Hid ((w2.setCell ⟨w.heap.size, 4, none⟩ (.slice o2 N c2)).heap[w.heap.size + 1]? = some (.cells zr 33 (0, 0))) := (Below.heap_setCell _ _ _ _ (by show w.heap.size + 1 ≠ w.heap.size; omega)).trans HS2.out
        have HBS : Hid (Below w.heap.size w (w2.setCell ⟨w.heap.size, 4, none⟩ (.slice o2 N c2))) := HB2.out.setCell (p := ⟨w.heap.size, 4, none⟩) (Nat.le_refl _) _
        have HTR0 : Hid (TR w (w2.setCell ⟨w.heap.size, 4, none⟩ (.slice o2 N c2)) l (fun tg => hc 3 1 (.slice da dn dc) (.slice sa sn sc) (.slice o2 N c2) 0 false (.slice none 0 0) tg)) := by
          refine ⟨HBS.out, ⟨bc zs, bc_zs, bc_all zs, ?_⟩, HX.out⟩
          rw [heap_setCell_same w2 w.heap.size 4 _ 33 _ HR2.out]
          rfl
        go_wp2
        go_loopg [9] 17 (fun n i wr => ∃ k, k ≤ 16 ∧ n = 17 - k ∧ i = .int .i64 (k : Nat) ∧ Hid (TR w wr l (fun tg => hc 3 1 (.slice da dn dc) (.slice sa sn sc) (.slice o2 N c2) 0 false (.slice none 0 0) tg)))
        case atStart => exact ⟨0, by omega, by omega, rfl, HTR0⟩
        case round =>
          obtain ⟨k, hk, hn, rfl, HR⟩ := hrel
          by_cases hlt : k < 16
          · obtain ⟨tg, ht16, htone, hrow⟩ := HR.out.row0
            obtain ⟨⟨v0, hv0⟩, hfr⟩ := row_tagc k hlt hrow ht16
            obtain ⟨q, hq⟩ : ∃ q : Nat, (l.length : Int) - 16 + k = q := ⟨l.length - 16 + k, by omega⟩
            have hql : q < l.length := by omega
            have hcell : wr.cell? ⟨b, off + q, none⟩ = some (.int .u8 (l[q].toNat)) := by
              obtain ⟨b', off', he, hx⟩ := HS.out q hql
              simp only [Option.some.injEq, Addr.mk.injEq, and_true] at he
              obtain ⟨rfl, rfl⟩ := he
              exact (HR.out.below.cell (p := ⟨b, off + q, none⟩) blt).trans hx
            obtain ⟨x, hx⟩ : ∃ x : Nat, l[q].toNat = x := ⟨_, rfl⟩
            rw [hx] at hcell
            have HROW := mkHid hrow
            have HONE := mkHid htone
            have hf8 := hfr (8 + k)
            clear hrow htone hx hfr HTR0
            go_wp2
            go_roundg (17 - (k + 1))
            case measure => omega
            case rel =>
              refine ⟨k + 1, by omega, rfl, by go_num, HR.out.below.setCell (p := ⟨w.heap.size, 8 + k, none⟩) (Nat.le_refl _) _, ⟨tg.set k (.int .u8 x), by simpa using ht16, ?_, row_tag k _ hlt HROW.out ht16⟩, (Below.heap_setCell _ _ _ _ (by show w.heap.size + 1 ≠ w.heap.size; omega)).trans HR.out.row1⟩
              rw [List.all_eq_true]
              intro v hv
              rcases List.mem_or_eq_of_mem_set hv with h | h
              · exact List.all_eq_true.1 HONE.out v h
              · rw [h]; rfl
          · obtain rfl : k = 16 := by omega
            obtain ⟨tg, ht16, htone, hrow⟩ := HR.out.row0
            obtain ⟨cs9, hcs9⟩ : ∃ cs9, cs9 = (hc 3 1 (.slice da dn dc) (.slice sa sn sc) (.slice o2 N c2) 0 false (.slice none 0 0) tg).toArray := ⟨_, rfl⟩
            rw [← hcs9] at hrow
            have HROW := mkHid hrow
            have HZ9 : Hid (cs9.size = 24) := by show cs9.size = 24; rw [hcs9]; exact hc_size ht16
            have HONE9 : Hid (cs9.all (·.oneCell') = true) := by
              show cs9.all (·.oneCell') = true
              rw [hcs9, List.all_toArray]
              unfold hc
              rw [List.all_append, htone]
              rfl
            have HK9 : Hid (cs9[0]? = some (.int .i64 3) ∧ cs9[5]? = some (.int .i64 0)) := by rw [hcs9]; exact ⟨rfl, rfl⟩
            have HR1' := mkHid HR.out.row1
            have HBW := mkHid HR.out.below
            have HSOME : Hid (∃ p, r = some p ∧ p.k = 3 ∧ p.len = 0 ∧ p.at' = l.length) := ⟨_, HRR.out.trans (if_pos (by have := HNL.out; omega)), rfl, rfl, rfl⟩
            clear hrow htone hcs9 HR HTR0
            go_wp2_with (first
              | (refine wpList_load_row rfl 33 (.tmp 3) rfl w.heap.size rfl 33 cs9 (0, 0) (.struct d33) HROW.out hd33 rfl (by rw [HZ9.out]; exact sz33) ?_)
              | (refine wpList_store_row rfl 33 (.tmp 6) (.tmp 59) rfl (w.heap.size + 1) cs9 rfl rfl 33 zr HR1'.out (by rw [HZ9.out]; exact sz33) (by rw [HZ9.out]; rfl) HONE9.out ?_; refine Hid.out ?_))
            refine mkHid ?_
            go_wp2
            refine bodyPost_ret (v := .tuple #[.agg cs9, .int .i64 l.length, .int .i64 0]) (results_cell2 (fn := Tryd.f47) (p := 6) (u := 7) (v := 8) (ty := 33) rfl _ _ (w.heap.size + 1) 33 cs9 (0, 0) d33 rfl (setRow_heap _ _ _ _ 33 _ HR1'.out) hd33 (by rw [HZ9.out]; exact sz33)) rfl ?_
            obtain ⟨p, hp1, hp2, hp3, hp4⟩ := HSOME.out
            exact ⟨_, _, _, rfl, below_setRow HBW.out (by omega) _, HZ9.out, HONE9.out, .inr ⟨rfl, p, hp1, by rw [hp2]; exact HK9.out.1, by rw [hp3]; exact HK9.out.2, hp4.symm⟩⟩
end Go.Proofs.YtlllejgpmdeeiaaDoor
