/- What caravelref02.Read answers where it refuses early: contracts (the rest of it is under way). -/
import Derived.Test.YtlllejgpmdeeiaaDoorRefRow
namespace Go.Proofs.YtlllejgpmdeeiaaDoor
open Go.ChangeShapes Go.WideShapes Go.ChangeAt Go.RowKit
set_option linter.unusedVariables false

theorem rr_end {w : World} {r : Option PH} {E : Int} (hE : E ≠ 0) (hr : r = none) : RefP w ((w.alloc (.cells zr 33)).setRow w.heap.size zr) r zr 0 E :=
  ⟨below_setRow ((Below.refl _ _).alloc (Nat.le_refl _) _) (Nat.le_refl _) _, rfl, zr_one, .inl ⟨hE, hr⟩⟩

set_option maxRecDepth 10000 in
set_option maxHeartbeats 1000000 in
theorem rread_ids (b off cap : Nat) (l : List UInt8) (ids : Int) (w : World) (h : ids < 0 ∨ 20 < ids) :
    Calls Tryd.prog 30 #[.slice (some ⟨b, off, none⟩) l.length cap, .int .i64 ids] w fun e w' => ∃ cs' a' E, e = .returned (.tuple #[.agg cs', .int .i64 a', .int .i64 E]) ∧ RefP w w' (parse l ids) cs' a' E := by
  obtain ⟨d33, hd33⟩ := hu33
  have HN : Hid (parse l ids = none) := by show parse l ids = none; unfold parse; rw [if_pos (by omega)]
  have HX : Hid ((w.alloc (.cells zr 33)).heap[w.heap.size]? = some (.cells zr 33 (0, 0))) := heap_alloc_new w _
  by_cases h0 : ids < 0
  · go_enter Tryd.func30, Tryd.ntmps30
    go_wp2_with ((refine wpList_store_row rfl 33 (.tmp 4) (.tmp 17) rfl w.heap.size zr rfl rfl 33 zr HX.out sz33 rfl zr_one ?_; refine Hid.out ?_))
    refine mkHid ?_
    go_wp2
    refine bodyPost_ret (v := .tuple #[.agg zr, .int .i64 0, .int .i64 2]) (results_cell2 (fn := Tryd.f30) (p := 4) (u := 5) (v := 6) (ty := 33) rfl _ _ w.heap.size 33 zr (0, 0) d33 rfl (setRow_heap _ _ _ _ 33 _ HX.out) hd33 sz33) rfl ?_
    exact ⟨_, _, _, rfl, rr_end (by decide) HN.out⟩
  · have h1 : 20 < ids := by omega
    clear h
    go_enter Tryd.func30, Tryd.ntmps30
    go_wp2_with ((refine wpList_store_row rfl 33 (.tmp 4) (.tmp 17) rfl w.heap.size zr rfl rfl 33 zr HX.out sz33 rfl zr_one ?_; refine Hid.out ?_))
    refine mkHid ?_
    go_wp2
    refine bodyPost_ret (v := .tuple #[.agg zr, .int .i64 0, .int .i64 2]) (results_cell2 (fn := Tryd.f30) (p := 4) (u := 5) (v := 6) (ty := 33) rfl _ _ w.heap.size 33 zr (0, 0) d33 rfl (setRow_heap _ _ _ _ 33 _ HX.out) hd33 sz33) rfl ?_
    exact ⟨_, _, _, rfl, rr_end (by decide) HN.out⟩

/-- the first byte, as it lies -/
theorem first_cell {w : World} {b off : Nat} {l : List UInt8} (hs : Sl w (some ⟨b, off, none⟩) l) (hp : 0 < l.length) : w.cell? ⟨b, off, none⟩ = some (.int .u8 (fb l)) ∧ b < w.heap.size := by
  obtain ⟨b', off', he, hx⟩ := hs 0 hp
  simp only [Option.some.injEq, Addr.mk.injEq, and_true] at he
  obtain ⟨rfl, rfl⟩ := he
  rw [Nat.add_zero] at hx
  refine ⟨?_, World.block_lt_of_cell? w _ hx⟩
  rw [hx]
  congr 2
  unfold fb
  simp [List.getD, hp]

set_option maxRecDepth 10000 in
set_option maxHeartbeats 1000000 in
theorem rread_form (b off cap : Nat) (l : List UInt8) (ids : Int) (w : World) (hs : Sl w (some ⟨b, off, none⟩) l) (hp : 0 < l.length) (hl : l.length ≤ 140737488355327) (h0 : 0 ≤ ids) (h1 : ids ≤ 20) (hf : fb l < 64) :
    Calls Tryd.prog 30 #[.slice (some ⟨b, off, none⟩) l.length cap, .int .i64 ids] w fun e w' => ∃ cs' a' E, e = .returned (.tuple #[.agg cs', .int .i64 a', .int .i64 E]) ∧ RefP w w' (parse l ids) cs' a' E := by
  obtain ⟨d33, hd33⟩ := hu33
  have HN : Hid (parse l ids = none) := by
    show parse l ids = none
    unfold parse pShort
    rw [if_neg (by omega), if_pos (by omega), if_neg]
    unfold shE
    rw [if_pos (by show fb l / 64 % 2 = 0; omega)]
    decide
  have HX : Hid ((w.alloc (.cells zr 33)).heap[w.heap.size]? = some (.cells zr 33 (0, 0))) := heap_alloc_new w _
  obtain ⟨hc0, blt⟩ := first_cell hs hp
  obtain ⟨x, hx⟩ : ∃ x, fb l = x := ⟨_, rfl⟩
  rw [hx] at hc0 hf
  clear hx hs
  go_enter Tryd.func30, Tryd.ntmps30
  go_wp2_with ((refine wpList_store_row rfl 33 (.tmp 4) (.tmp 30) rfl w.heap.size zr rfl rfl 33 zr HX.out sz33 rfl zr_one ?_; refine Hid.out ?_))
  refine mkHid ?_
  go_wp2
  refine bodyPost_ret (v := .tuple #[.agg zr, .int .i64 0, .int .i64 11]) (results_cell2 (fn := Tryd.f30) (p := 4) (u := 5) (v := 6) (ty := 33) rfl _ _ w.heap.size 33 zr (0, 0) d33 rfl (setRow_heap _ _ _ _ 33 _ HX.out) hd33 sz33) rfl ?_
  exact ⟨_, _, _, rfl, rr_end (by decide) HN.out⟩

set_option maxRecDepth 10000 in
set_option maxHeartbeats 1000000 in
theorem rread_few (b off cap : Nat) (l : List UInt8) (ids : Int) (w : World) (hs : Sl w (some ⟨b, off, none⟩) l) (hp : 0 < l.length) (hl : l.length ≤ 140737488355327) (h0 : 0 ≤ ids) (h1 : ids ≤ 20) (hf : 64 ≤ fb l) (hf2 : fb l < 128) (hn : (l.length : Int) < 1 + ids) :
    Calls Tryd.prog 30 #[.slice (some ⟨b, off, none⟩) l.length cap, .int .i64 ids] w fun e w' => ∃ cs' a' E, e = .returned (.tuple #[.agg cs', .int .i64 a', .int .i64 E]) ∧ RefP w w' (parse l ids) cs' a' E := by
  obtain ⟨d33, hd33⟩ := hu33
  have HN : Hid (parse l ids = none) := by
    show parse l ids = none
    unfold parse pShort
    rw [if_neg (by omega), if_pos (by omega), if_neg]
    unfold shE
    rw [if_neg (by show ¬ fb l / 64 % 2 = 0; omega), if_pos hn]
    decide
  have HX : Hid ((w.alloc (.cells zr 33)).heap[w.heap.size]? = some (.cells zr 33 (0, 0))) := heap_alloc_new w _
  obtain ⟨hc0, blt⟩ := first_cell hs hp
  obtain ⟨x, hx⟩ : ∃ x, fb l = x := ⟨_, rfl⟩
  rw [hx] at hc0 hf hf2
  clear hx hs
  go_enter Tryd.func30, Tryd.ntmps30
  go_wp2_with ((refine wpList_store_row rfl 33 (.tmp 4) (.tmp 36) rfl w.heap.size zr rfl rfl 33 zr HX.out sz33 rfl zr_one ?_; refine Hid.out ?_))
  refine mkHid ?_
  go_wp2
  refine bodyPost_ret (v := .tuple #[.agg zr, .int .i64 0, .int .i64 10]) (results_cell2 (fn := Tryd.f30) (p := 4) (u := 5) (v := 6) (ty := 33) rfl _ _ w.heap.size 33 zr (0, 0) d33 rfl (setRow_heap _ _ _ _ 33 _ HX.out) hd33 sz33) rfl ?_
  exact ⟨_, _, _, rfl, rr_end (by decide) HN.out⟩

set_option maxRecDepth 10000 in
set_option maxHeartbeats 1000000 in
theorem rread_five (b off cap : Nat) (l : List UInt8) (ids : Int) (w : World) (hs : Sl w (some ⟨b, off, none⟩) l) (hp : 0 < l.length) (hl : l.length ≤ 140737488355327) (hc' : l.length ≤ cap) (hcm : cap ≤ 9223372036854775807) (h0 : 0 ≤ ids) (h1 : ids ≤ 20) (hf : 128 ≤ fb l) (hn : l.length < 5) :
    Calls Tryd.prog 30 #[.slice (some ⟨b, off, none⟩) l.length cap, .int .i64 ids] w fun e w' => ∃ cs' a' E, e = .returned (.tuple #[.agg cs', .int .i64 a', .int .i64 E]) ∧ RefP w w' (parse l ids) cs' a' E := by
  obtain ⟨d33, hd33⟩ := hu33
  have hf8 := fb_lt l
  have HN : Hid (parse l ids = none) := by
    show parse l ids = none
    unfold parse pLong
    rw [if_neg (by omega), if_neg (by omega), if_neg (by unfold idOk; omega)]
  have HX : Hid ((w.alloc (.cells zr 33)).heap[w.heap.size]? = some (.cells zr 33 (0, 0))) := heap_alloc_new w _
  obtain ⟨hc0, blt⟩ := first_cell hs hp
  have HG := mkHid (rget_any (some ⟨b, off, none⟩) l cap 1 4 (w.alloc (.cells zr 33)) (Sl_alloc hs _) (by omega) hc' hcm)
  rw [show gE l 1 4 = 10 by unfold gE; rw [if_neg (by unfold gArg; omega), if_neg (by unfold gOk; omega)]] at HG
  obtain ⟨x, hx⟩ : ∃ x, fb l = x := ⟨_, rfl⟩
  rw [hx] at hc0 hf hf8
  clear hx hs
  go_enter Tryd.func30, Tryd.ntmps30
  go_wp2_with fail
  refine HG.out.mono ?_
  rintro e w2 ⟨rfl, rfl⟩
  go_wp2_with ((refine wpList_store_row rfl 33 (.tmp 4) (.tmp 60) rfl w.heap.size zr rfl rfl 33 zr HX.out sz33 rfl zr_one ?_; refine Hid.out ?_))
  refine mkHid ?_
  go_wp2
  refine bodyPost_ret (v := .tuple #[.agg zr, .int .i64 0, .int .i64 10]) (results_cell2 (fn := Tryd.f30) (p := 4) (u := 5) (v := 6) (ty := 33) rfl _ _ w.heap.size 33 zr (0, 0) d33 rfl (setRow_heap _ _ _ _ 33 _ HX.out) hd33 sz33) rfl ?_
  exact ⟨_, _, _, rfl, rr_end (by decide) HN.out⟩
end Go.Proofs.YtlllejgpmdeeiaaDoor
