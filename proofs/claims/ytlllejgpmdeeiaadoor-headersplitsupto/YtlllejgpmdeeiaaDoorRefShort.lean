/- What caravelref02.Read answers of short headers that are there: a contract. -/
import Derived.Test.YtlllejgpmdeeiaaDoorRefRead
import Derived.Deep.RegionHeld
import Derived.Test.YtlllejgpmdeeiaaDoorBegShort
namespace Go.Proofs.YtlllejgpmdeeiaaDoor
open Go.ChangeShapes Go.WideShapes Go.ChangeAt Go.RowKit
set_option linter.unusedVariables false

theorem short_in {w w1 : World} {v1 : Value} {Y : List UInt8} {n : Nat} (hY : Y.length = n) (ho : w1.ownsRow (w.heap.size + 1) 5 1 v1 (0 + n) ([] ++ bc Y))
    (hg : ((w.alloc (.cells zr 33)).alloc (.cells #[] 5)).drew.grownBy w1 (Value.slice (some ⟨w.heap.size + 1, 0, none⟩) 0 0).ownBlock) :
    ∃ oa cp, v1 = .slice oa n cp ∧ Below w.heap.size w w1 ∧ w1.heap[w.heap.size]? = some (.cells zr 33 (0, 0)) := by
  have hz : (w.alloc (.cells zr 33)).heap.size = w.heap.size + 1 := by simp
  have hg' : ((w.alloc (.cells zr 33)).alloc (.cells #[] 5)).grownBy w1 (Value.slice (some ⟨w.heap.size + 1, 0, none⟩) 0 0).ownBlock := ⟨hg.os, hg.tape, hg.output, hg.size, hg.block⟩
  rw [← hz] at ho hg'
  obtain ⟨oa, cp, e, _, hB⟩ := id_end hY rfl ho hg'
  refine ⟨oa, cp, e, ((Below.refl w.heap.size w).alloc (Nat.le_refl _) _).trans (hB.mono (by rw [hz]; omega)), ?_⟩
  exact (hB.block w.heap.size (by rw [hz]; omega)).trans (heap_alloc_new w _)

theorem norm_any' {φ : Act → World → Prop} {a : Act} {w : World} (h : ∀ K : Act → World → Prop, (∀ a w, φ a w → K a w) → K a w) : φ a w := h φ (fun _ _ h => h)

set_option maxRecDepth 10000 in
set_option maxHeartbeats 1000000 in
theorem rread_short (b off cap : Nat) (l : List UInt8) (N : Nat) (w : World) (hs : Sl w (some ⟨b, off, none⟩) l) (hl : l.length ≤ 140737488355327) (hc' : l.length ≤ cap) (hcm : cap ≤ 9223372036854775807) (h1 : N ≤ 20) (hf : 64 ≤ fb l) (hf2 : fb l < 128) (hn : 1 + N ≤ l.length) :
    Calls Tryd.prog 30 #[.slice (some ⟨b, off, none⟩) l.length cap, .int .i64 (N : Int)] w fun e w' => ∃ cs' a' E, e = .returned (.tuple #[.agg cs', .int .i64 a', .int .i64 E]) ∧ RefP w w' (parse l (N : Int)) cs' a' E := by
  obtain ⟨i0, hi, hz0, hz1, hz2⟩ := info_parts info5
  obtain ⟨d33, hd33⟩ := hu33
  have HN : Hid (parse l (N : Int) = some ⟨5, 0, some (1, N), none, none, 0, bit (fb l) 4, [], zs, 1 + N⟩) := by
    show parse l (N : Int) = _
    unfold parse pShort
    rw [if_neg (by omega), if_pos (by omega), if_pos]
    · simp
    · unfold shE
      rw [if_neg (by show ¬ fb l / 64 % 2 = 0; omega), if_neg (by omega)]
  obtain ⟨r, hr⟩ : ∃ r, parse l (N : Int) = r := ⟨_, rfl⟩
  rw [hr] at HN ⊢
  clear hr
  obtain ⟨hc0, blt⟩ := first_cell hs (by omega)
  obtain ⟨x, hx⟩ : ∃ x, fb l = x := ⟨_, rfl⟩
  rw [hx] at hc0 hf hf2 HN
  have HSL := mkHid hs
  have hne : ¬ b = w.heap.size := by omega
  have HC0 := mkHid hc0
  have HSUB := mkHid (sub_length l 1 N (by omega))
  have HOWN : Hid ((((w.alloc (.cells zr 33)).alloc (.cells #[] 5)).drew).ownsRow (w.heap.size + 1) 5 1 (.slice (some ⟨w.heap.size + 1, 0, none⟩) 0 0) 0 []) := by
    have h := World.ownsRow_made (base := w.heap.size + 1) (e := 5) (size := 1) (w.alloc (.cells zr 33)) #[] 0 (by simp) (by decide) rfl
    rw [show (w.alloc (.cells zr 33)).heap.size = w.heap.size + 1 by simp] at h
    exact h
  clear hx hs
  by_cases hcap : cap = 1
  · obtain rfl : N = 0 := by omega
    subst hcap
    have HP : Hid (Sl ((w.alloc (.cells zr 33)).alloc (.cells #[] 5)).drew (some ⟨b, off, none⟩) (sub l 1 0)) := Sl_cut off (Sl_alloc (Sl_alloc HSL.out (.cells zr 33)) (.cells #[] 5)) (by omega) (by omega)
    go_enter Tryd.func30, Tryd.ntmps30
    go_wp2
    refine wp_region_held_drew (S := fun w' => w'.cell? ⟨b, off, none⟩ = some (.int .u8 x)) (by kernel_rfl) ?_ (fun hHeld => ?_)
    · go_simp
    refine wpAnyH_take (i := 1) (v := .slice (some ⟨b, off, none⟩) l.length 1) rfl (by kernel_rfl) (by kernel_rfl) (by kernel_rfl) (fun _ _ _ h => h) (Or.inl ⟨by rfl, by intro w hSw; rfl⟩) hHeld ?_
    refine wpAnyH_take (i := 2) (v := .int .i64 0) rfl (by kernel_rfl) (by kernel_rfl) (by kernel_rfl) (fun _ _ _ h => h) (Or.inl ⟨by rfl, by intro w hSw; rfl⟩) hHeld ?_
    refine norm_any' (fun K hK => ?_)
    go_simp
    refine hK _ _ ?_
    clear hK K
    refine wpAnyH_take (i := 3) (v := .int .i64 1) rfl (by kernel_rfl) (by kernel_rfl) (by kernel_rfl) (fun _ _ _ h => h) (Or.inl ⟨by rfl, by intro w hSw; go_simp; rfl⟩) hHeld ?_
    refine norm_any' (fun K hK => ?_)
    go_simp
    refine hK _ _ ?_
    clear hK K
    refine wpAnyH_take (i := 4) (v := .slice (some ⟨b, off, none⟩) 0 0) rfl (by kernel_rfl) (by kernel_rfl) (by kernel_rfl) (fun _ _ _ h => h) (Or.inl ⟨by rfl, by intro w hSw; go_simp⟩) hHeld ?_
    refine wpAnyH_take (i := 6) (v := .slice (some ⟨b, off, none⟩) l.length 1) rfl (by kernel_rfl) (by kernel_rfl) (by kernel_rfl) (fun _ _ _ h => h) (Or.inl ⟨by rfl, by intro w hSw; rfl⟩) hHeld ?_
    refine norm_any' (fun K hK => ?_)
    go_simp
    refine hK _ _ ?_
    clear hK K
    refine wpAnyH_take (i := 7) (v := .pointer (some ⟨b, off, none⟩)) rfl (by kernel_rfl) (by kernel_rfl) (by kernel_rfl) (fun _ _ _ h => h) (Or.inl ⟨by rfl, by intro w hSw; go_simp; intro h; rw [h] at hn; simp at hn⟩) hHeld ?_
    refine norm_any' (fun K hK => ?_)
    go_simp
    refine hK _ _ ?_
    clear hK K
    refine wpAnyH_take (i := 8) (v := .int .u8 (x : Int)) rfl (by kernel_rfl) (by kernel_rfl) (by kernel_rfl) (fun _ _ _ h => h) (Or.inl ⟨by rfl, by intro w hSw; go_simp⟩) hHeld ?_
    refine norm_any' (fun K hK => ?_)
    go_simp
    refine hK _ _ ?_
    clear hK K
    refine wpAnyH_take (i := 9) (v := .int .u8 ((x : Int) / 4)) rfl (by kernel_rfl) (by kernel_rfl) (by kernel_rfl) (fun _ _ _ h => h) (Or.inl ⟨by rfl, by intro w hSw; go_simp; rw [IntKind.wrap_u8]; omega⟩) hHeld ?_
    refine norm_any' (fun K hK => ?_)
    go_simp
    refine hK _ _ ?_
    clear hK K
    refine wpAnyH_take (i := 10) (v := .int .u8 ((x : Int) / 4 % 2)) rfl (by kernel_rfl) (by kernel_rfl) (by kernel_rfl) (fun _ _ _ h => h) (Or.inl ⟨by rfl, by intro w hSw; go_simp; exact Int.tmod_eq_emod_of_nonneg (by omega)⟩) hHeld ?_
    refine norm_any' (fun K hK => ?_)
    go_simp
    refine hK _ _ ?_
    clear hK K
    refine wpAnyH_take (i := 11) (v := .bool ((x : Int) / 4 % 2 == 1)) rfl (by kernel_rfl) (by kernel_rfl) (by kernel_rfl) (fun _ _ _ h => h) (Or.inl ⟨by rfl, by intro w hSw; go_simp⟩) hHeld ?_
    refine norm_any' (fun K hK => ?_)
    go_simp
    refine hK _ _ ?_
    clear hK K
    refine wpAnyH_take (i := 13) (v := .int .i64 0) rfl (by kernel_rfl) (by kernel_rfl) (by kernel_rfl) (fun _ _ _ h => h) (Or.inl ⟨by rfl, by intro w hSw; rfl⟩) hHeld ?_
    refine norm_any' (fun K hK => ?_)
    go_simp
    refine hK _ _ ?_
    clear hK K
    refine wpAnyH_take (i := 14) (v := .int .i64 1) rfl (by kernel_rfl) (by kernel_rfl) (by kernel_rfl) (fun _ _ _ h => h) (Or.inl ⟨by rfl, by intro w hSw; go_simp; rfl⟩) hHeld ?_
    refine norm_any' (fun K hK => ?_)
    go_simp
    refine hK _ _ ?_
    clear hK K
    refine wpAnyH_ready (rs := [0]) (by kernel_rfl) (by simp) (AllReadyH.cons rfl (fun K hK => ?_) AllReadyH.nil)
    go_simp
    refine hK.out _ _ ?_ (fun hHeld => ?_)
    · go_simp
    clear hK K
    refine norm_any' (fun K hK => ?_)
    go_simp
    refine hK _ _ ?_
    clear hK K
    refine wpAnyH_ready (rs := [5]) (by kernel_rfl) (by simp) (AllReadyH.cons rfl (fun K hK => ?_) AllReadyH.nil)
    refine step_append_bytes rfl (.tmp 37) (.tmp 41) rfl (w.heap.size + 1) i0 Tryd.underlying22 hi hz0 hz1 hz2 (.slice (some ⟨w.heap.size + 1, 0, none⟩) 0 0) 0 [] rfl HOWN.out (some ⟨b, off, none⟩) 0 0 (sub l 1 0) rfl HSUB.out (fun h => by cases h) HP.out (by omega) (by show w.heap.size + 1 ≤ _; simp) ?_
    intro v1 w1 hown hgrow
    obtain ⟨oa, ca, hv1, hB1, hr1⟩ := short_in HSUB.out hown hgrow
    subst hv1
    have HB1 := mkHid hB1
    have HR1 := mkHid hr1
    have hc1 : w1.cell? ⟨b, off, none⟩ = some (.int .u8 (x : Int)) := (World.cell?_of_block (w := w) (a := ⟨b, off, none⟩) (hB1.block b blt)).trans HC0.out
    clear hown hgrow hB1 hr1
    refine hK.out _ _ hc1 (fun hHeld => ?_)
    clear hK K
    refine norm_any' (fun K hK => ?_)
    go_simp
    refine hK _ _ ?_
    clear hK K
    refine wpAnyH_take (i := 12) (v := .agg #[.int .i64 5, .int .i64 0, .slice oa 0 ca, .slice none 0 0, .slice none 0 0, .int .i64 0, .bool ((x : Int) / 4 % 2 == 1), .slice none 0 0, .int .u8 0, .int .u8 0, .int .u8 0, .int .u8 0, .int .u8 0, .int .u8 0, .int .u8 0, .int .u8 0, .int .u8 0, .int .u8 0, .int .u8 0, .int .u8 0, .int .u8 0, .int .u8 0, .int .u8 0, .int .u8 0]) rfl (by kernel_rfl) (by kernel_rfl) (by kernel_rfl) (fun _ _ _ h => h) (Or.inl ⟨by rfl, by intro w hSw; go_simp⟩) hHeld ?_
    refine norm_any' (fun K hK => ?_)
    go_simp
    refine hK _ _ ?_
    clear hK K
    refine wpAnyH_ready (rs := [15]) (by kernel_rfl) (by simp) (AllReadyH.cons rfl (fun K hK => ?_) AllReadyH.nil)
    rw [if_pos (by rfl)]
    refine wp_store_row 33 (.tmp 4) (.tmp 49) rfl w.heap.size #[.int .i64 5, .int .i64 0, .slice oa 0 ca, .slice none 0 0, .slice none 0 0, .int .i64 0, .bool ((x : Int) / 4 % 2 == 1), .slice none 0 0, .int .u8 0, .int .u8 0, .int .u8 0, .int .u8 0, .int .u8 0, .int .u8 0, .int .u8 0, .int .u8 0, .int .u8 0, .int .u8 0, .int .u8 0, .int .u8 0, .int .u8 0, .int .u8 0, .int .u8 0, .int .u8 0] rfl rfl 33 zr HR1.out sz33 rfl (by rw [List.all_toArray]; rfl) ?_
    refine hK.out _ _ ((World.cell?_of_block (w := w1) (a := ⟨b, off, none⟩) (setRow_other _ _ _ _ hne)).trans hc1) (fun hHeld => ?_)
    clear hK K
    refine norm_any' (fun K hK => ?_)
    go_simp
    refine hK _ _ ?_
    clear hK K
    refine wpAnyH_take (i := 16) (v := .int .i64 1) rfl (by kernel_rfl) (by kernel_rfl) (by kernel_rfl) (fun _ _ _ h => h) (Or.inl ⟨by rfl, by intro w hSw; rfl⟩) hHeld ?_
    refine wpAnyH_take (i := 17) (v := .int .i64 0) rfl (by kernel_rfl) (by kernel_rfl) (by kernel_rfl) (fun _ _ _ h => h) (Or.inl ⟨by rfl, by intro w hSw; rfl⟩) hHeld ?_
    refine wpAnyH_done (by kernel_rfl) ?_ _
    go_wp2
    refine bodyPost_ret (v := .tuple #[.agg #[.int .i64 5, .int .i64 0, .slice oa 0 ca, .slice none 0 0, .slice none 0 0, .int .i64 0, .bool ((x : Int) / 4 % 2 == 1), .slice none 0 0, .int .u8 0, .int .u8 0, .int .u8 0, .int .u8 0, .int .u8 0, .int .u8 0, .int .u8 0, .int .u8 0, .int .u8 0, .int .u8 0, .int .u8 0, .int .u8 0, .int .u8 0, .int .u8 0, .int .u8 0, .int .u8 0], .int .i64 1, .int .i64 0]) (results_cell2 (fn := Tryd.f30) (p := 4) (u := 5) (v := 6) (ty := 33) rfl _ _ w.heap.size 33 #[.int .i64 5, .int .i64 0, .slice oa 0 ca, .slice none 0 0, .slice none 0 0, .int .i64 0, .bool ((x : Int) / 4 % 2 == 1), .slice none 0 0, .int .u8 0, .int .u8 0, .int .u8 0, .int .u8 0, .int .u8 0, .int .u8 0, .int .u8 0, .int .u8 0, .int .u8 0, .int .u8 0, .int .u8 0, .int .u8 0, .int .u8 0, .int .u8 0, .int .u8 0, .int .u8 0] (0, 0) d33 rfl (setRow_heap _ _ _ _ 33 _ HR1.out) hd33 sz33) rfl ?_
    exact ⟨_, _, _, rfl, below_setRow HB1.out (Nat.le_refl _) _, rfl, by rw [List.all_toArray]; rfl, .inr ⟨rfl, _, HN.out, rfl, rfl, rfl⟩⟩
  · have e1 : ¬ (cap : Int) = 1 := by omega
    have HP : Hid (Sl ((w.alloc (.cells zr 33)).alloc (.cells #[] 5)).drew (some ⟨b, off + 1, none⟩) (sub l 1 N)) := Sl_cut (off + 1) (Sl_alloc (Sl_alloc HSL.out (.cells zr 33)) (.cells #[] 5)) (by omega) (fun _ => rfl)
    go_enter Tryd.func30, Tryd.ntmps30
    go_wp2
    refine wp_region_held_drew (S := fun w' => w'.cell? ⟨b, off, none⟩ = some (.int .u8 x)) (by kernel_rfl) ?_ (fun hHeld => ?_)
    · go_simp
    refine wpAnyH_take (i := 1) (v := .slice (some ⟨b, off, none⟩) l.length cap) rfl (by kernel_rfl) (by kernel_rfl) (by kernel_rfl) (fun _ _ _ h => h) (Or.inl ⟨by rfl, by intro w hSw; rfl⟩) hHeld ?_
    refine wpAnyH_take (i := 2) (v := .int .i64 (N : Int)) rfl (by kernel_rfl) (by kernel_rfl) (by kernel_rfl) (fun _ _ _ h => h) (Or.inl ⟨by rfl, by intro w hSw; rfl⟩) hHeld ?_
    refine norm_any' (fun K hK => ?_)
    go_simp
    refine hK _ _ ?_
    clear hK K
    refine wpAnyH_take (i := 3) (v := .int .i64 (1 + (N : Int))) rfl (by kernel_rfl) (by kernel_rfl) (by kernel_rfl) (fun _ _ _ h => h) (Or.inl ⟨by rfl, by intro w hSw; go_simp; rw [IntKind.wrap_i64]; omega⟩) hHeld ?_
    refine norm_any' (fun K hK => ?_)
    go_simp
    refine hK _ _ ?_
    clear hK K
    refine wpAnyH_take (i := 4) (v := .slice (some ⟨b, off + 1, none⟩) N (cap - 1)) rfl (by kernel_rfl) (by kernel_rfl) (by kernel_rfl) (fun _ _ _ h => h) (Or.inl ⟨by rfl, by intro w hSw; go_simp; rw [if_pos ⟨by omega, by omega⟩, if_pos (by omega), show ((1 + (N : Int)).toNat - 1) = N by omega]⟩) hHeld ?_
    refine wpAnyH_take (i := 6) (v := .slice (some ⟨b, off, none⟩) l.length cap) rfl (by kernel_rfl) (by kernel_rfl) (by kernel_rfl) (fun _ _ _ h => h) (Or.inl ⟨by rfl, by intro w hSw; rfl⟩) hHeld ?_
    refine norm_any' (fun K hK => ?_)
    go_simp
    refine hK _ _ ?_
    clear hK K
    refine wpAnyH_take (i := 7) (v := .pointer (some ⟨b, off, none⟩)) rfl (by kernel_rfl) (by kernel_rfl) (by kernel_rfl) (fun _ _ _ h => h) (Or.inl ⟨by rfl, by intro w hSw; go_simp; intro h; rw [h] at hn; simp at hn⟩) hHeld ?_
    refine norm_any' (fun K hK => ?_)
    go_simp
    refine hK _ _ ?_
    clear hK K
    refine wpAnyH_take (i := 8) (v := .int .u8 (x : Int)) rfl (by kernel_rfl) (by kernel_rfl) (by kernel_rfl) (fun _ _ _ h => h) (Or.inl ⟨by rfl, by intro w hSw; go_simp⟩) hHeld ?_
    refine norm_any' (fun K hK => ?_)
    go_simp
    refine hK _ _ ?_
    clear hK K
    refine wpAnyH_take (i := 9) (v := .int .u8 ((x : Int) / 4)) rfl (by kernel_rfl) (by kernel_rfl) (by kernel_rfl) (fun _ _ _ h => h) (Or.inl ⟨by rfl, by intro w hSw; go_simp; rw [IntKind.wrap_u8]; omega⟩) hHeld ?_
    refine norm_any' (fun K hK => ?_)
    go_simp
    refine hK _ _ ?_
    clear hK K
    refine wpAnyH_take (i := 10) (v := .int .u8 ((x : Int) / 4 % 2)) rfl (by kernel_rfl) (by kernel_rfl) (by kernel_rfl) (fun _ _ _ h => h) (Or.inl ⟨by rfl, by intro w hSw; go_simp; exact Int.tmod_eq_emod_of_nonneg (by omega)⟩) hHeld ?_
    refine norm_any' (fun K hK => ?_)
    go_simp
    refine hK _ _ ?_
    clear hK K
    refine wpAnyH_take (i := 11) (v := .bool ((x : Int) / 4 % 2 == 1)) rfl (by kernel_rfl) (by kernel_rfl) (by kernel_rfl) (fun _ _ _ h => h) (Or.inl ⟨by rfl, by intro w hSw; go_simp⟩) hHeld ?_
    refine norm_any' (fun K hK => ?_)
    go_simp
    refine hK _ _ ?_
    clear hK K
    refine wpAnyH_take (i := 13) (v := .int .i64 (N : Int)) rfl (by kernel_rfl) (by kernel_rfl) (by kernel_rfl) (fun _ _ _ h => h) (Or.inl ⟨by rfl, by intro w hSw; rfl⟩) hHeld ?_
    refine norm_any' (fun K hK => ?_)
    go_simp
    refine hK _ _ ?_
    clear hK K
    refine wpAnyH_take (i := 14) (v := .int .i64 (1 + (N : Int))) rfl (by kernel_rfl) (by kernel_rfl) (by kernel_rfl) (fun _ _ _ h => h) (Or.inl ⟨by rfl, by intro w hSw; go_simp; rw [IntKind.wrap_i64]; omega⟩) hHeld ?_
    refine norm_any' (fun K hK => ?_)
    go_simp
    refine hK _ _ ?_
    clear hK K
    refine wpAnyH_ready (rs := [0]) (by kernel_rfl) (by simp) (AllReadyH.cons rfl (fun K hK => ?_) AllReadyH.nil)
    go_simp
    refine hK.out _ _ ?_ (fun hHeld => ?_)
    · go_simp
    clear hK K
    refine norm_any' (fun K hK => ?_)
    go_simp
    refine hK _ _ ?_
    clear hK K
    refine wpAnyH_ready (rs := [5]) (by kernel_rfl) (by simp) (AllReadyH.cons rfl (fun K hK => ?_) AllReadyH.nil)
    refine step_append_bytes rfl (.tmp 37) (.tmp 41) rfl (w.heap.size + 1) i0 Tryd.underlying22 hi hz0 hz1 hz2 (.slice (some ⟨w.heap.size + 1, 0, none⟩) 0 0) 0 [] rfl HOWN.out (some ⟨b, off + 1, none⟩) N (cap - 1) (sub l 1 N) rfl HSUB.out (fun h => by cases h) HP.out (by omega) (by show w.heap.size + 1 ≤ _; simp) ?_
    intro v1 w1 hown hgrow
    obtain ⟨oa, ca, hv1, hB1, hr1⟩ := short_in HSUB.out hown hgrow
    subst hv1
    have HB1 := mkHid hB1
    have HR1 := mkHid hr1
    have hc1 : w1.cell? ⟨b, off, none⟩ = some (.int .u8 (x : Int)) := (World.cell?_of_block (w := w) (a := ⟨b, off, none⟩) (hB1.block b blt)).trans HC0.out
    clear hown hgrow hB1 hr1
    refine hK.out _ _ hc1 (fun hHeld => ?_)
    clear hK K
    refine norm_any' (fun K hK => ?_)
    go_simp
    refine hK _ _ ?_
    clear hK K
    refine wpAnyH_take (i := 12) (v := .agg #[.int .i64 5, .int .i64 0, .slice oa N ca, .slice none 0 0, .slice none 0 0, .int .i64 0, .bool ((x : Int) / 4 % 2 == 1), .slice none 0 0, .int .u8 0, .int .u8 0, .int .u8 0, .int .u8 0, .int .u8 0, .int .u8 0, .int .u8 0, .int .u8 0, .int .u8 0, .int .u8 0, .int .u8 0, .int .u8 0, .int .u8 0, .int .u8 0, .int .u8 0, .int .u8 0]) rfl (by kernel_rfl) (by kernel_rfl) (by kernel_rfl) (fun _ _ _ h => h) (Or.inl ⟨by rfl, by intro w hSw; go_simp⟩) hHeld ?_
    refine norm_any' (fun K hK => ?_)
    go_simp
    refine hK _ _ ?_
    clear hK K
    refine wpAnyH_ready (rs := [15]) (by kernel_rfl) (by simp) (AllReadyH.cons rfl (fun K hK => ?_) AllReadyH.nil)
    rw [if_pos (by rfl)]
    refine wp_store_row 33 (.tmp 4) (.tmp 49) rfl w.heap.size #[.int .i64 5, .int .i64 0, .slice oa N ca, .slice none 0 0, .slice none 0 0, .int .i64 0, .bool ((x : Int) / 4 % 2 == 1), .slice none 0 0, .int .u8 0, .int .u8 0, .int .u8 0, .int .u8 0, .int .u8 0, .int .u8 0, .int .u8 0, .int .u8 0, .int .u8 0, .int .u8 0, .int .u8 0, .int .u8 0, .int .u8 0, .int .u8 0, .int .u8 0, .int .u8 0] rfl rfl 33 zr HR1.out sz33 rfl (by rw [List.all_toArray]; rfl) ?_
    refine hK.out _ _ ((World.cell?_of_block (w := w1) (a := ⟨b, off, none⟩) (setRow_other _ _ _ _ hne)).trans hc1) (fun hHeld => ?_)
    clear hK K
    refine norm_any' (fun K hK => ?_)
    go_simp
    refine hK _ _ ?_
    clear hK K
    refine wpAnyH_take (i := 16) (v := .int .i64 (1 + (N : Int))) rfl (by kernel_rfl) (by kernel_rfl) (by kernel_rfl) (fun _ _ _ h => h) (Or.inl ⟨by rfl, by intro w hSw; rfl⟩) hHeld ?_
    refine wpAnyH_take (i := 17) (v := .int .i64 0) rfl (by kernel_rfl) (by kernel_rfl) (by kernel_rfl) (fun _ _ _ h => h) (Or.inl ⟨by rfl, by intro w hSw; rfl⟩) hHeld ?_
    refine wpAnyH_done (by kernel_rfl) ?_ _
    go_wp2
    refine bodyPost_ret (v := .tuple #[.agg #[.int .i64 5, .int .i64 0, .slice oa N ca, .slice none 0 0, .slice none 0 0, .int .i64 0, .bool ((x : Int) / 4 % 2 == 1), .slice none 0 0, .int .u8 0, .int .u8 0, .int .u8 0, .int .u8 0, .int .u8 0, .int .u8 0, .int .u8 0, .int .u8 0, .int .u8 0, .int .u8 0, .int .u8 0, .int .u8 0, .int .u8 0, .int .u8 0, .int .u8 0, .int .u8 0], .int .i64 (1 + (N : Int)), .int .i64 0]) (results_cell2 (fn := Tryd.f30) (p := 4) (u := 5) (v := 6) (ty := 33) rfl _ _ w.heap.size 33 #[.int .i64 5, .int .i64 0, .slice oa N ca, .slice none 0 0, .slice none 0 0, .int .i64 0, .bool ((x : Int) / 4 % 2 == 1), .slice none 0 0, .int .u8 0, .int .u8 0, .int .u8 0, .int .u8 0, .int .u8 0, .int .u8 0, .int .u8 0, .int .u8 0, .int .u8 0, .int .u8 0, .int .u8 0, .int .u8 0, .int .u8 0, .int .u8 0, .int .u8 0, .int .u8 0] (0, 0) d33 rfl (setRow_heap _ _ _ _ 33 _ HR1.out) hd33 sz33) rfl ?_
    exact ⟨_, _, _, rfl, below_setRow HB1.out (Nat.le_refl _) _, rfl, by rw [List.all_toArray]; rfl, .inr ⟨rfl, _, HN.out, rfl, rfl, rfl⟩⟩
end Go.Proofs.YtlllejgpmdeeiaaDoor
