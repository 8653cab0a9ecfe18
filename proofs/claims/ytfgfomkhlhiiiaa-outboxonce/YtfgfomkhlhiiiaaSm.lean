/- outbox: summary, Sizes, Done. -/
import Derived.Test.YtfgfomkhlhiiiaaDue
namespace Go.Proofs.YtfgfomkhlhiiiaaR
open Go.RowKit Go.Shelf Go.Lib Go.Maps
set_option linter.unusedVariables false

variable {φ : Nat → Nat × Nat} {w : World} {b A A2 cm n cp : Nat} {o : Option Addr} {rm base sent en : Int} {V V2 : Int → Prop}

set_option maxRecDepth 100000 in
theorem summary_ob (h : Ob φ w b A A2 cm o n cp rm base sent en V V2) {m : Int} (hm : Fst V sent m) (h0 : 0 ≤ base) (hb : base + n ≤ 4611686018427387903) (h1 : 0 ≤ m) (h2 : m ≤ base + n) :
    Calls Try.prog 40 #[.pointer (some ⟨b, 0, none⟩)] w fun e w' => e = .returned (.agg #[.int .i64 (base + n), .int .i64 sent, .int .i64 (base + n - m), .int .i64 en]) ∧ Below w.heap.size w w' := by
  obtain ⟨W0, hW0⟩ : ∃ W0, W0 = (w.alloc (.cells #[.int .i64 0, .int .i64 0, .int .i64 0, .int .i64 0] 78)).drew := ⟨_, rfl⟩
  have hb0 : Below w.heap.size w W0 := by
    have := (Below.refl _ w).alloc (Nat.le_refl _) (.cells #[.int .i64 0, .int .i64 0, .int .i64 0, .int .i64 0] 78)
    rw [hW0]; exact ⟨this.os, this.tape, this.output, this.size, this.block⟩
  have h' := h.below hb0
  have HWR : Aside _ := written_ob W0 b n cp o base h'.c1 h'.c2 h0 hb
  have HKE : Aside (∀ X, Below W0.heap.size W0 X → Calls Try.prog 26 #[.pointer (some ⟨b, 0, none⟩)] X fun e w' => e = .returned (.int .i64 (base + n - m)) ∧ Below X.heap.size X w') := fun X hX => kept_ob (h'.below hX) hm h0 hb h1 h2
  have HSS : Aside (W0.cell? ⟨b, 3, none⟩ = some (.int .i64 sent) ∧ W0.cell? ⟨b, 6, none⟩ = some (.int .i64 en)) := ⟨h'.c3, h'.c6⟩
  have HK : Aside (∀ X, Below W0.heap.size W0 X → X.cell? ⟨b, 3, none⟩ = some (.int .i64 sent) ∧ X.cell? ⟨b, 6, none⟩ = some (.int .i64 en)) := fun X hX => ⟨(h'.below hX).c3, (h'.below hX).c6⟩
  have HB0 : Aside _ := hb0
  have HD0 : Aside (W0.heap[w.heap.size]? = some (.cells #[.int .i64 0, .int .i64 0, .int .i64 0, .int .i64 0] 78 (0, 0))) := by rw [hW0]; exact World.alloc_heap_new w _
  have hbl := h.lt
  have HW0 : Aside _ := hW0
  rw [hW0] at HWR HSS
  clear h h' hb0 hm hW0
  go_enter Try.func40, Try.ntmps40
  go_wp2_with fail
  refine wp_region_held_drew (S := fun w' => w'.cell? ⟨b, 3, none⟩ = some (.int .i64 sent) ∧ w'.cell? ⟨b, 6, none⟩ = some (.int .i64 en)) (by kernel_rfl) HSS.out (fun hHeld => ?_)
  refine wpAnyH_take (i := 0) (v := .pointer (some ⟨b, 0, none⟩)) rfl (by kernel_rfl) (by kernel_rfl) (by kernel_rfl) (fun _ _ _ h => h) (Or.inl ⟨by rfl, by rintro w ⟨s1, s2⟩; go_simp⟩) hHeld ?_
  refine norm_any' (fun K hK => ?_)
  go_simp
  refine hK _ _ ?_
  clear hK K
  refine wpAnyH_take (i := 2) (v := .pointer (some ⟨b, 0, none⟩)) rfl (by kernel_rfl) (by kernel_rfl) (by kernel_rfl) (fun _ _ _ h => h) (Or.inl ⟨by rfl, by rintro w ⟨s1, s2⟩; go_simp⟩) hHeld ?_
  refine norm_any' (fun K hK => ?_)
  go_simp
  refine hK _ _ ?_
  clear hK K
  refine wpAnyH_take (i := 3) (v := .pointer (some ⟨b, 0, none⟩)) rfl (by kernel_rfl) (by kernel_rfl) (by kernel_rfl) (fun _ _ _ h => h) (Or.inl ⟨by rfl, by rintro w ⟨s1, s2⟩; go_simp⟩) hHeld ?_
  refine norm_any' (fun K hK => ?_)
  go_simp
  refine hK _ _ ?_
  clear hK K
  refine wpAnyH_take (i := 4) (v := .pointer (some ⟨b, 3, none⟩)) rfl (by kernel_rfl) (by kernel_rfl) (by kernel_rfl) (fun _ _ _ h => h) (Or.inl ⟨by rfl, by rintro w ⟨s1, s2⟩; go_simp⟩) hHeld ?_
  refine norm_any' (fun K hK => ?_)
  go_simp
  refine hK _ _ ?_
  clear hK K
  refine wpAnyH_take (i := 5) (v := .int .i64 sent) rfl (by kernel_rfl) (by kernel_rfl) (by kernel_rfl) (fun _ _ _ h => h) (Or.inl ⟨by rfl, by rintro w ⟨s1, s2⟩; go_simp⟩) hHeld ?_
  refine norm_any' (fun K hK => ?_)
  go_simp
  refine hK _ _ ?_
  clear hK K
  refine wpAnyH_take (i := 6) (v := .pointer (some ⟨b, 0, none⟩)) rfl (by kernel_rfl) (by kernel_rfl) (by kernel_rfl) (fun _ _ _ h => h) (Or.inl ⟨by rfl, by rintro w ⟨s1, s2⟩; go_simp⟩) hHeld ?_
  refine norm_any' (fun K hK => ?_)
  go_simp
  refine hK _ _ ?_
  clear hK K
  refine wpAnyH_take (i := 8) (v := .pointer (some ⟨b, 0, none⟩)) rfl (by kernel_rfl) (by kernel_rfl) (by kernel_rfl) (fun _ _ _ h => h) (Or.inl ⟨by rfl, by rintro w ⟨s1, s2⟩; go_simp⟩) hHeld ?_
  refine norm_any' (fun K hK => ?_)
  go_simp
  refine hK _ _ ?_
  clear hK K
  refine wpAnyH_take (i := 9) (v := .pointer (some ⟨b, 0, none⟩)) rfl (by kernel_rfl) (by kernel_rfl) (by kernel_rfl) (fun _ _ _ h => h) (Or.inl ⟨by rfl, by rintro w ⟨s1, s2⟩; go_simp⟩) hHeld ?_
  refine norm_any' (fun K hK => ?_)
  go_simp
  refine hK _ _ ?_
  clear hK K
  refine wpAnyH_take (i := 10) (v := .pointer (some ⟨b, 6, none⟩)) rfl (by kernel_rfl) (by kernel_rfl) (by kernel_rfl) (fun _ _ _ h => h) (Or.inl ⟨by rfl, by rintro w ⟨s1, s2⟩; go_simp⟩) hHeld ?_
  refine norm_any' (fun K hK => ?_)
  go_simp
  refine hK _ _ ?_
  clear hK K
  refine wpAnyH_take (i := 11) (v := .int .i64 en) rfl (by kernel_rfl) (by kernel_rfl) (by kernel_rfl) (fun _ _ _ h => h) (Or.inl ⟨by rfl, by rintro w ⟨s1, s2⟩; go_simp⟩) hHeld ?_
  refine norm_any' (fun K hK => ?_)
  go_simp
  refine hK _ _ ?_
  clear hK K
  refine wpAnyH_ready (rs := [1]) (by kernel_rfl) (by simp) (AllReadyH.cons rfl (fun K hK => ?_) AllReadyH.nil)
  go_simp
  refine Calls.mono HWR.out ?_
  rintro e W8 ⟨rfl, hz⟩
  rw [← HW0.out] at hz
  have HZ : Aside (Below W0.heap.size W0 W8) := hz
  clear hz
  go_simp
  refine hK.out _ _ (HK.out _ HZ.out) (fun hHeld => ?_)
  clear hK K
  refine norm_any' (fun K hK => ?_)
  go_simp
  refine hK _ _ ?_
  clear hK K
  refine wpAnyH_ready (rs := [7]) (by kernel_rfl) (by simp) (AllReadyH.cons rfl (fun K hK => ?_) AllReadyH.nil)
  go_simp
  refine Calls.mono (HKE.out _ HZ.out) ?_
  rintro e W9 ⟨rfl, hz⟩
  have HZ2 : Aside (Below W0.heap.size W0 W9) := HZ.out.trans (hz.mono HZ.out.size)
  clear hz
  go_simp
  refine hK.out _ _ (HK.out _ HZ2.out) (fun hHeld => ?_)
  clear hK K
  refine norm_any' (fun K hK => ?_)
  go_simp
  refine hK _ _ ?_
  clear hK K
  refine wpAnyH_take (i := 12) (v := .agg #[.int .i64 (base + n), .int .i64 sent, .int .i64 (base + n - m), .int .i64 en]) rfl (by kernel_rfl) (by kernel_rfl) (by kernel_rfl) (fun _ _ _ h => h) (Or.inl ⟨by rfl, by rintro w ⟨s1, s2⟩; go_simp⟩) hHeld ?_
  refine norm_any' (fun K hK => ?_)
  go_simp
  refine hK _ _ ?_
  clear hK K
  refine wpAnyH_ready (rs := [13]) (by kernel_rfl) (by simp) (AllReadyH.cons rfl (fun K hK => ?_) AllReadyH.nil)
  have hD9 := (HZ2.out.block _ (Array.getElem?_eq_some_iff.1 HD0.out).1).trans HD0.out
  have z0 : W9.cell? ⟨w.heap.size, 0, none⟩ = some (.int .i64 0) := by simp [World.cell?, hD9]
  have z1 : W9.cell? ⟨w.heap.size, 1, none⟩ = some (.int .i64 0) := by simp [World.cell?, hD9]
  have z2 : W9.cell? ⟨w.heap.size, 2, none⟩ = some (.int .i64 0) := by simp [World.cell?, hD9]
  have z3 : W9.cell? ⟨w.heap.size, 3, none⟩ = some (.int .i64 0) := by simp [World.cell?, hD9]
  have g0 : W9.frozen? ⟨w.heap.size, 0, none⟩ = false := by simp [World.frozen?, hD9]
  have g1 : W9.frozen? ⟨w.heap.size, 1, none⟩ = false := by simp [World.frozen?, hD9]
  have g2 : W9.frozen? ⟨w.heap.size, 2, none⟩ = false := by simp [World.frozen?, hD9]
  have g3 : W9.frozen? ⟨w.heap.size, 3, none⟩ = false := by simp [World.frozen?, hD9]
  have HD9 : Aside _ := hD9
  have n2 : b ≠ w.heap.size := by omega
  have n4 : w.heap.size ≠ b := fun e => n2 e.symm
  have hh3 := (HK.out _ HZ2.out).1
  have hh6 := (HK.out _ HZ2.out).2
  clear hD9
  go_simp
  have hD9 := HD9.out
  clear z0 z1 z2 z3 g0 g1 g2 g3
  obtain ⟨W10, hW10⟩ : ∃ W10, W10 = (((W9.setCell ⟨w.heap.size, 0, none⟩ (.int .i64 (base + n))).setCell ⟨w.heap.size, 1, none⟩ (.int .i64 sent)).setCell ⟨w.heap.size, 2, none⟩ (.int .i64 (base + n - m))).setCell ⟨w.heap.size, 3, none⟩ (.int .i64 en) := ⟨_, rfl⟩
  have e0 : (W9.setCell ⟨w.heap.size, 0, none⟩ (.int .i64 (base + n))).heap[w.heap.size]? = some (.cells #[.int .i64 (base + n), .int .i64 0, .int .i64 0, .int .i64 0] 78 (0, 0)) := by
    rw [setCell_eq_setRow W9 w.heap.size 0 _ 78 (0, 0) _ hD9, setRow_heap W9 w.heap.size _ _ 78 (0, 0) hD9]; simp
  have e1 : ((W9.setCell ⟨w.heap.size, 0, none⟩ (.int .i64 (base + n))).setCell ⟨w.heap.size, 1, none⟩ (.int .i64 sent)).heap[w.heap.size]? = some (.cells #[.int .i64 (base + n), .int .i64 sent, .int .i64 0, .int .i64 0] 78 (0, 0)) := by
    rw [setCell_eq_setRow _ w.heap.size 1 _ 78 (0, 0) _ e0, setRow_heap _ w.heap.size _ _ 78 (0, 0) e0]; simp
  have e2 : (((W9.setCell ⟨w.heap.size, 0, none⟩ (.int .i64 (base + n))).setCell ⟨w.heap.size, 1, none⟩ (.int .i64 sent)).setCell ⟨w.heap.size, 2, none⟩ (.int .i64 (base + n - m))).heap[w.heap.size]? = some (.cells #[.int .i64 (base + n), .int .i64 sent, .int .i64 (base + n - m), .int .i64 0] 78 (0, 0)) := by
    rw [setCell_eq_setRow _ w.heap.size 2 _ 78 (0, 0) _ e1, setRow_heap _ w.heap.size _ _ 78 (0, 0) e1]; simp
  have k9a : W10.heap[w.heap.size]? = some (.cells #[.int .i64 (base + n), .int .i64 sent, .int .i64 (base + n - m), .int .i64 en] 78 (0, 0)) := by
    rw [hW10, setCell_eq_setRow _ w.heap.size 3 _ 78 (0, 0) _ e2, setRow_heap _ w.heap.size _ _ 78 (0, 0) e2]; simp
  have k9c : Chg (fun k => k = w.heap.size) W9 W10 := by
    rw [hW10, setCell_eq_setRow _ w.heap.size 3 _ 78 (0, 0) _ e2, setCell_eq_setRow _ w.heap.size 2 _ 78 (0, 0) _ e1, setCell_eq_setRow _ w.heap.size 1 _ 78 (0, 0) _ e0, setCell_eq_setRow W9 w.heap.size 0 _ 78 (0, 0) _ hD9]
    exact ((((Chg.refl (fun k => k = w.heap.size) W9).set _ _ (.inl rfl)).set _ _ (.inl rfl)).set _ _ (.inl rfl)).set _ _ (.inl rfl)
  have hfr : Below w.heap.size W9 W10 := ⟨k9c.1, k9c.2.1, k9c.2.2.1, k9c.2.2.2.1, fun k hk => k9c.2.2.2.2 k (Nat.lt_of_lt_of_le hk (Nat.le_trans HB0.out.size HZ2.out.size)) (show ¬ k = _ by omega)⟩
  rw [← hW10]
  clear hW10 e0 e1 e2 hD9
  refine hK.out _ _ ⟨(hfr.cell hbl).trans hh3, (hfr.cell hbl).trans hh6⟩ (fun hHeld => ?_)
  clear hK K
  refine wpAnyH_done (by kernel_rfl) ?_ _
  have HFR : Aside (Below w.heap.size w W10) := (HB0.out.trans (HZ2.out.mono HB0.out.size)).trans hfr
  have r0 : W10.cell? ⟨w.heap.size, 0, none⟩ = some (.int .i64 (base + n)) := by simp [World.cell?, k9a]
  have r1 : W10.cell? ⟨w.heap.size, 1, none⟩ = some (.int .i64 sent) := by simp [World.cell?, k9a]
  have r2 : W10.cell? ⟨w.heap.size, 2, none⟩ = some (.int .i64 (base + n - m)) := by simp [World.cell?, k9a]
  have r3 : W10.cell? ⟨w.heap.size, 3, none⟩ = some (.int .i64 en) := by simp [World.cell?, k9a]
  clear hfr hHeld k9c
  go_wp2
  exact bodyPost_ret (v := .agg #[.int .i64 (base + n), .int .i64 sent, .int .i64 (base + n - m), .int .i64 en]) (by simp [results, Try.results40, go_sem, r0, r1, r2, r3]) rfl ⟨rfl, HFR.out⟩

set_option maxRecDepth 100000 in
theorem sizes_ob (h : Ob φ w b A A2 cm o n cp rm base sent en V V2) {m : Int} (hm : Fst V sent m) (h0 : 0 ≤ base) (hb : base + n ≤ 4611686018427387903) (h1 : 0 ≤ m) (h2 : m ≤ base + n) :
    Calls Try.prog 21 #[.pointer (some ⟨b, 0, none⟩)] w fun e w' => e = .returned (.tuple #[.int .i64 (base + n), .int .i64 sent, .int .i64 (base + n - m)]) ∧ Below w.heap.size w w' := by
  have hnn := none_ob _ b A h.c4
  have hsu := summary_ob h hm h0 hb h1 h2
  clear h hm
  go_enter Try.func21, Try.ntmps21
  go_wp2_with fail
  refine hnn.mono ?_
  rintro e w' ⟨rfl, hw'⟩
  subst w'
  clear hnn
  go_wp2_with fail
  refine hsu.mono ?_
  rintro e w1 ⟨rfl, hb1⟩
  have hal : Below w.heap.size w (w1.alloc (.cells #[.int .i64 (base + n), .int .i64 sent, .int .i64 (base + n - m), .int .i64 en] 78)) := hb1.trans (((Below.refl _ w1).alloc (Nat.le_refl _) _).mono hb1.size)
  have HAL : Aside _ := hal
  clear hsu hb1 hal
  go_wp2
  go_quiet (fail)
  go_wp2
  exact bodyPost_ret (v := .tuple #[.int .i64 (base + n), .int .i64 sent, .int .i64 (base + n - m)]) (by simp [results, Try.results21, go_sem]) rfl ⟨rfl, HAL.out.os, HAL.out.tape, HAL.out.output, HAL.out.size, HAL.out.block⟩

end Go.Proofs.YtfgfomkhlhiiiaaR
