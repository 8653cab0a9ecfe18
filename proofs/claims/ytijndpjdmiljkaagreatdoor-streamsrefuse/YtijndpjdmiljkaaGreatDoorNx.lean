/- streams: New: a table as it lies when it is made. -/
import Derived.Test.YtijndpjdmiljkaaGreatDoorNw
namespace Go.Proofs.YtijndpjdmiljkaaGreatDoor
open Go.RowKit
set_option linter.unusedVariables false

abbrev tq0 (srv : Bool) (x y : Lm) (sb eb nb g0 t0 g1 t1 : Nat) : Array Value := (tcs srv x y sb eb nb (.pointer none) (.pointer none) g0 t0 g1 t1 0 0 (.slice none 0 0) (-1)).toArray
/-- What was made in the drawn region, and the table behind it. -/
theorem Mk.tq {n0 : Nat} {srv : Bool} {x y : Lm} {X : World} {l : List (Nat × Obj)} {sb eb nb g0 t0 g1 t1 : Nat} (h : Mk n0 X l) (hs : (sb, Obj.map #[] 0) ∈ l) (he : (eb, Obj.map #[] 0) ∈ l) (hn : (nb, Obj.map #[] 0) ∈ l)
    (hg0 : (g0, Obj.cells (gv0 y.b).p 174 (0, 0)) ∈ l) (ht0 : (t0, Obj.cells (tv0 x.b).p 176 (0, 0)) ∈ l) (hg1 : (g1, Obj.cells (gv0 y.s).p 174 (0, 0)) ∈ l) (ht1 : (t1, Obj.cells (tv0 x.s).p 176 (0, 0)) ∈ l)
    (hnd : [sb, eb, nb, g0, t0, g1, t1].Nodup) (hx : n0 ≤ X.heap.size) : Tq srv x y (.pointer none) (.pointer none) (X.alloc (.cells (tq0 srv x y sb eb nb g0 t0 g1 t1) 89)) X.heap.size sb eb nb g0 t0 g1 t1 ∧ ∀ b ∈ [X.heap.size, sb, eb, nb, g0, t0, g1, t1], n0 ≤ b := by
  have k := h.go (bel1 X (.cells (tq0 srv x y sb eb nb g0 t0 g1 t1) 89))
  refine ⟨⟨heap_alloc_new X _, k.at_ _ hs, k.at_ _ he, k.at_ _ hn, k.at_ _ hg0, k.at_ _ ht0, k.at_ _ hg1, k.at_ _ ht1, ?_⟩, fun b hb => ?_⟩
  · rw [List.nodup_cons]
    refine ⟨fun hm => ?_, hnd⟩
    have a0 := h.lt _ hs
    have a1 := h.lt _ he
    have a2 := h.lt _ hn
    have a3 := h.lt _ hg0
    have a4 := h.lt _ ht0
    have a5 := h.lt _ hg1
    have a6 := h.lt _ ht1
    simp only [List.mem_cons, List.not_mem_nil, or_false] at hm a0 a1 a2 a3 a4 a5 a6
    omega
  · simp only [List.mem_cons, List.not_mem_nil, or_false] at hb
    rcases hb with rfl | rfl | rfl | rfl | rfl | rfl | rfl | rfl
    · exact hx
    · exact h.lo _ hs
    · exact h.lo _ he
    · exact h.lo _ hn
    · exact h.lo _ hg0
    · exact h.lo _ ht0
    · exact h.lo _ hg1
    · exact h.lo _ ht1
set_option maxRecDepth 100000 in
set_option maxHeartbeats 4000000 in
theorem tnew_c (srv : Bool) (x y : Lm) (w : World) (hx : x.le ownM = true) (hy : y.le peerM = true) : Calls Tryz.prog 15 #[.bool srv, .agg x.v.toArray, .agg y.v.toArray] w fun e w' => ∃ k : Bks, e = .returned (.tuple #[ptr k.T, .int .i64 0]) ∧ Tb srv x y k (Tst.begin x y) w' ∧ w'.heap[k.sb]? = some (.map #[] 0) ∧ w'.heap[k.eb]? = some (.map #[] 0) ∧ w'.heap[k.nb]? = some (.map #[] 0) ∧ (∀ b ∈ k.l, w.heap.size ≤ b) ∧ Below w.heap.size w w' := by
  obtain ⟨X0, hX0, hb0, ha0, hc0⟩ := two_lims x y w
  obtain ⟨B, hB⟩ : ∃ B, w.heap.size = B := ⟨_, rfl⟩
  have HY0 : Hid (Ls x y w B X0) := ⟨hB ▸ ha0, hB ▸ hc0, hb0⟩
  have HW1 : Hid (∀ X, _) := within_c x ownM
  have HW2 : Hid (∀ X, _) := within_c y peerM
  rw [hx] at HW1
  rw [hy] at HW2
  clear ha0 hc0 hb0
  obtain ⟨⟨xd0, xd1⟩, _, _, _, ⟨xb0, xb1⟩, ⟨xs0, xs1⟩⟩ := le_ok hx
  obtain ⟨⟨yd0, yd1⟩, _, _, _, ⟨yb0, yb1⟩, ⟨ys0, ys1⟩⟩ := le_ok hy
  simp only [ownM] at xd1 xb1 xs1
  simp only [peerM] at yd1 yb1 ys1
  have HGD : Hid (∀ X, _) := fun X => newg_c y.d X (may_ok yd0 (by omega))
  have HTD : Hid (∀ X, _) := fun X => newt_c x.d X (mayt_ok xd0 (by omega))
  have HK0 : Hid (∀ X, _) := fun X => newKind_c x.b y.b X (mayt_ok xb0 (by omega)) (may_ok yb0 (by omega))
  have HK1 : Hid (∀ X, _) := fun X => newKind_c x.s y.s X (mayt_ok xs0 (by omega)) (may_ok ys0 (by omega))
  clear xd0 xd1 xb0 xb1 xs0 xs1 yd0 yd1 yb0 yb1 ys0 ys1 hx hy
  go_enter Tryz.func15, Tryz.ntmps15
  go_upto_region 1 with fail
  clear hX0 hB
  refine wp_region_held_drew (S := fun X => Ls x y w B X) (by kernel_rfl) (HY0.out.go (bel_drew _)) (fun hHeld => ?_)
  have HYX : Hid _ := HY0.out.go (bel_drew _)
  generalize X0.drew = X at *
  refine wpAnyH_take (i := 0) (v := .agg x.v.toArray) rfl (by kernel_rfl) (by kernel_rfl) (by kernel_rfl) (fun _ _ _ h => h) (yieldsIf_load_mid rfl 23 (.tmp 4) rfl (B) 0 rfl x.v _ (fun X hX => rng23 (Ls.a hX)) u23 rfl i23) hHeld ?_
  refine norm_any' (fun K hK => ?_); go_simp; refine hK _ _ ?_; clear hK K
  refine wpAnyH_ready (rs := [1]) (by kernel_rfl) (by simp) (AllReadyH.cons rfl (fun K hK => ?_) AllReadyH.nil)
  go_simp
  refine Calls.mono (ownMost_c _) ?_
  rintro e Y1 ⟨rfl, hbx⟩
  have HZ1 : Hid _ := HYX.out.go hbx
  clear hbx
  refine hK.out _ _ HZ1.out (fun hHeld => ?_)
  clear hK K
  refine norm_any' (fun K hK => ?_); go_simp; refine hK _ _ ?_; clear hK K
  refine wpAnyH_ready (rs := [2]) (by kernel_rfl) (by simp) (AllReadyH.cons rfl (fun K hK => ?_) AllReadyH.nil)
  go_simp
  refine Calls.mono (HW1.out _) ?_
  rintro e Y2 ⟨rfl, hbx⟩
  have HZ2 : Hid _ := HZ1.out.go hbx
  clear hbx
  refine hK.out _ _ HZ2.out (fun hHeld => ?_)
  clear hK K
  refine norm_any' (fun K hK => ?_); go_simp; refine hK _ _ ?_; clear hK K
  refine wpAnyH_take (i := 3) (v := .bool false) rfl (by kernel_rfl) (by kernel_rfl) (by kernel_rfl) (fun _ _ _ h => h) (Or.inl ⟨by rfl, by intro w hs; go_simp⟩) hHeld ?_
  refine norm_any' (fun K hK => ?_); go_simp; refine hK _ _ ?_; clear hK K
  refine wpAnyH_take (i := 4) (v := .bool false) rfl (by kernel_rfl) (by kernel_rfl) (by kernel_rfl) (fun _ _ _ h => h) (Or.inl ⟨by rfl, by intro w hs; go_simp⟩) hHeld ?_
  refine norm_any' (fun K hK => ?_); go_simp; refine hK _ _ ?_; clear hK K
  refine wpAnyH_take (i := 5) (v := .agg y.v.toArray) rfl (by kernel_rfl) (by kernel_rfl) (by kernel_rfl) (fun _ _ _ h => h) (yieldsIf_load_mid rfl 23 (.tmp 5) rfl (B + 1) 0 rfl y.v _ (fun X hX => rng23 (Ls.b hX)) u23 rfl i23) hHeld ?_
  refine norm_any' (fun K hK => ?_); go_simp; refine hK _ _ ?_; clear hK K
  refine wpAnyH_ready (rs := [6]) (by kernel_rfl) (by simp) (AllReadyH.cons rfl (fun K hK => ?_) AllReadyH.nil)
  go_simp
  refine Calls.mono (peerMost_c _) ?_
  rintro e Y3 ⟨rfl, hbx⟩
  have HZ3 : Hid _ := HZ2.out.go hbx
  clear hbx
  refine hK.out _ _ HZ3.out (fun hHeld => ?_)
  clear hK K
  refine norm_any' (fun K hK => ?_); go_simp; refine hK _ _ ?_; clear hK K
  refine wpAnyH_ready (rs := [7]) (by kernel_rfl) (by simp) (AllReadyH.cons rfl (fun K hK => ?_) AllReadyH.nil)
  go_simp
  refine Calls.mono (HW2.out _) ?_
  rintro e Y4 ⟨rfl, hbx⟩
  have HZ4 : Hid _ := HZ3.out.go hbx
  clear hbx
  refine hK.out _ _ HZ4.out (fun hHeld => ?_)
  clear hK K
  refine norm_any' (fun K hK => ?_); go_simp; refine hK _ _ ?_; clear hK K
  refine wpAnyH_take (i := 8) (v := .bool false) rfl (by kernel_rfl) (by kernel_rfl) (by kernel_rfl) (fun _ _ _ h => h) (Or.inl ⟨by rfl, by intro w hs; go_simp⟩) hHeld ?_
  refine norm_any' (fun K hK => ?_); go_simp; refine hK _ _ ?_; clear hK K
  refine wpAnyH_take (i := 9) (v := .bool false) rfl (by kernel_rfl) (by kernel_rfl) (by kernel_rfl) (fun _ _ _ h => h) (Or.inl ⟨by rfl, by intro w hs; go_simp⟩) hHeld ?_
  refine norm_any' (fun K hK => ?_); go_simp; refine hK _ _ ?_; clear hK K
  refine wpAnyH_done (by kernel_rfl) ?_ _
  go_upto_region 3 with fail
  have HL3 : Hid _ := HZ4.out
  go_cut [8] from 9 (fun s8 wx => Hid (∃ T sb eb nb g0 t0 g1 t1, s8 = .pointer (some ⟨T, 0, none⟩) ∧ Tq srv x y (.pointer none) (.pointer none) wx T sb eb nb g0 t0 g1 t1 ∧ Ls x y w B wx ∧ ∀ b ∈ [T, sb, eb, nb, g0, t0, g1, t1], w.heap.size ≤ b))
  case rest =>
    
    obtain ⟨T, sb, eb, nb, g0, t0, g1, t1, rfl, HQ, HL, HN⟩ := hcut.out
    have hq1 : Hid _ := HQ
    have hl1 : Hid _ := HL
    have hn1 : Hid (∀ b ∈ [T, sb, eb, nb, g0, t0, g1, t1], w.heap.size ≤ b) := HN
    obtain ⟨a0, _, _, _, _, _⟩ := lim_cells HL.a
    obtain ⟨b0, _, _, _, _, _⟩ := lim_cells HL.b
    clear HQ HL HN hcut
    go_wp2_with fail
    refine (HGD.out _).mono ?_
    rintro e X1 ⟨rfl, hg, hb1⟩
    have hq2 : Hid _ := hq1.out.go hb1
    have hl2 : Hid _ := hl1.out.go hb1
    obtain ⟨g, hge⟩ : ∃ g, wc.heap.size = g := ⟨_, rfl⟩
    have hgs : Hid ((∀ b ∈ [T, sb, eb, nb, g0, t0, g1, t1], b < g) ∧ g < X1.heap.size ∧ w.heap.size ≤ g) := ⟨fun b hb => hge ▸ hq1.out.lt b hb, hge ▸ hg.lt, by rw [← hge]; exact hl1.out.bel.size⟩
    have hg1_ : Hid (Rt 174 (gv0 y.d).p X1 g) := by rw [← hge]; exact hg
    rw [hge] at *
    have c15 : X1.cell? ⟨T, 15, none⟩ = some (.pointer none) := hq2.out.tab.cell 15
    have f15 : X1.frozen? ⟨T, 15, none⟩ = false := hq2.out.tab.frozen 15
    clear hg hb1 a0 b0 hge hq1 hl1
    go_upto_region 5 with fail
    clear c15 f15
    have hq3 : Hid _ := hq2.out.set (vg' := ptr g) (vt' := .pointer none) 15 (ptr g) rfl
    have hl3 : Hid _ := hl2.out.set hq2.out.tab (hn1.out T (by simp)) 15 (ptr g)
    have hg2_ : Hid (Rt 174 (gv0 y.d).p (X1.setCell ⟨T, 15, none⟩ (ptr g)) g) := (heap_set hq2.out.tab 15 _ (by have := hgs.out.1 T (by simp); omega)).trans hg1_.out
    have hgz : Hid (g < (X1.setCell ⟨T, 15, none⟩ (ptr g)).heap.size) := hg2_.out.lt
    have hpt : (Value.pointer (some ⟨g, 0, none⟩)) = ptr g := rfl
    rw [hpt] at *
    generalize X1.setCell ⟨T, 15, none⟩ (ptr g) = X2 at *
    obtain ⟨a0, _, _, _, _, _⟩ := lim_cells hl3.out.a
    clear hq2 hl2 hg1_
    go_wp2_with fail
    refine (HTD.out _).mono ?_
    rintro e X3 ⟨rfl, ht, hb3⟩
    have hq4 : Hid _ := hq3.out.go hb3
    have hl4 : Hid _ := hl3.out.go hb3
    have hg3_ : Hid _ := rt_bel hg2_.out hb3
    obtain ⟨t, hte⟩ : ∃ t, X2.heap.size = t := ⟨_, rfl⟩
    have hts : Hid ((∀ b ∈ [T, sb, eb, nb, g0, t0, g1, t1], b < t) ∧ g < t ∧ w.heap.size ≤ t) := ⟨fun b hb => hte ▸ hq3.out.lt b hb, hte ▸ hgz.out, by rw [← hte]; exact hl3.out.bel.size⟩
    have ht1_ : Hid (Rt 176 (tv0 x.d).p X3 t) := by rw [← hte]; exact ht
    rw [hte] at *
    have c16 : X3.cell? ⟨T, 16, none⟩ = some (.pointer none) := hq4.out.tab.cell 16
    have f16 : X3.frozen? ⟨T, 16, none⟩ = false := hq4.out.tab.frozen 16
    clear ht hb3 a0 hte hq3 hl3 hg2_ hgz
    go_wp2_with fail
    clear c16 f16
    have hq5 : Hid _ := hq4.out.set (vg' := ptr g) (vt' := ptr t) 16 (ptr t) rfl
    have hl5 : Hid _ := hl4.out.set hq4.out.tab (hn1.out T (by simp)) 16 (ptr t)
    have hT1 := hgs.out.1 T (by simp)
    have hT2 := hts.out.1 T (by simp)
    have hg4_ : Hid (Rt 174 (gv0 y.d).p (X3.setCell ⟨T, 16, none⟩ (ptr t)) g) := (heap_set hq4.out.tab 16 _ (by omega)).trans hg3_.out
    have ht4_ : Hid (Rt 176 (tv0 x.d).p (X3.setCell ⟨T, 16, none⟩ (ptr t)) t) := (heap_set hq4.out.tab 16 _ (by omega)).trans ht1_.out
    refine bodyPost_ret (results_tmp2 rfl _ _ _) rfl ?_
    refine ⟨⟨T, sb, eb, nb, g, t, g0, t0, g1, t1⟩, rfl, ⟨hq5.out.tab, hg4_.out, ht4_.out, hq5.out.hg0, hq5.out.ht0, hq5.out.hg1, hq5.out.ht1, ?_⟩, hq5.out.sm, hq5.out.em, hq5.out.nm, ?_, hl5.out.bel⟩
    · have k1 := hgs.out.1
      have k2 := hts.out.1
      have k3 := hts.out.2.1
      refine List.nodup_cons.2 ⟨fun h => ?_, List.nodup_cons.2 ⟨fun h => Nat.lt_irrefl _ (k1 _ h), hq5.out.nd⟩⟩
      rcases List.mem_cons.1 h with h | h
      · simp only at h
        omega
      · exact Nat.lt_irrefl _ (k2 _ h)
    · have k1 := hn1.out
      have k2 := hgs.out.2.2
      have k3 := hts.out.2.2
      simp only [Bks.l, List.mem_cons, List.not_mem_nil, or_false, forall_eq_or_imp, forall_eq] at k1 ⊢
      omega
  case first =>
    have HLD : Hid _ := HL3.out.go (bel_drew _)
    refine wp_region_held_drew (S := fun X => Ls x y w B X) (by kernel_rfl) HLD.out (fun hHeld => ?_)
    have HMD : Hid _ := Mk.nil Y4.drew w.heap.size
    clear HL3 HZ4
    have q80 := mmap 80 (.inl rfl)
    have q81 := mmap 81 (.inr (.inl rfl))
    have q87 := mmap 87 (.inr (.inr rfl))
    refine wpAnyH_take (i := 0) (v := .bool srv) rfl (by kernel_rfl) (by kernel_rfl) (by kernel_rfl) (fun _ _ _ h => h) (Or.inl ⟨by rfl, by intro w hs; go_simp⟩) hHeld ?_
    refine norm_any' (fun K hK => ?_); go_simp; refine hK _ _ ?_; clear hK K
    refine wpAnyH_take (i := 1) (v := .agg x.v.toArray) rfl (by kernel_rfl) (by kernel_rfl) (by kernel_rfl) (fun _ _ _ h => h) (yieldsIf_load_mid rfl 23 (.tmp 4) rfl (B) 0 rfl x.v _ (fun X hX => rng23 (Ls.a hX)) u23 rfl i23) hHeld ?_
    refine norm_any' (fun K hK => ?_); go_simp; refine hK _ _ ?_; clear hK K
    refine wpAnyH_take (i := 2) (v := .agg y.v.toArray) rfl (by kernel_rfl) (by kernel_rfl) (by kernel_rfl) (fun _ _ _ h => h) (yieldsIf_load_mid rfl 23 (.tmp 5) rfl (B + 1) 0 rfl y.v _ (fun X hX => rng23 (Ls.b hX)) u23 rfl i23) hHeld ?_
    refine norm_any' (fun K hK => ?_); go_simp; refine hK _ _ ?_; clear hK K
    refine wpAnyH_take (i := 6) (v := .pointer (some ⟨B, 4, none⟩)) rfl (by kernel_rfl) (by kernel_rfl) (by kernel_rfl) (fun _ _ _ h => h) (Or.inl ⟨by rfl, by intro w hs; go_simp⟩) hHeld ?_
    refine norm_any' (fun K hK => ?_); go_simp; refine hK _ _ ?_; clear hK K
    refine wpAnyH_take (i := 7) (v := .int .i64 x.b) rfl (by kernel_rfl) (by kernel_rfl) (by kernel_rfl) (fun _ _ _ h => h) (Or.inl ⟨by rfl, by intro w_ hs; obtain ⟨q0, q1, q2, q3⟩ := ls_cells hs; go_simp⟩) hHeld ?_
    refine norm_any' (fun K hK => ?_); go_simp; refine hK _ _ ?_; clear hK K
    refine wpAnyH_take (i := 8) (v := .pointer (some ⟨B + 1, 4, none⟩)) rfl (by kernel_rfl) (by kernel_rfl) (by kernel_rfl) (fun _ _ _ h => h) (Or.inl ⟨by rfl, by intro w hs; go_simp⟩) hHeld ?_
    refine norm_any' (fun K hK => ?_); go_simp; refine hK _ _ ?_; clear hK K
    refine wpAnyH_take (i := 9) (v := .int .i64 y.b) rfl (by kernel_rfl) (by kernel_rfl) (by kernel_rfl) (fun _ _ _ h => h) (Or.inl ⟨by rfl, by intro w_ hs; obtain ⟨q0, q1, q2, q3⟩ := ls_cells hs; go_simp⟩) hHeld ?_
    refine norm_any' (fun K hK => ?_); go_simp; refine hK _ _ ?_; clear hK K
    refine wpAnyH_take (i := 11) (v := .pointer (some ⟨B, 5, none⟩)) rfl (by kernel_rfl) (by kernel_rfl) (by kernel_rfl) (fun _ _ _ h => h) (Or.inl ⟨by rfl, by intro w hs; go_simp⟩) hHeld ?_
    refine norm_any' (fun K hK => ?_); go_simp; refine hK _ _ ?_; clear hK K
    refine wpAnyH_take (i := 12) (v := .int .i64 x.s) rfl (by kernel_rfl) (by kernel_rfl) (by kernel_rfl) (fun _ _ _ h => h) (Or.inl ⟨by rfl, by intro w_ hs; obtain ⟨q0, q1, q2, q3⟩ := ls_cells hs; go_simp⟩) hHeld ?_
    refine norm_any' (fun K hK => ?_); go_simp; refine hK _ _ ?_; clear hK K
    refine wpAnyH_take (i := 13) (v := .pointer (some ⟨B + 1, 5, none⟩)) rfl (by kernel_rfl) (by kernel_rfl) (by kernel_rfl) (fun _ _ _ h => h) (Or.inl ⟨by rfl, by intro w hs; go_simp⟩) hHeld ?_
    refine norm_any' (fun K hK => ?_); go_simp; refine hK _ _ ?_; clear hK K
    refine wpAnyH_take (i := 14) (v := .int .i64 y.s) rfl (by kernel_rfl) (by kernel_rfl) (by kernel_rfl) (fun _ _ _ h => h) (Or.inl ⟨by rfl, by intro w_ hs; obtain ⟨q0, q1, q2, q3⟩ := ls_cells hs; go_simp⟩) hHeld ?_
    refine norm_any' (fun K hK => ?_); go_simp; refine hK _ _ ?_; clear hK K
    have HL0_ : Hid _ := HLD.out
    have HM0_ : Hid _ := HMD.out
    clear HLD HMD
    generalize Y4.drew = Z0 at *
    refine wpAnyH_ready (rs := [3, 4, 5, 10]) (by kernel_rfl) (by simp) (AllReadyH.cons rfl (fun K hK => ?_) (AllReadyH.cons rfl (fun K hK => ?_) (AllReadyH.cons rfl (fun K hK => ?_) (AllReadyH.cons rfl (fun K hK => ?_) AllReadyH.nil))))
    ·go_simp
     have HL1_ : Hid _ := HL0_.out.go (bel1 Z0 (.map #[] 0))
     have HM1_ : Hid _ := HM0_.out.one HL0_.out.bel.size (bel1 Z0 (.map #[] 0)) (Nat.le_refl _) (heap_alloc_new Z0 (.map #[] 0))
     obtain ⟨sb, hesb⟩ : ∃ sb, Z0.heap.size = sb := ⟨_, rfl⟩
     rw [hesb] at HM1_
     generalize Z0.alloc (.map #[] 0) = Z1 at *
     rw [hesb]
     clear hesb
     clear HL0_ HM0_
     refine hK.out _ _ HL1_.out (fun hHeld => ?_)
     clear hK K
     refine norm_any' (fun K hK => ?_); go_simp; refine hK _ _ ?_; clear hK K
     refine wpAnyH_ready (rs := [4, 5, 10]) (by kernel_rfl) (by simp) (AllReadyH.cons rfl (fun K hK => ?_) (AllReadyH.cons rfl (fun K hK => ?_) (AllReadyH.cons rfl (fun K hK => ?_) AllReadyH.nil)))
     ·go_simp
      have HL2_ : Hid _ := HL1_.out.go (bel1 Z1 (.map #[] 0))
      have HM2_ : Hid _ := HM1_.out.one HL1_.out.bel.size (bel1 Z1 (.map #[] 0)) (Nat.le_refl _) (heap_alloc_new Z1 (.map #[] 0))
      obtain ⟨eb, heeb⟩ : ∃ eb, Z1.heap.size = eb := ⟨_, rfl⟩
      rw [heeb] at HM2_
      generalize Z1.alloc (.map #[] 0) = Z2 at *
      rw [heeb]
      clear heeb
      clear HL1_ HM1_
      refine hK.out _ _ HL2_.out (fun hHeld => ?_)
      clear hK K
      refine norm_any' (fun K hK => ?_); go_simp; refine hK _ _ ?_; clear hK K
      refine wpAnyH_ready (rs := [5, 10]) (by kernel_rfl) (by simp) (AllReadyH.cons rfl (fun K hK => ?_) (AllReadyH.cons rfl (fun K hK => ?_) AllReadyH.nil))
      ·go_simp
       have HL3_ : Hid _ := HL2_.out.go (bel1 Z2 (.map #[] 0))
       have HM3_ : Hid _ := HM2_.out.one HL2_.out.bel.size (bel1 Z2 (.map #[] 0)) (Nat.le_refl _) (heap_alloc_new Z2 (.map #[] 0))
       obtain ⟨nb, henb⟩ : ∃ nb, Z2.heap.size = nb := ⟨_, rfl⟩
       rw [henb] at HM3_
       generalize Z2.alloc (.map #[] 0) = Z3 at *
       rw [henb]
       clear henb
       clear HL2_ HM2_
       refine hK.out _ _ HL3_.out (fun hHeld => ?_)
       clear hK K
       refine norm_any' (fun K hK => ?_); go_simp; refine hK _ _ ?_; clear hK K
       refine wpAnyH_ready (rs := [10]) (by kernel_rfl) (by simp) (AllReadyH.cons rfl (fun K hK => ?_) AllReadyH.nil)
       go_simp
       refine Calls.mono (HK0.out Z3) ?_
       rintro e Z4 ⟨g0, t0, rfl, hga, hta, hlo, hlt, hhi, hbx⟩
       have HL4_ : Hid _ := HL3_.out.go hbx
       have HM4_ : Hid _ := HM3_.out.two HL3_.out.bel.size hbx hlo hlt hga hta
       clear hga hta hlo hlt hhi hbx
       clear HL3_ HM3_
       refine hK.out _ _ HL4_.out (fun hHeld => ?_)
       clear hK K
       refine norm_any' (fun K hK => ?_); go_simp; refine hK _ _ ?_; clear hK K
       refine wpAnyH_ready (rs := [15]) (by kernel_rfl) (by simp) (AllReadyH.cons rfl (fun K hK => ?_) AllReadyH.nil)
       go_simp
       refine Calls.mono (HK1.out Z4) ?_
       rintro e Z5 ⟨g1, t1, rfl, hga, hta, hlo, hlt, hhi, hbx⟩
       have HL5_ : Hid _ := HL4_.out.go hbx
       have HM5_ : Hid _ := HM4_.out.two HL4_.out.bel.size hbx hlo hlt hga hta
       clear hga hta hlo hlt hhi hbx
       clear HL4_ HM4_
       refine hK.out _ _ HL5_.out (fun hHeld => ?_)
       clear hK K
       refine norm_any' (fun K hK => ?_); go_simp; refine hK _ _ ?_; clear hK K
       refine wpAnyH_take (i := 16) (v := .agg #[.pointer (some ⟨g0, 0, none⟩), .int .i64 0, .pointer (some ⟨t0, 0, none⟩), .pointer (some ⟨g1, 0, none⟩), .int .i64 0, .pointer (some ⟨t1, 0, none⟩)]) rfl (by kernel_rfl) (by kernel_rfl) (by kernel_rfl) (fun _ _ _ h => h) (Or.inl ⟨by rfl, by intro w hs; go_simp⟩) hHeld ?_
       refine norm_any' (fun K hK => ?_); go_simp; refine hK _ _ ?_; clear hK K
       refine wpAnyH_take (i := 17) (v := .agg (tq0 srv x y sb eb nb g0 t0 g1 t1)) rfl (by kernel_rfl) (by kernel_rfl) (by kernel_rfl) (fun _ _ _ h => h) (Or.inl ⟨by rfl, by intro w hs; kernel_rfl⟩) hHeld ?_
       refine norm_any' (fun K hK => ?_); go_simp; refine hK _ _ ?_; clear hK K
       refine wpAnyH_ready (rs := [18]) (by kernel_rfl) (by simp) (AllReadyH.cons rfl (fun K hK => ?_) AllReadyH.nil)
       go_simp
       have HTQ : Hid _ := HM5_.out.tq (srv := srv) (x := x) (y := y) (sb := sb) (eb := eb) (nb := nb) (g0 := g0) (t0 := t0) (g1 := g1) (t1 := t1) (List.Mem.tail _ (List.Mem.tail _ (List.Mem.tail _ (List.Mem.tail _ (List.Mem.tail _ (List.Mem.tail _ (List.Mem.head _))))))) (List.Mem.tail _ (List.Mem.tail _ (List.Mem.tail _ (List.Mem.tail _ (List.Mem.tail _ (List.Mem.head _)))))) (List.Mem.tail _ (List.Mem.tail _ (List.Mem.tail _ (List.Mem.tail _ (List.Mem.head _))))) (List.Mem.tail _ (List.Mem.tail _ (List.Mem.tail _ (List.Mem.head _)))) (List.Mem.tail _ (List.Mem.tail _ (List.Mem.head _))) (List.Mem.tail _ (List.Mem.head _)) (List.Mem.head _) (by
         have hn := HM5_.out.nd
         simp only [List.map_cons, List.map_nil, List.nodup_cons, List.mem_cons, List.not_mem_nil, not_or, or_false, not_false_eq_true, and_true, List.nodup_nil] at hn ⊢
         obtain ⟨⟨gf_, ge_, gd_, gc_, gb_, ga_⟩, ⟨fe_, fd_, fc_, fb_, fa_⟩, ⟨ed_, ec_, eb_, ea_⟩, ⟨dc_, db_, da_⟩, ⟨cb_, ca_⟩, ba_⟩ := hn
         exact ⟨⟨Ne.symm ba_, Ne.symm ca_, Ne.symm da_, Ne.symm ea_, Ne.symm fa_, Ne.symm ga_⟩, ⟨Ne.symm cb_, Ne.symm db_, Ne.symm eb_, Ne.symm fb_, Ne.symm gb_⟩, ⟨Ne.symm dc_, Ne.symm ec_, Ne.symm fc_, Ne.symm gc_⟩, ⟨Ne.symm ed_, Ne.symm fd_, Ne.symm gd_⟩, ⟨Ne.symm fe_, Ne.symm ge_⟩, Ne.symm gf_⟩) HL5_.out.bel.size
       have HLT : Hid _ := HL5_.out.go (bel1 _ (.cells (tq0 srv x y sb eb nb g0 t0 g1 t1) 89))
       refine hK.out _ _ HLT.out (fun hHeld => ?_)
       clear hK K; refine norm_any' (fun K hK => ?_); go_simp; refine hK _ _ ?_; clear hK K
       refine wpAnyH_take (i := 19) rfl (by kernel_rfl) (by kernel_rfl) (by kernel_rfl) (fun _ _ _ h => h) (Or.inl ⟨by rfl, by intro w hs; go_simp; rfl⟩) hHeld ?_
       refine norm_any' (fun K hK => ?_); go_simp; refine hK _ _ ?_; clear hK K
       refine wpAnyH_done (by kernel_rfl) ?_ _
       go_wp2
       go_meet
       case rel => exact ⟨_, sb, eb, nb, g0, t0, g1, t1, rfl, HTQ.out.1, HLT.out, HTQ.out.2⟩
      ·go_simp
       refine Calls.mono (HK0.out Z2) ?_
       rintro e Z6 ⟨g0, t0, rfl, hga, hta, hlo, hlt, hhi, hbx⟩
       have HL6_ : Hid _ := HL2_.out.go hbx
       have HM6_ : Hid _ := HM2_.out.two HL2_.out.bel.size hbx hlo hlt hga hta
       clear hga hta hlo hlt hhi hbx
       clear HL2_ HM2_
       refine hK.out _ _ HL6_.out (fun hHeld => ?_)
       clear hK K
       refine norm_any' (fun K hK => ?_); go_simp; refine hK _ _ ?_; clear hK K
       refine wpAnyH_ready (rs := [5, 15]) (by kernel_rfl) (by simp) (AllReadyH.cons rfl (fun K hK => ?_) (AllReadyH.cons rfl (fun K hK => ?_) AllReadyH.nil))
       ·go_simp
        have HL7_ : Hid _ := HL6_.out.go (bel1 Z6 (.map #[] 0))
        have HM7_ : Hid _ := HM6_.out.one HL6_.out.bel.size (bel1 Z6 (.map #[] 0)) (Nat.le_refl _) (heap_alloc_new Z6 (.map #[] 0))
        obtain ⟨nb, henb⟩ : ∃ nb, Z6.heap.size = nb := ⟨_, rfl⟩
        rw [henb] at HM7_
        generalize Z6.alloc (.map #[] 0) = Z7 at *
        rw [henb]
        clear henb
        clear HL6_ HM6_
        refine hK.out _ _ HL7_.out (fun hHeld => ?_)
        clear hK K
        refine norm_any' (fun K hK => ?_); go_simp; refine hK _ _ ?_; clear hK K
        refine wpAnyH_ready (rs := [15]) (by kernel_rfl) (by simp) (AllReadyH.cons rfl (fun K hK => ?_) AllReadyH.nil)
        go_simp
        refine Calls.mono (HK1.out Z7) ?_
        rintro e Z8 ⟨g1, t1, rfl, hga, hta, hlo, hlt, hhi, hbx⟩
        have HL8_ : Hid _ := HL7_.out.go hbx
        have HM8_ : Hid _ := HM7_.out.two HL7_.out.bel.size hbx hlo hlt hga hta
        clear hga hta hlo hlt hhi hbx
        clear HL7_ HM7_
        refine hK.out _ _ HL8_.out (fun hHeld => ?_)
        clear hK K
        refine norm_any' (fun K hK => ?_); go_simp; refine hK _ _ ?_; clear hK K
        refine wpAnyH_take (i := 16) (v := .agg #[.pointer (some ⟨g0, 0, none⟩), .int .i64 0, .pointer (some ⟨t0, 0, none⟩), .pointer (some ⟨g1, 0, none⟩), .int .i64 0, .pointer (some ⟨t1, 0, none⟩)]) rfl (by kernel_rfl) (by kernel_rfl) (by kernel_rfl) (fun _ _ _ h => h) (Or.inl ⟨by rfl, by intro w hs; go_simp⟩) hHeld ?_
        refine norm_any' (fun K hK => ?_); go_simp; refine hK _ _ ?_; clear hK K
        refine wpAnyH_take (i := 17) (v := .agg (tq0 srv x y sb eb nb g0 t0 g1 t1)) rfl (by kernel_rfl) (by kernel_rfl) (by kernel_rfl) (fun _ _ _ h => h) (Or.inl ⟨by rfl, by intro w hs; kernel_rfl⟩) hHeld ?_
        refine norm_any' (fun K hK => ?_); go_simp; refine hK _ _ ?_; clear hK K
        refine wpAnyH_ready (rs := [18]) (by kernel_rfl) (by simp) (AllReadyH.cons rfl (fun K hK => ?_) AllReadyH.nil)
        go_simp
        have HTQ : Hid _ := HM8_.out.tq (srv := srv) (x := x) (y := y) (sb := sb) (eb := eb) (nb := nb) (g0 := g0) (t0 := t0) (g1 := g1) (t1 := t1) (List.Mem.tail _ (List.Mem.tail _ (List.Mem.tail _ (List.Mem.tail _ (List.Mem.tail _ (List.Mem.tail _ (List.Mem.head _))))))) (List.Mem.tail _ (List.Mem.tail _ (List.Mem.tail _ (List.Mem.tail _ (List.Mem.tail _ (List.Mem.head _)))))) (List.Mem.tail _ (List.Mem.tail _ (List.Mem.head _))) (List.Mem.tail _ (List.Mem.tail _ (List.Mem.tail _ (List.Mem.tail _ (List.Mem.head _))))) (List.Mem.tail _ (List.Mem.tail _ (List.Mem.tail _ (List.Mem.head _)))) (List.Mem.tail _ (List.Mem.head _)) (List.Mem.head _) (by
          have hn := HM8_.out.nd
          simp only [List.map_cons, List.map_nil, List.nodup_cons, List.mem_cons, List.not_mem_nil, not_or, or_false, not_false_eq_true, and_true, List.nodup_nil] at hn ⊢
          obtain ⟨⟨gf_, gc_, ge_, gd_, gb_, ga_⟩, ⟨fc_, fe_, fd_, fb_, fa_⟩, ⟨ce_, cd_, cb_, ca_⟩, ⟨ed_, eb_, ea_⟩, ⟨db_, da_⟩, ba_⟩ := hn
          exact ⟨⟨Ne.symm ba_, Ne.symm ca_, Ne.symm da_, Ne.symm ea_, Ne.symm fa_, Ne.symm ga_⟩, ⟨Ne.symm cb_, Ne.symm db_, Ne.symm eb_, Ne.symm fb_, Ne.symm gb_⟩, ⟨cd_, ce_, Ne.symm fc_, Ne.symm gc_⟩, ⟨Ne.symm ed_, Ne.symm fd_, Ne.symm gd_⟩, ⟨Ne.symm fe_, Ne.symm ge_⟩, Ne.symm gf_⟩) HL8_.out.bel.size
        have HLT : Hid _ := HL8_.out.go (bel1 _ (.cells (tq0 srv x y sb eb nb g0 t0 g1 t1) 89))
        refine hK.out _ _ HLT.out (fun hHeld => ?_)
        clear hK K; refine norm_any' (fun K hK => ?_); go_simp; refine hK _ _ ?_; clear hK K
        refine wpAnyH_take (i := 19) rfl (by kernel_rfl) (by kernel_rfl) (by kernel_rfl) (fun _ _ _ h => h) (Or.inl ⟨by rfl, by intro w hs; go_simp; rfl⟩) hHeld ?_
        refine norm_any' (fun K hK => ?_); go_simp; refine hK _ _ ?_; clear hK K
        refine wpAnyH_done (by kernel_rfl) ?_ _
        go_wp2
        go_meet
        case rel => exact ⟨_, sb, eb, nb, g0, t0, g1, t1, rfl, HTQ.out.1, HLT.out, HTQ.out.2⟩
       ·go_simp
        refine Calls.mono (HK1.out Z6) ?_
        rintro e Z9 ⟨g1, t1, rfl, hga, hta, hlo, hlt, hhi, hbx⟩
        have HL9_ : Hid _ := HL6_.out.go hbx
        have HM9_ : Hid _ := HM6_.out.two HL6_.out.bel.size hbx hlo hlt hga hta
        clear hga hta hlo hlt hhi hbx
        clear HL6_ HM6_
        refine hK.out _ _ HL9_.out (fun hHeld => ?_)
        clear hK K
        refine norm_any' (fun K hK => ?_); go_simp; refine hK _ _ ?_; clear hK K
        refine wpAnyH_take (i := 16) (v := .agg #[.pointer (some ⟨g0, 0, none⟩), .int .i64 0, .pointer (some ⟨t0, 0, none⟩), .pointer (some ⟨g1, 0, none⟩), .int .i64 0, .pointer (some ⟨t1, 0, none⟩)]) rfl (by kernel_rfl) (by kernel_rfl) (by kernel_rfl) (fun _ _ _ h => h) (Or.inl ⟨by rfl, by intro w hs; go_simp⟩) hHeld ?_
        refine norm_any' (fun K hK => ?_); go_simp; refine hK _ _ ?_; clear hK K
        refine wpAnyH_ready (rs := [5]) (by kernel_rfl) (by simp) (AllReadyH.cons rfl (fun K hK => ?_) AllReadyH.nil)
        go_simp
        have HL10_ : Hid _ := HL9_.out.go (bel1 Z9 (.map #[] 0))
        have HM10_ : Hid _ := HM9_.out.one HL9_.out.bel.size (bel1 Z9 (.map #[] 0)) (Nat.le_refl _) (heap_alloc_new Z9 (.map #[] 0))
        obtain ⟨nb, henb⟩ : ∃ nb, Z9.heap.size = nb := ⟨_, rfl⟩
        rw [henb] at HM10_
        generalize Z9.alloc (.map #[] 0) = Z10 at *
        rw [henb]
        clear henb
        clear HL9_ HM9_
        refine hK.out _ _ HL10_.out (fun hHeld => ?_)
        clear hK K
        refine norm_any' (fun K hK => ?_); go_simp; refine hK _ _ ?_; clear hK K
        refine wpAnyH_take (i := 17) (v := .agg (tq0 srv x y sb eb nb g0 t0 g1 t1)) rfl (by kernel_rfl) (by kernel_rfl) (by kernel_rfl) (fun _ _ _ h => h) (Or.inl ⟨by rfl, by intro w hs; kernel_rfl⟩) hHeld ?_
        refine norm_any' (fun K hK => ?_); go_simp; refine hK _ _ ?_; clear hK K
        refine wpAnyH_ready (rs := [18]) (by kernel_rfl) (by simp) (AllReadyH.cons rfl (fun K hK => ?_) AllReadyH.nil)
        go_simp
        have HTQ : Hid _ := HM10_.out.tq (srv := srv) (x := x) (y := y) (sb := sb) (eb := eb) (nb := nb) (g0 := g0) (t0 := t0) (g1 := g1) (t1 := t1) (List.Mem.tail _ (List.Mem.tail _ (List.Mem.tail _ (List.Mem.tail _ (List.Mem.tail _ (List.Mem.tail _ (List.Mem.head _))))))) (List.Mem.tail _ (List.Mem.tail _ (List.Mem.tail _ (List.Mem.tail _ (List.Mem.tail _ (List.Mem.head _)))))) (List.Mem.head _) (List.Mem.tail _ (List.Mem.tail _ (List.Mem.tail _ (List.Mem.tail _ (List.Mem.head _))))) (List.Mem.tail _ (List.Mem.tail _ (List.Mem.tail _ (List.Mem.head _)))) (List.Mem.tail _ (List.Mem.tail _ (List.Mem.head _))) (List.Mem.tail _ (List.Mem.head _)) (by
          have hn := HM10_.out.nd
          simp only [List.map_cons, List.map_nil, List.nodup_cons, List.mem_cons, List.not_mem_nil, not_or, or_false, not_false_eq_true, and_true, List.nodup_nil] at hn ⊢
          obtain ⟨⟨cg_, cf_, ce_, cd_, cb_, ca_⟩, ⟨gf_, ge_, gd_, gb_, ga_⟩, ⟨fe_, fd_, fb_, fa_⟩, ⟨ed_, eb_, ea_⟩, ⟨db_, da_⟩, ba_⟩ := hn
          exact ⟨⟨Ne.symm ba_, Ne.symm ca_, Ne.symm da_, Ne.symm ea_, Ne.symm fa_, Ne.symm ga_⟩, ⟨Ne.symm cb_, Ne.symm db_, Ne.symm eb_, Ne.symm fb_, Ne.symm gb_⟩, ⟨cd_, ce_, cf_, cg_⟩, ⟨Ne.symm ed_, Ne.symm fd_, Ne.symm gd_⟩, ⟨Ne.symm fe_, Ne.symm ge_⟩, Ne.symm gf_⟩) HL10_.out.bel.size
        have HLT : Hid _ := HL10_.out.go (bel1 _ (.cells (tq0 srv x y sb eb nb g0 t0 g1 t1) 89))
        refine hK.out _ _ HLT.out (fun hHeld => ?_)
        clear hK K; refine norm_any' (fun K hK => ?_); go_simp; refine hK _ _ ?_; clear hK K
        refine wpAnyH_take (i := 19) rfl (by kernel_rfl) (by kernel_rfl) (by kernel_rfl) (fun _ _ _ h => h) (Or.inl ⟨by rfl, by intro w hs; go_simp; rfl⟩) hHeld ?_
        refine norm_any' (fun K hK => ?_); go_simp; refine hK _ _ ?_; clear hK K
        refine wpAnyH_done (by kernel_rfl) ?_ _
        go_wp2
        go_meet
        case rel => exact ⟨_, sb, eb, nb, g0, t0, g1, t1, rfl, HTQ.out.1, HLT.out, HTQ.out.2⟩
     ·go_simp
      have HL11_ : Hid _ := HL1_.out.go (bel1 Z1 (.map #[] 0))
      have HM11_ : Hid _ := HM1_.out.one HL1_.out.bel.size (bel1 Z1 (.map #[] 0)) (Nat.le_refl _) (heap_alloc_new Z1 (.map #[] 0))
      obtain ⟨nb, henb⟩ : ∃ nb, Z1.heap.size = nb := ⟨_, rfl⟩
      rw [henb] at HM11_
      generalize Z1.alloc (.map #[] 0) = Z11 at *
      rw [henb]
      clear henb
      clear HL1_ HM1_
      refine hK.out _ _ HL11_.out (fun hHeld => ?_)
      clear hK K
      refine norm_any' (fun K hK => ?_); go_simp; refine hK _ _ ?_; clear hK K
      refine wpAnyH_ready (rs := [4, 10]) (by kernel_rfl) (by simp) (AllReadyH.cons rfl (fun K hK => ?_) (AllReadyH.cons rfl (fun K hK => ?_) AllReadyH.nil))
      ·go_simp
       have HL12_ : Hid _ := HL11_.out.go (bel1 Z11 (.map #[] 0))
       have HM12_ : Hid _ := HM11_.out.one HL11_.out.bel.size (bel1 Z11 (.map #[] 0)) (Nat.le_refl _) (heap_alloc_new Z11 (.map #[] 0))
       obtain ⟨eb, heeb⟩ : ∃ eb, Z11.heap.size = eb := ⟨_, rfl⟩
       rw [heeb] at HM12_
       generalize Z11.alloc (.map #[] 0) = Z12 at *
       rw [heeb]
       clear heeb
       clear HL11_ HM11_
       refine hK.out _ _ HL12_.out (fun hHeld => ?_)
       clear hK K
       refine norm_any' (fun K hK => ?_); go_simp; refine hK _ _ ?_; clear hK K
       refine wpAnyH_ready (rs := [10]) (by kernel_rfl) (by simp) (AllReadyH.cons rfl (fun K hK => ?_) AllReadyH.nil)
       go_simp
       refine Calls.mono (HK0.out Z12) ?_
       rintro e Z13 ⟨g0, t0, rfl, hga, hta, hlo, hlt, hhi, hbx⟩
       have HL13_ : Hid _ := HL12_.out.go hbx
       have HM13_ : Hid _ := HM12_.out.two HL12_.out.bel.size hbx hlo hlt hga hta
       clear hga hta hlo hlt hhi hbx
       clear HL12_ HM12_
       refine hK.out _ _ HL13_.out (fun hHeld => ?_)
       clear hK K
       refine norm_any' (fun K hK => ?_); go_simp; refine hK _ _ ?_; clear hK K
       refine wpAnyH_ready (rs := [15]) (by kernel_rfl) (by simp) (AllReadyH.cons rfl (fun K hK => ?_) AllReadyH.nil)
       go_simp
       refine Calls.mono (HK1.out Z13) ?_
       rintro e Z14 ⟨g1, t1, rfl, hga, hta, hlo, hlt, hhi, hbx⟩
       have HL14_ : Hid _ := HL13_.out.go hbx
       have HM14_ : Hid _ := HM13_.out.two HL13_.out.bel.size hbx hlo hlt hga hta
       clear hga hta hlo hlt hhi hbx
       clear HL13_ HM13_
       refine hK.out _ _ HL14_.out (fun hHeld => ?_)
       clear hK K
       refine norm_any' (fun K hK => ?_); go_simp; refine hK _ _ ?_; clear hK K
       refine wpAnyH_take (i := 16) (v := .agg #[.pointer (some ⟨g0, 0, none⟩), .int .i64 0, .pointer (some ⟨t0, 0, none⟩), .pointer (some ⟨g1, 0, none⟩), .int .i64 0, .pointer (some ⟨t1, 0, none⟩)]) rfl (by kernel_rfl) (by kernel_rfl) (by kernel_rfl) (fun _ _ _ h => h) (Or.inl ⟨by rfl, by intro w hs; go_simp⟩) hHeld ?_
       refine norm_any' (fun K hK => ?_); go_simp; refine hK _ _ ?_; clear hK K
       refine wpAnyH_take (i := 17) (v := .agg (tq0 srv x y sb eb nb g0 t0 g1 t1)) rfl (by kernel_rfl) (by kernel_rfl) (by kernel_rfl) (fun _ _ _ h => h) (Or.inl ⟨by rfl, by intro w hs; kernel_rfl⟩) hHeld ?_
       refine norm_any' (fun K hK => ?_); go_simp; refine hK _ _ ?_; clear hK K
       refine wpAnyH_ready (rs := [18]) (by kernel_rfl) (by simp) (AllReadyH.cons rfl (fun K hK => ?_) AllReadyH.nil)
       go_simp
       have HTQ : Hid _ := HM14_.out.tq (srv := srv) (x := x) (y := y) (sb := sb) (eb := eb) (nb := nb) (g0 := g0) (t0 := t0) (g1 := g1) (t1 := t1) (List.Mem.tail _ (List.Mem.tail _ (List.Mem.tail _ (List.Mem.tail _ (List.Mem.tail _ (List.Mem.tail _ (List.Mem.head _))))))) (List.Mem.tail _ (List.Mem.tail _ (List.Mem.tail _ (List.Mem.tail _ (List.Mem.head _))))) (List.Mem.tail _ (List.Mem.tail _ (List.Mem.tail _ (List.Mem.tail _ (List.Mem.tail _ (List.Mem.head _)))))) (List.Mem.tail _ (List.Mem.tail _ (List.Mem.tail _ (List.Mem.head _)))) (List.Mem.tail _ (List.Mem.tail _ (List.Mem.head _))) (List.Mem.tail _ (List.Mem.head _)) (List.Mem.head _) (by
         have hn := HM14_.out.nd
         simp only [List.map_cons, List.map_nil, List.nodup_cons, List.mem_cons, List.not_mem_nil, not_or, or_false, not_false_eq_true, and_true, List.nodup_nil] at hn ⊢
         obtain ⟨⟨gf_, ge_, gd_, gb_, gc_, ga_⟩, ⟨fe_, fd_, fb_, fc_, fa_⟩, ⟨ed_, eb_, ec_, ea_⟩, ⟨db_, dc_, da_⟩, ⟨bc_, ba_⟩, ca_⟩ := hn
         exact ⟨⟨Ne.symm ba_, Ne.symm ca_, Ne.symm da_, Ne.symm ea_, Ne.symm fa_, Ne.symm ga_⟩, ⟨bc_, Ne.symm db_, Ne.symm eb_, Ne.symm fb_, Ne.symm gb_⟩, ⟨Ne.symm dc_, Ne.symm ec_, Ne.symm fc_, Ne.symm gc_⟩, ⟨Ne.symm ed_, Ne.symm fd_, Ne.symm gd_⟩, ⟨Ne.symm fe_, Ne.symm ge_⟩, Ne.symm gf_⟩) HL14_.out.bel.size
       have HLT : Hid _ := HL14_.out.go (bel1 _ (.cells (tq0 srv x y sb eb nb g0 t0 g1 t1) 89))
       refine hK.out _ _ HLT.out (fun hHeld => ?_)
       clear hK K; refine norm_any' (fun K hK => ?_); go_simp; refine hK _ _ ?_; clear hK K
       refine wpAnyH_take (i := 19) rfl (by kernel_rfl) (by kernel_rfl) (by kernel_rfl) (fun _ _ _ h => h) (Or.inl ⟨by rfl, by intro w hs; go_simp; rfl⟩) hHeld ?_
       refine norm_any' (fun K hK => ?_); go_simp; refine hK _ _ ?_; clear hK K
       refine wpAnyH_done (by kernel_rfl) ?_ _
       go_wp2
       go_meet
       case rel => exact ⟨_, sb, eb, nb, g0, t0, g1, t1, rfl, HTQ.out.1, HLT.out, HTQ.out.2⟩
      ·go_simp
       refine Calls.mono (HK0.out Z11) ?_
       rintro e Z15 ⟨g0, t0, rfl, hga, hta, hlo, hlt, hhi, hbx⟩
       have HL15_ : Hid _ := HL11_.out.go hbx
       have HM15_ : Hid _ := HM11_.out.two HL11_.out.bel.size hbx hlo hlt hga hta
       clear hga hta hlo hlt hhi hbx
       clear HL11_ HM11_
       refine hK.out _ _ HL15_.out (fun hHeld => ?_)
       clear hK K
       refine norm_any' (fun K hK => ?_); go_simp; refine hK _ _ ?_; clear hK K
       refine wpAnyH_ready (rs := [4, 15]) (by kernel_rfl) (by simp) (AllReadyH.cons rfl (fun K hK => ?_) (AllReadyH.cons rfl (fun K hK => ?_) AllReadyH.nil))
       ·go_simp
        have HL16_ : Hid _ := HL15_.out.go (bel1 Z15 (.map #[] 0))
        have HM16_ : Hid _ := HM15_.out.one HL15_.out.bel.size (bel1 Z15 (.map #[] 0)) (Nat.le_refl _) (heap_alloc_new Z15 (.map #[] 0))
        obtain ⟨eb, heeb⟩ : ∃ eb, Z15.heap.size = eb := ⟨_, rfl⟩
        rw [heeb] at HM16_
        generalize Z15.alloc (.map #[] 0) = Z16 at *
        rw [heeb]
        clear heeb
        clear HL15_ HM15_
        refine hK.out _ _ HL16_.out (fun hHeld => ?_)
        clear hK K
        refine norm_any' (fun K hK => ?_); go_simp; refine hK _ _ ?_; clear hK K
        refine wpAnyH_ready (rs := [15]) (by kernel_rfl) (by simp) (AllReadyH.cons rfl (fun K hK => ?_) AllReadyH.nil)
        go_simp
        refine Calls.mono (HK1.out Z16) ?_
        rintro e Z17 ⟨g1, t1, rfl, hga, hta, hlo, hlt, hhi, hbx⟩
        have HL17_ : Hid _ := HL16_.out.go hbx
        have HM17_ : Hid _ := HM16_.out.two HL16_.out.bel.size hbx hlo hlt hga hta
        clear hga hta hlo hlt hhi hbx
        clear HL16_ HM16_
        refine hK.out _ _ HL17_.out (fun hHeld => ?_)
        clear hK K
        refine norm_any' (fun K hK => ?_); go_simp; refine hK _ _ ?_; clear hK K
        refine wpAnyH_take (i := 16) (v := .agg #[.pointer (some ⟨g0, 0, none⟩), .int .i64 0, .pointer (some ⟨t0, 0, none⟩), .pointer (some ⟨g1, 0, none⟩), .int .i64 0, .pointer (some ⟨t1, 0, none⟩)]) rfl (by kernel_rfl) (by kernel_rfl) (by kernel_rfl) (fun _ _ _ h => h) (Or.inl ⟨by rfl, by intro w hs; go_simp⟩) hHeld ?_
        refine norm_any' (fun K hK => ?_); go_simp; refine hK _ _ ?_; clear hK K
        refine wpAnyH_take (i := 17) (v := .agg (tq0 srv x y sb eb nb g0 t0 g1 t1)) rfl (by kernel_rfl) (by kernel_rfl) (by kernel_rfl) (fun _ _ _ h => h) (Or.inl ⟨by rfl, by intro w hs; kernel_rfl⟩) hHeld ?_
        refine norm_any' (fun K hK => ?_); go_simp; refine hK _ _ ?_; clear hK K
        refine wpAnyH_ready (rs := [18]) (by kernel_rfl) (by simp) (AllReadyH.cons rfl (fun K hK => ?_) AllReadyH.nil)
        go_simp
        have HTQ : Hid _ := HM17_.out.tq (srv := srv) (x := x) (y := y) (sb := sb) (eb := eb) (nb := nb) (g0 := g0) (t0 := t0) (g1 := g1) (t1 := t1) (List.Mem.tail _ (List.Mem.tail _ (List.Mem.tail _ (List.Mem.tail _ (List.Mem.tail _ (List.Mem.tail _ (List.Mem.head _))))))) (List.Mem.tail _ (List.Mem.tail _ (List.Mem.head _))) (List.Mem.tail _ (List.Mem.tail _ (List.Mem.tail _ (List.Mem.tail _ (List.Mem.tail _ (List.Mem.head _)))))) (List.Mem.tail _ (List.Mem.tail _ (List.Mem.tail _ (List.Mem.tail _ (List.Mem.head _))))) (List.Mem.tail _ (List.Mem.tail _ (List.Mem.tail _ (List.Mem.head _)))) (List.Mem.tail _ (List.Mem.head _)) (List.Mem.head _) (by
          have hn := HM17_.out.nd
          simp only [List.map_cons, List.map_nil, List.nodup_cons, List.mem_cons, List.not_mem_nil, not_or, or_false, not_false_eq_true, and_true, List.nodup_nil] at hn ⊢
          obtain ⟨⟨gf_, gb_, ge_, gd_, gc_, ga_⟩, ⟨fb_, fe_, fd_, fc_, fa_⟩, ⟨be_, bd_, bc_, ba_⟩, ⟨ed_, ec_, ea_⟩, ⟨dc_, da_⟩, ca_⟩ := hn
          exact ⟨⟨Ne.symm ba_, Ne.symm ca_, Ne.symm da_, Ne.symm ea_, Ne.symm fa_, Ne.symm ga_⟩, ⟨bc_, bd_, be_, Ne.symm fb_, Ne.symm gb_⟩, ⟨Ne.symm dc_, Ne.symm ec_, Ne.symm fc_, Ne.symm gc_⟩, ⟨Ne.symm ed_, Ne.symm fd_, Ne.symm gd_⟩, ⟨Ne.symm fe_, Ne.symm ge_⟩, Ne.symm gf_⟩) HL17_.out.bel.size
        have HLT : Hid _ := HL17_.out.go (bel1 _ (.cells (tq0 srv x y sb eb nb g0 t0 g1 t1) 89))
        refine hK.out _ _ HLT.out (fun hHeld => ?_)
        clear hK K; refine norm_any' (fun K hK => ?_); go_simp; refine hK _ _ ?_; clear hK K
        refine wpAnyH_take (i := 19) rfl (by kernel_rfl) (by kernel_rfl) (by kernel_rfl) (fun _ _ _ h => h) (Or.inl ⟨by rfl, by intro w hs; go_simp; rfl⟩) hHeld ?_
        refine norm_any' (fun K hK => ?_); go_simp; refine hK _ _ ?_; clear hK K
        refine wpAnyH_done (by kernel_rfl) ?_ _
        go_wp2
        go_meet
        case rel => exact ⟨_, sb, eb, nb, g0, t0, g1, t1, rfl, HTQ.out.1, HLT.out, HTQ.out.2⟩
       ·go_simp
        refine Calls.mono (HK1.out Z15) ?_
        rintro e Z18 ⟨g1, t1, rfl, hga, hta, hlo, hlt, hhi, hbx⟩
        have HL18_ : Hid _ := HL15_.out.go hbx
        have HM18_ : Hid _ := HM15_.out.two HL15_.out.bel.size hbx hlo hlt hga hta
        clear hga hta hlo hlt hhi hbx
        clear HL15_ HM15_
        refine hK.out _ _ HL18_.out (fun hHeld => ?_)
        clear hK K
        refine norm_any' (fun K hK => ?_); go_simp; refine hK _ _ ?_; clear hK K
        refine wpAnyH_take (i := 16) (v := .agg #[.pointer (some ⟨g0, 0, none⟩), .int .i64 0, .pointer (some ⟨t0, 0, none⟩), .pointer (some ⟨g1, 0, none⟩), .int .i64 0, .pointer (some ⟨t1, 0, none⟩)]) rfl (by kernel_rfl) (by kernel_rfl) (by kernel_rfl) (fun _ _ _ h => h) (Or.inl ⟨by rfl, by intro w hs; go_simp⟩) hHeld ?_
        refine norm_any' (fun K hK => ?_); go_simp; refine hK _ _ ?_; clear hK K
        refine wpAnyH_ready (rs := [4]) (by kernel_rfl) (by simp) (AllReadyH.cons rfl (fun K hK => ?_) AllReadyH.nil)
        go_simp
        have HL19_ : Hid _ := HL18_.out.go (bel1 Z18 (.map #[] 0))
        have HM19_ : Hid _ := HM18_.out.one HL18_.out.bel.size (bel1 Z18 (.map #[] 0)) (Nat.le_refl _) (heap_alloc_new Z18 (.map #[] 0))
        obtain ⟨eb, heeb⟩ : ∃ eb, Z18.heap.size = eb := ⟨_, rfl⟩
        rw [heeb] at HM19_
        generalize Z18.alloc (.map #[] 0) = Z19 at *
        rw [heeb]
        clear heeb
        clear HL18_ HM18_
        refine hK.out _ _ HL19_.out (fun hHeld => ?_)
        clear hK K
        refine norm_any' (fun K hK => ?_); go_simp; refine hK _ _ ?_; clear hK K
        refine wpAnyH_take (i := 17) (v := .agg (tq0 srv x y sb eb nb g0 t0 g1 t1)) rfl (by kernel_rfl) (by kernel_rfl) (by kernel_rfl) (fun _ _ _ h => h) (Or.inl ⟨by rfl, by intro w hs; kernel_rfl⟩) hHeld ?_
        refine norm_any' (fun K hK => ?_); go_simp; refine hK _ _ ?_; clear hK K
        refine wpAnyH_ready (rs := [18]) (by kernel_rfl) (by simp) (AllReadyH.cons rfl (fun K hK => ?_) AllReadyH.nil)
        go_simp
        have HTQ : Hid _ := HM19_.out.tq (srv := srv) (x := x) (y := y) (sb := sb) (eb := eb) (nb := nb) (g0 := g0) (t0 := t0) (g1 := g1) (t1 := t1) (List.Mem.tail _ (List.Mem.tail _ (List.Mem.tail _ (List.Mem.tail _ (List.Mem.tail _ (List.Mem.tail _ (List.Mem.head _))))))) (List.Mem.head _) (List.Mem.tail _ (List.Mem.tail _ (List.Mem.tail _ (List.Mem.tail _ (List.Mem.tail _ (List.Mem.head _)))))) (List.Mem.tail _ (List.Mem.tail _ (List.Mem.tail _ (List.Mem.tail _ (List.Mem.head _))))) (List.Mem.tail _ (List.Mem.tail _ (List.Mem.tail _ (List.Mem.head _)))) (List.Mem.tail _ (List.Mem.tail _ (List.Mem.head _))) (List.Mem.tail _ (List.Mem.head _)) (by
          have hn := HM19_.out.nd
          simp only [List.map_cons, List.map_nil, List.nodup_cons, List.mem_cons, List.not_mem_nil, not_or, or_false, not_false_eq_true, and_true, List.nodup_nil] at hn ⊢
          obtain ⟨⟨bg_, bf_, be_, bd_, bc_, ba_⟩, ⟨gf_, ge_, gd_, gc_, ga_⟩, ⟨fe_, fd_, fc_, fa_⟩, ⟨ed_, ec_, ea_⟩, ⟨dc_, da_⟩, ca_⟩ := hn
          exact ⟨⟨Ne.symm ba_, Ne.symm ca_, Ne.symm da_, Ne.symm ea_, Ne.symm fa_, Ne.symm ga_⟩, ⟨bc_, bd_, be_, bf_, bg_⟩, ⟨Ne.symm dc_, Ne.symm ec_, Ne.symm fc_, Ne.symm gc_⟩, ⟨Ne.symm ed_, Ne.symm fd_, Ne.symm gd_⟩, ⟨Ne.symm fe_, Ne.symm ge_⟩, Ne.symm gf_⟩) HL19_.out.bel.size
        have HLT : Hid _ := HL19_.out.go (bel1 _ (.cells (tq0 srv x y sb eb nb g0 t0 g1 t1) 89))
        refine hK.out _ _ HLT.out (fun hHeld => ?_)
        clear hK K; refine norm_any' (fun K hK => ?_); go_simp; refine hK _ _ ?_; clear hK K
        refine wpAnyH_take (i := 19) rfl (by kernel_rfl) (by kernel_rfl) (by kernel_rfl) (fun _ _ _ h => h) (Or.inl ⟨by rfl, by intro w hs; go_simp; rfl⟩) hHeld ?_
        refine norm_any' (fun K hK => ?_); go_simp; refine hK _ _ ?_; clear hK K
        refine wpAnyH_done (by kernel_rfl) ?_ _
        go_wp2
        go_meet
        case rel => exact ⟨_, sb, eb, nb, g0, t0, g1, t1, rfl, HTQ.out.1, HLT.out, HTQ.out.2⟩
     ·go_simp
      refine Calls.mono (HK0.out Z1) ?_
      rintro e Z20 ⟨g0, t0, rfl, hga, hta, hlo, hlt, hhi, hbx⟩
      have HL20_ : Hid _ := HL1_.out.go hbx
      have HM20_ : Hid _ := HM1_.out.two HL1_.out.bel.size hbx hlo hlt hga hta
      clear hga hta hlo hlt hhi hbx
      clear HL1_ HM1_
      refine hK.out _ _ HL20_.out (fun hHeld => ?_)
      clear hK K
      refine norm_any' (fun K hK => ?_); go_simp; refine hK _ _ ?_; clear hK K
      refine wpAnyH_ready (rs := [4, 5, 15]) (by kernel_rfl) (by simp) (AllReadyH.cons rfl (fun K hK => ?_) (AllReadyH.cons rfl (fun K hK => ?_) (AllReadyH.cons rfl (fun K hK => ?_) AllReadyH.nil)))
      ·go_simp
       have HL21_ : Hid _ := HL20_.out.go (bel1 Z20 (.map #[] 0))
       have HM21_ : Hid _ := HM20_.out.one HL20_.out.bel.size (bel1 Z20 (.map #[] 0)) (Nat.le_refl _) (heap_alloc_new Z20 (.map #[] 0))
       obtain ⟨eb, heeb⟩ : ∃ eb, Z20.heap.size = eb := ⟨_, rfl⟩
       rw [heeb] at HM21_
       generalize Z20.alloc (.map #[] 0) = Z21 at *
       rw [heeb]
       clear heeb
       clear HL20_ HM20_
       refine hK.out _ _ HL21_.out (fun hHeld => ?_)
       clear hK K
       refine norm_any' (fun K hK => ?_); go_simp; refine hK _ _ ?_; clear hK K
       refine wpAnyH_ready (rs := [5, 15]) (by kernel_rfl) (by simp) (AllReadyH.cons rfl (fun K hK => ?_) (AllReadyH.cons rfl (fun K hK => ?_) AllReadyH.nil))
       ·go_simp
        have HL22_ : Hid _ := HL21_.out.go (bel1 Z21 (.map #[] 0))
        have HM22_ : Hid _ := HM21_.out.one HL21_.out.bel.size (bel1 Z21 (.map #[] 0)) (Nat.le_refl _) (heap_alloc_new Z21 (.map #[] 0))
        obtain ⟨nb, henb⟩ : ∃ nb, Z21.heap.size = nb := ⟨_, rfl⟩
        rw [henb] at HM22_
        generalize Z21.alloc (.map #[] 0) = Z22 at *
        rw [henb]
        clear henb
        clear HL21_ HM21_
        refine hK.out _ _ HL22_.out (fun hHeld => ?_)
        clear hK K
        refine norm_any' (fun K hK => ?_); go_simp; refine hK _ _ ?_; clear hK K
        refine wpAnyH_ready (rs := [15]) (by kernel_rfl) (by simp) (AllReadyH.cons rfl (fun K hK => ?_) AllReadyH.nil)
        go_simp
        refine Calls.mono (HK1.out Z22) ?_
        rintro e Z23 ⟨g1, t1, rfl, hga, hta, hlo, hlt, hhi, hbx⟩
        have HL23_ : Hid _ := HL22_.out.go hbx
        have HM23_ : Hid _ := HM22_.out.two HL22_.out.bel.size hbx hlo hlt hga hta
        clear hga hta hlo hlt hhi hbx
        clear HL22_ HM22_
        refine hK.out _ _ HL23_.out (fun hHeld => ?_)
        clear hK K
        refine norm_any' (fun K hK => ?_); go_simp; refine hK _ _ ?_; clear hK K
        refine wpAnyH_take (i := 16) (v := .agg #[.pointer (some ⟨g0, 0, none⟩), .int .i64 0, .pointer (some ⟨t0, 0, none⟩), .pointer (some ⟨g1, 0, none⟩), .int .i64 0, .pointer (some ⟨t1, 0, none⟩)]) rfl (by kernel_rfl) (by kernel_rfl) (by kernel_rfl) (fun _ _ _ h => h) (Or.inl ⟨by rfl, by intro w hs; go_simp⟩) hHeld ?_
        refine norm_any' (fun K hK => ?_); go_simp; refine hK _ _ ?_; clear hK K
        refine wpAnyH_take (i := 17) (v := .agg (tq0 srv x y sb eb nb g0 t0 g1 t1)) rfl (by kernel_rfl) (by kernel_rfl) (by kernel_rfl) (fun _ _ _ h => h) (Or.inl ⟨by rfl, by intro w hs; kernel_rfl⟩) hHeld ?_
        refine norm_any' (fun K hK => ?_); go_simp; refine hK _ _ ?_; clear hK K
        refine wpAnyH_ready (rs := [18]) (by kernel_rfl) (by simp) (AllReadyH.cons rfl (fun K hK => ?_) AllReadyH.nil)
        go_simp
        have HTQ : Hid _ := HM23_.out.tq (srv := srv) (x := x) (y := y) (sb := sb) (eb := eb) (nb := nb) (g0 := g0) (t0 := t0) (g1 := g1) (t1 := t1) (List.Mem.tail _ (List.Mem.tail _ (List.Mem.tail _ (List.Mem.tail _ (List.Mem.tail _ (List.Mem.tail _ (List.Mem.head _))))))) (List.Mem.tail _ (List.Mem.tail _ (List.Mem.tail _ (List.Mem.head _)))) (List.Mem.tail _ (List.Mem.tail _ (List.Mem.head _))) (List.Mem.tail _ (List.Mem.tail _ (List.Mem.tail _ (List.Mem.tail _ (List.Mem.tail _ (List.Mem.head _)))))) (List.Mem.tail _ (List.Mem.tail _ (List.Mem.tail _ (List.Mem.tail _ (List.Mem.head _))))) (List.Mem.tail _ (List.Mem.head _)) (List.Mem.head _) (by
          have hn := HM23_.out.nd
          simp only [List.map_cons, List.map_nil, List.nodup_cons, List.mem_cons, List.not_mem_nil, not_or, or_false, not_false_eq_true, and_true, List.nodup_nil] at hn ⊢
          obtain ⟨⟨gf_, gc_, gb_, ge_, gd_, ga_⟩, ⟨fc_, fb_, fe_, fd_, fa_⟩, ⟨cb_, ce_, cd_, ca_⟩, ⟨be_, bd_, ba_⟩, ⟨ed_, ea_⟩, da_⟩ := hn
          exact ⟨⟨Ne.symm ba_, Ne.symm ca_, Ne.symm da_, Ne.symm ea_, Ne.symm fa_, Ne.symm ga_⟩, ⟨Ne.symm cb_, bd_, be_, Ne.symm fb_, Ne.symm gb_⟩, ⟨cd_, ce_, Ne.symm fc_, Ne.symm gc_⟩, ⟨Ne.symm ed_, Ne.symm fd_, Ne.symm gd_⟩, ⟨Ne.symm fe_, Ne.symm ge_⟩, Ne.symm gf_⟩) HL23_.out.bel.size
        have HLT : Hid _ := HL23_.out.go (bel1 _ (.cells (tq0 srv x y sb eb nb g0 t0 g1 t1) 89))
        refine hK.out _ _ HLT.out (fun hHeld => ?_)
        clear hK K; refine norm_any' (fun K hK => ?_); go_simp; refine hK _ _ ?_; clear hK K
        refine wpAnyH_take (i := 19) rfl (by kernel_rfl) (by kernel_rfl) (by kernel_rfl) (fun _ _ _ h => h) (Or.inl ⟨by rfl, by intro w hs; go_simp; rfl⟩) hHeld ?_
        refine norm_any' (fun K hK => ?_); go_simp; refine hK _ _ ?_; clear hK K
        refine wpAnyH_done (by kernel_rfl) ?_ _
        go_wp2
        go_meet
        case rel => exact ⟨_, sb, eb, nb, g0, t0, g1, t1, rfl, HTQ.out.1, HLT.out, HTQ.out.2⟩
       ·go_simp
        refine Calls.mono (HK1.out Z21) ?_
        rintro e Z24 ⟨g1, t1, rfl, hga, hta, hlo, hlt, hhi, hbx⟩
        have HL24_ : Hid _ := HL21_.out.go hbx
        have HM24_ : Hid _ := HM21_.out.two HL21_.out.bel.size hbx hlo hlt hga hta
        clear hga hta hlo hlt hhi hbx
        clear HL21_ HM21_
        refine hK.out _ _ HL24_.out (fun hHeld => ?_)
        clear hK K
        refine norm_any' (fun K hK => ?_); go_simp; refine hK _ _ ?_; clear hK K
        refine wpAnyH_take (i := 16) (v := .agg #[.pointer (some ⟨g0, 0, none⟩), .int .i64 0, .pointer (some ⟨t0, 0, none⟩), .pointer (some ⟨g1, 0, none⟩), .int .i64 0, .pointer (some ⟨t1, 0, none⟩)]) rfl (by kernel_rfl) (by kernel_rfl) (by kernel_rfl) (fun _ _ _ h => h) (Or.inl ⟨by rfl, by intro w hs; go_simp⟩) hHeld ?_
        refine norm_any' (fun K hK => ?_); go_simp; refine hK _ _ ?_; clear hK K
        refine wpAnyH_ready (rs := [5]) (by kernel_rfl) (by simp) (AllReadyH.cons rfl (fun K hK => ?_) AllReadyH.nil)
        go_simp
        have HL25_ : Hid _ := HL24_.out.go (bel1 Z24 (.map #[] 0))
        have HM25_ : Hid _ := HM24_.out.one HL24_.out.bel.size (bel1 Z24 (.map #[] 0)) (Nat.le_refl _) (heap_alloc_new Z24 (.map #[] 0))
        obtain ⟨nb, henb⟩ : ∃ nb, Z24.heap.size = nb := ⟨_, rfl⟩
        rw [henb] at HM25_
        generalize Z24.alloc (.map #[] 0) = Z25 at *
        rw [henb]
        clear henb
        clear HL24_ HM24_
        refine hK.out _ _ HL25_.out (fun hHeld => ?_)
        clear hK K
        refine norm_any' (fun K hK => ?_); go_simp; refine hK _ _ ?_; clear hK K
        refine wpAnyH_take (i := 17) (v := .agg (tq0 srv x y sb eb nb g0 t0 g1 t1)) rfl (by kernel_rfl) (by kernel_rfl) (by kernel_rfl) (fun _ _ _ h => h) (Or.inl ⟨by rfl, by intro w hs; kernel_rfl⟩) hHeld ?_
        refine norm_any' (fun K hK => ?_); go_simp; refine hK _ _ ?_; clear hK K
        refine wpAnyH_ready (rs := [18]) (by kernel_rfl) (by simp) (AllReadyH.cons rfl (fun K hK => ?_) AllReadyH.nil)
        go_simp
        have HTQ : Hid _ := HM25_.out.tq (srv := srv) (x := x) (y := y) (sb := sb) (eb := eb) (nb := nb) (g0 := g0) (t0 := t0) (g1 := g1) (t1 := t1) (List.Mem.tail _ (List.Mem.tail _ (List.Mem.tail _ (List.Mem.tail _ (List.Mem.tail _ (List.Mem.tail _ (List.Mem.head _))))))) (List.Mem.tail _ (List.Mem.tail _ (List.Mem.tail _ (List.Mem.head _)))) (List.Mem.head _) (List.Mem.tail _ (List.Mem.tail _ (List.Mem.tail _ (List.Mem.tail _ (List.Mem.tail _ (List.Mem.head _)))))) (List.Mem.tail _ (List.Mem.tail _ (List.Mem.tail _ (List.Mem.tail _ (List.Mem.head _))))) (List.Mem.tail _ (List.Mem.tail _ (List.Mem.head _))) (List.Mem.tail _ (List.Mem.head _)) (by
          have hn := HM25_.out.nd
          simp only [List.map_cons, List.map_nil, List.nodup_cons, List.mem_cons, List.not_mem_nil, not_or, or_false, not_false_eq_true, and_true, List.nodup_nil] at hn ⊢
          obtain ⟨⟨cg_, cf_, cb_, ce_, cd_, ca_⟩, ⟨gf_, gb_, ge_, gd_, ga_⟩, ⟨fb_, fe_, fd_, fa_⟩, ⟨be_, bd_, ba_⟩, ⟨ed_, ea_⟩, da_⟩ := hn
          exact ⟨⟨Ne.symm ba_, Ne.symm ca_, Ne.symm da_, Ne.symm ea_, Ne.symm fa_, Ne.symm ga_⟩, ⟨Ne.symm cb_, bd_, be_, Ne.symm fb_, Ne.symm gb_⟩, ⟨cd_, ce_, cf_, cg_⟩, ⟨Ne.symm ed_, Ne.symm fd_, Ne.symm gd_⟩, ⟨Ne.symm fe_, Ne.symm ge_⟩, Ne.symm gf_⟩) HL25_.out.bel.size
        have HLT : Hid _ := HL25_.out.go (bel1 _ (.cells (tq0 srv x y sb eb nb g0 t0 g1 t1) 89))
        refine hK.out _ _ HLT.out (fun hHeld => ?_)
        clear hK K; refine norm_any' (fun K hK => ?_); go_simp; refine hK _ _ ?_; clear hK K
        refine wpAnyH_take (i := 19) rfl (by kernel_rfl) (by kernel_rfl) (by kernel_rfl) (fun _ _ _ h => h) (Or.inl ⟨by rfl, by intro w hs; go_simp; rfl⟩) hHeld ?_
        refine norm_any' (fun K hK => ?_); go_simp; refine hK _ _ ?_; clear hK K
        refine wpAnyH_done (by kernel_rfl) ?_ _
        go_wp2
        go_meet
        case rel => exact ⟨_, sb, eb, nb, g0, t0, g1, t1, rfl, HTQ.out.1, HLT.out, HTQ.out.2⟩
      ·go_simp
       have HL26_ : Hid _ := HL20_.out.go (bel1 Z20 (.map #[] 0))
       have HM26_ : Hid _ := HM20_.out.one HL20_.out.bel.size (bel1 Z20 (.map #[] 0)) (Nat.le_refl _) (heap_alloc_new Z20 (.map #[] 0))
       obtain ⟨nb, henb⟩ : ∃ nb, Z20.heap.size = nb := ⟨_, rfl⟩
       rw [henb] at HM26_
       generalize Z20.alloc (.map #[] 0) = Z26 at *
       rw [henb]
       clear henb
       clear HL20_ HM20_
       refine hK.out _ _ HL26_.out (fun hHeld => ?_)
       clear hK K
       refine norm_any' (fun K hK => ?_); go_simp; refine hK _ _ ?_; clear hK K
       refine wpAnyH_ready (rs := [4, 15]) (by kernel_rfl) (by simp) (AllReadyH.cons rfl (fun K hK => ?_) (AllReadyH.cons rfl (fun K hK => ?_) AllReadyH.nil))
       ·go_simp
        have HL27_ : Hid _ := HL26_.out.go (bel1 Z26 (.map #[] 0))
        have HM27_ : Hid _ := HM26_.out.one HL26_.out.bel.size (bel1 Z26 (.map #[] 0)) (Nat.le_refl _) (heap_alloc_new Z26 (.map #[] 0))
        obtain ⟨eb, heeb⟩ : ∃ eb, Z26.heap.size = eb := ⟨_, rfl⟩
        rw [heeb] at HM27_
        generalize Z26.alloc (.map #[] 0) = Z27 at *
        rw [heeb]
        clear heeb
        clear HL26_ HM26_
        refine hK.out _ _ HL27_.out (fun hHeld => ?_)
        clear hK K
        refine norm_any' (fun K hK => ?_); go_simp; refine hK _ _ ?_; clear hK K
        refine wpAnyH_ready (rs := [15]) (by kernel_rfl) (by simp) (AllReadyH.cons rfl (fun K hK => ?_) AllReadyH.nil)
        go_simp
        refine Calls.mono (HK1.out Z27) ?_
        rintro e Z28 ⟨g1, t1, rfl, hga, hta, hlo, hlt, hhi, hbx⟩
        have HL28_ : Hid _ := HL27_.out.go hbx
        have HM28_ : Hid _ := HM27_.out.two HL27_.out.bel.size hbx hlo hlt hga hta
        clear hga hta hlo hlt hhi hbx
        clear HL27_ HM27_
        refine hK.out _ _ HL28_.out (fun hHeld => ?_)
        clear hK K
        refine norm_any' (fun K hK => ?_); go_simp; refine hK _ _ ?_; clear hK K
        refine wpAnyH_take (i := 16) (v := .agg #[.pointer (some ⟨g0, 0, none⟩), .int .i64 0, .pointer (some ⟨t0, 0, none⟩), .pointer (some ⟨g1, 0, none⟩), .int .i64 0, .pointer (some ⟨t1, 0, none⟩)]) rfl (by kernel_rfl) (by kernel_rfl) (by kernel_rfl) (fun _ _ _ h => h) (Or.inl ⟨by rfl, by intro w hs; go_simp⟩) hHeld ?_
        refine norm_any' (fun K hK => ?_); go_simp; refine hK _ _ ?_; clear hK K
        refine wpAnyH_take (i := 17) (v := .agg (tq0 srv x y sb eb nb g0 t0 g1 t1)) rfl (by kernel_rfl) (by kernel_rfl) (by kernel_rfl) (fun _ _ _ h => h) (Or.inl ⟨by rfl, by intro w hs; kernel_rfl⟩) hHeld ?_
        refine norm_any' (fun K hK => ?_); go_simp; refine hK _ _ ?_; clear hK K
        refine wpAnyH_ready (rs := [18]) (by kernel_rfl) (by simp) (AllReadyH.cons rfl (fun K hK => ?_) AllReadyH.nil)
        go_simp
        have HTQ : Hid _ := HM28_.out.tq (srv := srv) (x := x) (y := y) (sb := sb) (eb := eb) (nb := nb) (g0 := g0) (t0 := t0) (g1 := g1) (t1 := t1) (List.Mem.tail _ (List.Mem.tail _ (List.Mem.tail _ (List.Mem.tail _ (List.Mem.tail _ (List.Mem.tail _ (List.Mem.head _))))))) (List.Mem.tail _ (List.Mem.tail _ (List.Mem.head _))) (List.Mem.tail _ (List.Mem.tail _ (List.Mem.tail _ (List.Mem.head _)))) (List.Mem.tail _ (List.Mem.tail _ (List.Mem.tail _ (List.Mem.tail _ (List.Mem.tail _ (List.Mem.head _)))))) (List.Mem.tail _ (List.Mem.tail _ (List.Mem.tail _ (List.Mem.tail _ (List.Mem.head _))))) (List.Mem.tail _ (List.Mem.head _)) (List.Mem.head _) (by
          have hn := HM28_.out.nd
          simp only [List.map_cons, List.map_nil, List.nodup_cons, List.mem_cons, List.not_mem_nil, not_or, or_false, not_false_eq_true, and_true, List.nodup_nil] at hn ⊢
          obtain ⟨⟨gf_, gb_, gc_, ge_, gd_, ga_⟩, ⟨fb_, fc_, fe_, fd_, fa_⟩, ⟨bc_, be_, bd_, ba_⟩, ⟨ce_, cd_, ca_⟩, ⟨ed_, ea_⟩, da_⟩ := hn
          exact ⟨⟨Ne.symm ba_, Ne.symm ca_, Ne.symm da_, Ne.symm ea_, Ne.symm fa_, Ne.symm ga_⟩, ⟨bc_, bd_, be_, Ne.symm fb_, Ne.symm gb_⟩, ⟨cd_, ce_, Ne.symm fc_, Ne.symm gc_⟩, ⟨Ne.symm ed_, Ne.symm fd_, Ne.symm gd_⟩, ⟨Ne.symm fe_, Ne.symm ge_⟩, Ne.symm gf_⟩) HL28_.out.bel.size
        have HLT : Hid _ := HL28_.out.go (bel1 _ (.cells (tq0 srv x y sb eb nb g0 t0 g1 t1) 89))
        refine hK.out _ _ HLT.out (fun hHeld => ?_)
        clear hK K; refine norm_any' (fun K hK => ?_); go_simp; refine hK _ _ ?_; clear hK K
        refine wpAnyH_take (i := 19) rfl (by kernel_rfl) (by kernel_rfl) (by kernel_rfl) (fun _ _ _ h => h) (Or.inl ⟨by rfl, by intro w hs; go_simp; rfl⟩) hHeld ?_
        refine norm_any' (fun K hK => ?_); go_simp; refine hK _ _ ?_; clear hK K
        refine wpAnyH_done (by kernel_rfl) ?_ _
        go_wp2
        go_meet
        case rel => exact ⟨_, sb, eb, nb, g0, t0, g1, t1, rfl, HTQ.out.1, HLT.out, HTQ.out.2⟩
       ·go_simp
        refine Calls.mono (HK1.out Z26) ?_
        rintro e Z29 ⟨g1, t1, rfl, hga, hta, hlo, hlt, hhi, hbx⟩
        have HL29_ : Hid _ := HL26_.out.go hbx
        have HM29_ : Hid _ := HM26_.out.two HL26_.out.bel.size hbx hlo hlt hga hta
        clear hga hta hlo hlt hhi hbx
        clear HL26_ HM26_
        refine hK.out _ _ HL29_.out (fun hHeld => ?_)
        clear hK K
        refine norm_any' (fun K hK => ?_); go_simp; refine hK _ _ ?_; clear hK K
        refine wpAnyH_take (i := 16) (v := .agg #[.pointer (some ⟨g0, 0, none⟩), .int .i64 0, .pointer (some ⟨t0, 0, none⟩), .pointer (some ⟨g1, 0, none⟩), .int .i64 0, .pointer (some ⟨t1, 0, none⟩)]) rfl (by kernel_rfl) (by kernel_rfl) (by kernel_rfl) (fun _ _ _ h => h) (Or.inl ⟨by rfl, by intro w hs; go_simp⟩) hHeld ?_
        refine norm_any' (fun K hK => ?_); go_simp; refine hK _ _ ?_; clear hK K
        refine wpAnyH_ready (rs := [4]) (by kernel_rfl) (by simp) (AllReadyH.cons rfl (fun K hK => ?_) AllReadyH.nil)
        go_simp
        have HL30_ : Hid _ := HL29_.out.go (bel1 Z29 (.map #[] 0))
        have HM30_ : Hid _ := HM29_.out.one HL29_.out.bel.size (bel1 Z29 (.map #[] 0)) (Nat.le_refl _) (heap_alloc_new Z29 (.map #[] 0))
        obtain ⟨eb, heeb⟩ : ∃ eb, Z29.heap.size = eb := ⟨_, rfl⟩
        rw [heeb] at HM30_
        generalize Z29.alloc (.map #[] 0) = Z30 at *
        rw [heeb]
        clear heeb
        clear HL29_ HM29_
        refine hK.out _ _ HL30_.out (fun hHeld => ?_)
        clear hK K
        refine norm_any' (fun K hK => ?_); go_simp; refine hK _ _ ?_; clear hK K
        refine wpAnyH_take (i := 17) (v := .agg (tq0 srv x y sb eb nb g0 t0 g1 t1)) rfl (by kernel_rfl) (by kernel_rfl) (by kernel_rfl) (fun _ _ _ h => h) (Or.inl ⟨by rfl, by intro w hs; kernel_rfl⟩) hHeld ?_
        refine norm_any' (fun K hK => ?_); go_simp; refine hK _ _ ?_; clear hK K
        refine wpAnyH_ready (rs := [18]) (by kernel_rfl) (by simp) (AllReadyH.cons rfl (fun K hK => ?_) AllReadyH.nil)
        go_simp
        have HTQ : Hid _ := HM30_.out.tq (srv := srv) (x := x) (y := y) (sb := sb) (eb := eb) (nb := nb) (g0 := g0) (t0 := t0) (g1 := g1) (t1 := t1) (List.Mem.tail _ (List.Mem.tail _ (List.Mem.tail _ (List.Mem.tail _ (List.Mem.tail _ (List.Mem.tail _ (List.Mem.head _))))))) (List.Mem.head _) (List.Mem.tail _ (List.Mem.tail _ (List.Mem.tail _ (List.Mem.head _)))) (List.Mem.tail _ (List.Mem.tail _ (List.Mem.tail _ (List.Mem.tail _ (List.Mem.tail _ (List.Mem.head _)))))) (List.Mem.tail _ (List.Mem.tail _ (List.Mem.tail _ (List.Mem.tail _ (List.Mem.head _))))) (List.Mem.tail _ (List.Mem.tail _ (List.Mem.head _))) (List.Mem.tail _ (List.Mem.head _)) (by
          have hn := HM30_.out.nd
          simp only [List.map_cons, List.map_nil, List.nodup_cons, List.mem_cons, List.not_mem_nil, not_or, or_false, not_false_eq_true, and_true, List.nodup_nil] at hn ⊢
          obtain ⟨⟨bg_, bf_, bc_, be_, bd_, ba_⟩, ⟨gf_, gc_, ge_, gd_, ga_⟩, ⟨fc_, fe_, fd_, fa_⟩, ⟨ce_, cd_, ca_⟩, ⟨ed_, ea_⟩, da_⟩ := hn
          exact ⟨⟨Ne.symm ba_, Ne.symm ca_, Ne.symm da_, Ne.symm ea_, Ne.symm fa_, Ne.symm ga_⟩, ⟨bc_, bd_, be_, bf_, bg_⟩, ⟨cd_, ce_, Ne.symm fc_, Ne.symm gc_⟩, ⟨Ne.symm ed_, Ne.symm fd_, Ne.symm gd_⟩, ⟨Ne.symm fe_, Ne.symm ge_⟩, Ne.symm gf_⟩) HL30_.out.bel.size
        have HLT : Hid _ := HL30_.out.go (bel1 _ (.cells (tq0 srv x y sb eb nb g0 t0 g1 t1) 89))
        refine hK.out _ _ HLT.out (fun hHeld => ?_)
        clear hK K; refine norm_any' (fun K hK => ?_); go_simp; refine hK _ _ ?_; clear hK K
        refine wpAnyH_take (i := 19) rfl (by kernel_rfl) (by kernel_rfl) (by kernel_rfl) (fun _ _ _ h => h) (Or.inl ⟨by rfl, by intro w hs; go_simp; rfl⟩) hHeld ?_
        refine norm_any' (fun K hK => ?_); go_simp; refine hK _ _ ?_; clear hK K
        refine wpAnyH_done (by kernel_rfl) ?_ _
        go_wp2
        go_meet
        case rel => exact ⟨_, sb, eb, nb, g0, t0, g1, t1, rfl, HTQ.out.1, HLT.out, HTQ.out.2⟩
      ·go_simp
       refine Calls.mono (HK1.out Z20) ?_
       rintro e Z31 ⟨g1, t1, rfl, hga, hta, hlo, hlt, hhi, hbx⟩
       have HL31_ : Hid _ := HL20_.out.go hbx
       have HM31_ : Hid _ := HM20_.out.two HL20_.out.bel.size hbx hlo hlt hga hta
       clear hga hta hlo hlt hhi hbx
       clear HL20_ HM20_
       refine hK.out _ _ HL31_.out (fun hHeld => ?_)
       clear hK K
       refine norm_any' (fun K hK => ?_); go_simp; refine hK _ _ ?_; clear hK K
       refine wpAnyH_take (i := 16) (v := .agg #[.pointer (some ⟨g0, 0, none⟩), .int .i64 0, .pointer (some ⟨t0, 0, none⟩), .pointer (some ⟨g1, 0, none⟩), .int .i64 0, .pointer (some ⟨t1, 0, none⟩)]) rfl (by kernel_rfl) (by kernel_rfl) (by kernel_rfl) (fun _ _ _ h => h) (Or.inl ⟨by rfl, by intro w hs; go_simp⟩) hHeld ?_
       refine norm_any' (fun K hK => ?_); go_simp; refine hK _ _ ?_; clear hK K
       refine wpAnyH_ready (rs := [4, 5]) (by kernel_rfl) (by simp) (AllReadyH.cons rfl (fun K hK => ?_) (AllReadyH.cons rfl (fun K hK => ?_) AllReadyH.nil))
       ·go_simp
        have HL32_ : Hid _ := HL31_.out.go (bel1 Z31 (.map #[] 0))
        have HM32_ : Hid _ := HM31_.out.one HL31_.out.bel.size (bel1 Z31 (.map #[] 0)) (Nat.le_refl _) (heap_alloc_new Z31 (.map #[] 0))
        obtain ⟨eb, heeb⟩ : ∃ eb, Z31.heap.size = eb := ⟨_, rfl⟩
        rw [heeb] at HM32_
        generalize Z31.alloc (.map #[] 0) = Z32 at *
        rw [heeb]
        clear heeb
        clear HL31_ HM31_
        refine hK.out _ _ HL32_.out (fun hHeld => ?_)
        clear hK K
        refine norm_any' (fun K hK => ?_); go_simp; refine hK _ _ ?_; clear hK K
        refine wpAnyH_ready (rs := [5]) (by kernel_rfl) (by simp) (AllReadyH.cons rfl (fun K hK => ?_) AllReadyH.nil)
        go_simp
        have HL33_ : Hid _ := HL32_.out.go (bel1 Z32 (.map #[] 0))
        have HM33_ : Hid _ := HM32_.out.one HL32_.out.bel.size (bel1 Z32 (.map #[] 0)) (Nat.le_refl _) (heap_alloc_new Z32 (.map #[] 0))
        obtain ⟨nb, henb⟩ : ∃ nb, Z32.heap.size = nb := ⟨_, rfl⟩
        rw [henb] at HM33_
        generalize Z32.alloc (.map #[] 0) = Z33 at *
        rw [henb]
        clear henb
        clear HL32_ HM32_
        refine hK.out _ _ HL33_.out (fun hHeld => ?_)
        clear hK K
        refine norm_any' (fun K hK => ?_); go_simp; refine hK _ _ ?_; clear hK K
        refine wpAnyH_take (i := 17) (v := .agg (tq0 srv x y sb eb nb g0 t0 g1 t1)) rfl (by kernel_rfl) (by kernel_rfl) (by kernel_rfl) (fun _ _ _ h => h) (Or.inl ⟨by rfl, by intro w hs; kernel_rfl⟩) hHeld ?_
        refine norm_any' (fun K hK => ?_); go_simp; refine hK _ _ ?_; clear hK K
        refine wpAnyH_ready (rs := [18]) (by kernel_rfl) (by simp) (AllReadyH.cons rfl (fun K hK => ?_) AllReadyH.nil)
        go_simp
        have HTQ : Hid _ := HM33_.out.tq (srv := srv) (x := x) (y := y) (sb := sb) (eb := eb) (nb := nb) (g0 := g0) (t0 := t0) (g1 := g1) (t1 := t1) (List.Mem.tail _ (List.Mem.tail _ (List.Mem.tail _ (List.Mem.tail _ (List.Mem.tail _ (List.Mem.tail _ (List.Mem.head _))))))) (List.Mem.tail _ (List.Mem.head _)) (List.Mem.head _) (List.Mem.tail _ (List.Mem.tail _ (List.Mem.tail _ (List.Mem.tail _ (List.Mem.tail _ (List.Mem.head _)))))) (List.Mem.tail _ (List.Mem.tail _ (List.Mem.tail _ (List.Mem.tail _ (List.Mem.head _))))) (List.Mem.tail _ (List.Mem.tail _ (List.Mem.tail _ (List.Mem.head _)))) (List.Mem.tail _ (List.Mem.tail _ (List.Mem.head _))) (by
          have hn := HM33_.out.nd
          simp only [List.map_cons, List.map_nil, List.nodup_cons, List.mem_cons, List.not_mem_nil, not_or, or_false, not_false_eq_true, and_true, List.nodup_nil] at hn ⊢
          obtain ⟨⟨cb_, cg_, cf_, ce_, cd_, ca_⟩, ⟨bg_, bf_, be_, bd_, ba_⟩, ⟨gf_, ge_, gd_, ga_⟩, ⟨fe_, fd_, fa_⟩, ⟨ed_, ea_⟩, da_⟩ := hn
          exact ⟨⟨Ne.symm ba_, Ne.symm ca_, Ne.symm da_, Ne.symm ea_, Ne.symm fa_, Ne.symm ga_⟩, ⟨Ne.symm cb_, bd_, be_, bf_, bg_⟩, ⟨cd_, ce_, cf_, cg_⟩, ⟨Ne.symm ed_, Ne.symm fd_, Ne.symm gd_⟩, ⟨Ne.symm fe_, Ne.symm ge_⟩, Ne.symm gf_⟩) HL33_.out.bel.size
        have HLT : Hid _ := HL33_.out.go (bel1 _ (.cells (tq0 srv x y sb eb nb g0 t0 g1 t1) 89))
        refine hK.out _ _ HLT.out (fun hHeld => ?_)
        clear hK K; refine norm_any' (fun K hK => ?_); go_simp; refine hK _ _ ?_; clear hK K
        refine wpAnyH_take (i := 19) rfl (by kernel_rfl) (by kernel_rfl) (by kernel_rfl) (fun _ _ _ h => h) (Or.inl ⟨by rfl, by intro w hs; go_simp; rfl⟩) hHeld ?_
        refine norm_any' (fun K hK => ?_); go_simp; refine hK _ _ ?_; clear hK K
        refine wpAnyH_done (by kernel_rfl) ?_ _
        go_wp2
        go_meet
        case rel => exact ⟨_, sb, eb, nb, g0, t0, g1, t1, rfl, HTQ.out.1, HLT.out, HTQ.out.2⟩
       ·go_simp
        have HL34_ : Hid _ := HL31_.out.go (bel1 Z31 (.map #[] 0))
        have HM34_ : Hid _ := HM31_.out.one HL31_.out.bel.size (bel1 Z31 (.map #[] 0)) (Nat.le_refl _) (heap_alloc_new Z31 (.map #[] 0))
        obtain ⟨nb, henb⟩ : ∃ nb, Z31.heap.size = nb := ⟨_, rfl⟩
        rw [henb] at HM34_
        generalize Z31.alloc (.map #[] 0) = Z34 at *
        rw [henb]
        clear henb
        clear HL31_ HM31_
        refine hK.out _ _ HL34_.out (fun hHeld => ?_)
        clear hK K
        refine norm_any' (fun K hK => ?_); go_simp; refine hK _ _ ?_; clear hK K
        refine wpAnyH_ready (rs := [4]) (by kernel_rfl) (by simp) (AllReadyH.cons rfl (fun K hK => ?_) AllReadyH.nil)
        go_simp
        have HL35_ : Hid _ := HL34_.out.go (bel1 Z34 (.map #[] 0))
        have HM35_ : Hid _ := HM34_.out.one HL34_.out.bel.size (bel1 Z34 (.map #[] 0)) (Nat.le_refl _) (heap_alloc_new Z34 (.map #[] 0))
        obtain ⟨eb, heeb⟩ : ∃ eb, Z34.heap.size = eb := ⟨_, rfl⟩
        rw [heeb] at HM35_
        generalize Z34.alloc (.map #[] 0) = Z35 at *
        rw [heeb]
        clear heeb
        clear HL34_ HM34_
        refine hK.out _ _ HL35_.out (fun hHeld => ?_)
        clear hK K
        refine norm_any' (fun K hK => ?_); go_simp; refine hK _ _ ?_; clear hK K
        refine wpAnyH_take (i := 17) (v := .agg (tq0 srv x y sb eb nb g0 t0 g1 t1)) rfl (by kernel_rfl) (by kernel_rfl) (by kernel_rfl) (fun _ _ _ h => h) (Or.inl ⟨by rfl, by intro w hs; kernel_rfl⟩) hHeld ?_
        refine norm_any' (fun K hK => ?_); go_simp; refine hK _ _ ?_; clear hK K
        refine wpAnyH_ready (rs := [18]) (by kernel_rfl) (by simp) (AllReadyH.cons rfl (fun K hK => ?_) AllReadyH.nil)
        go_simp
        have HTQ : Hid _ := HM35_.out.tq (srv := srv) (x := x) (y := y) (sb := sb) (eb := eb) (nb := nb) (g0 := g0) (t0 := t0) (g1 := g1) (t1 := t1) (List.Mem.tail _ (List.Mem.tail _ (List.Mem.tail _ (List.Mem.tail _ (List.Mem.tail _ (List.Mem.tail _ (List.Mem.head _))))))) (List.Mem.head _) (List.Mem.tail _ (List.Mem.head _)) (List.Mem.tail _ (List.Mem.tail _ (List.Mem.tail _ (List.Mem.tail _ (List.Mem.tail _ (List.Mem.head _)))))) (List.Mem.tail _ (List.Mem.tail _ (List.Mem.tail _ (List.Mem.tail _ (List.Mem.head _))))) (List.Mem.tail _ (List.Mem.tail _ (List.Mem.tail _ (List.Mem.head _)))) (List.Mem.tail _ (List.Mem.tail _ (List.Mem.head _))) (by
          have hn := HM35_.out.nd
          simp only [List.map_cons, List.map_nil, List.nodup_cons, List.mem_cons, List.not_mem_nil, not_or, or_false, not_false_eq_true, and_true, List.nodup_nil] at hn ⊢
          obtain ⟨⟨bc_, bg_, bf_, be_, bd_, ba_⟩, ⟨cg_, cf_, ce_, cd_, ca_⟩, ⟨gf_, ge_, gd_, ga_⟩, ⟨fe_, fd_, fa_⟩, ⟨ed_, ea_⟩, da_⟩ := hn
          exact ⟨⟨Ne.symm ba_, Ne.symm ca_, Ne.symm da_, Ne.symm ea_, Ne.symm fa_, Ne.symm ga_⟩, ⟨bc_, bd_, be_, bf_, bg_⟩, ⟨cd_, ce_, cf_, cg_⟩, ⟨Ne.symm ed_, Ne.symm fd_, Ne.symm gd_⟩, ⟨Ne.symm fe_, Ne.symm ge_⟩, Ne.symm gf_⟩) HL35_.out.bel.size
        have HLT : Hid _ := HL35_.out.go (bel1 _ (.cells (tq0 srv x y sb eb nb g0 t0 g1 t1) 89))
        refine hK.out _ _ HLT.out (fun hHeld => ?_)
        clear hK K; refine norm_any' (fun K hK => ?_); go_simp; refine hK _ _ ?_; clear hK K
        refine wpAnyH_take (i := 19) rfl (by kernel_rfl) (by kernel_rfl) (by kernel_rfl) (fun _ _ _ h => h) (Or.inl ⟨by rfl, by intro w hs; go_simp; rfl⟩) hHeld ?_
        refine norm_any' (fun K hK => ?_); go_simp; refine hK _ _ ?_; clear hK K
        refine wpAnyH_done (by kernel_rfl) ?_ _
        go_wp2
        go_meet
        case rel => exact ⟨_, sb, eb, nb, g0, t0, g1, t1, rfl, HTQ.out.1, HLT.out, HTQ.out.2⟩
    ·go_simp
     have HL36_ : Hid _ := HL0_.out.go (bel1 Z0 (.map #[] 0))
     have HM36_ : Hid _ := HM0_.out.one HL0_.out.bel.size (bel1 Z0 (.map #[] 0)) (Nat.le_refl _) (heap_alloc_new Z0 (.map #[] 0))
     obtain ⟨eb, heeb⟩ : ∃ eb, Z0.heap.size = eb := ⟨_, rfl⟩
     rw [heeb] at HM36_
     generalize Z0.alloc (.map #[] 0) = Z36 at *
     rw [heeb]
     clear heeb
     clear HL0_ HM0_
     refine hK.out _ _ HL36_.out (fun hHeld => ?_)
     clear hK K
     refine norm_any' (fun K hK => ?_); go_simp; refine hK _ _ ?_; clear hK K
     refine wpAnyH_ready (rs := [3, 5, 10]) (by kernel_rfl) (by simp) (AllReadyH.cons rfl (fun K hK => ?_) (AllReadyH.cons rfl (fun K hK => ?_) (AllReadyH.cons rfl (fun K hK => ?_) AllReadyH.nil)))
     ·go_simp
      have HL37_ : Hid _ := HL36_.out.go (bel1 Z36 (.map #[] 0))
      have HM37_ : Hid _ := HM36_.out.one HL36_.out.bel.size (bel1 Z36 (.map #[] 0)) (Nat.le_refl _) (heap_alloc_new Z36 (.map #[] 0))
      obtain ⟨sb, hesb⟩ : ∃ sb, Z36.heap.size = sb := ⟨_, rfl⟩
      rw [hesb] at HM37_
      generalize Z36.alloc (.map #[] 0) = Z37 at *
      rw [hesb]
      clear hesb
      clear HL36_ HM36_
      refine hK.out _ _ HL37_.out (fun hHeld => ?_)
      clear hK K
      refine norm_any' (fun K hK => ?_); go_simp; refine hK _ _ ?_; clear hK K
      refine wpAnyH_ready (rs := [5, 10]) (by kernel_rfl) (by simp) (AllReadyH.cons rfl (fun K hK => ?_) (AllReadyH.cons rfl (fun K hK => ?_) AllReadyH.nil))
      ·go_simp
       have HL38_ : Hid _ := HL37_.out.go (bel1 Z37 (.map #[] 0))
       have HM38_ : Hid _ := HM37_.out.one HL37_.out.bel.size (bel1 Z37 (.map #[] 0)) (Nat.le_refl _) (heap_alloc_new Z37 (.map #[] 0))
       obtain ⟨nb, henb⟩ : ∃ nb, Z37.heap.size = nb := ⟨_, rfl⟩
       rw [henb] at HM38_
       generalize Z37.alloc (.map #[] 0) = Z38 at *
       rw [henb]
       clear henb
       clear HL37_ HM37_
       refine hK.out _ _ HL38_.out (fun hHeld => ?_)
       clear hK K
       refine norm_any' (fun K hK => ?_); go_simp; refine hK _ _ ?_; clear hK K
       refine wpAnyH_ready (rs := [10]) (by kernel_rfl) (by simp) (AllReadyH.cons rfl (fun K hK => ?_) AllReadyH.nil)
       go_simp
       refine Calls.mono (HK0.out Z38) ?_
       rintro e Z39 ⟨g0, t0, rfl, hga, hta, hlo, hlt, hhi, hbx⟩
       have HL39_ : Hid _ := HL38_.out.go hbx
       have HM39_ : Hid _ := HM38_.out.two HL38_.out.bel.size hbx hlo hlt hga hta
       clear hga hta hlo hlt hhi hbx
       clear HL38_ HM38_
       refine hK.out _ _ HL39_.out (fun hHeld => ?_)
       clear hK K
       refine norm_any' (fun K hK => ?_); go_simp; refine hK _ _ ?_; clear hK K
       refine wpAnyH_ready (rs := [15]) (by kernel_rfl) (by simp) (AllReadyH.cons rfl (fun K hK => ?_) AllReadyH.nil)
       go_simp
       refine Calls.mono (HK1.out Z39) ?_
       rintro e Z40 ⟨g1, t1, rfl, hga, hta, hlo, hlt, hhi, hbx⟩
       have HL40_ : Hid _ := HL39_.out.go hbx
       have HM40_ : Hid _ := HM39_.out.two HL39_.out.bel.size hbx hlo hlt hga hta
       clear hga hta hlo hlt hhi hbx
       clear HL39_ HM39_
       refine hK.out _ _ HL40_.out (fun hHeld => ?_)
       clear hK K
       refine norm_any' (fun K hK => ?_); go_simp; refine hK _ _ ?_; clear hK K
       refine wpAnyH_take (i := 16) (v := .agg #[.pointer (some ⟨g0, 0, none⟩), .int .i64 0, .pointer (some ⟨t0, 0, none⟩), .pointer (some ⟨g1, 0, none⟩), .int .i64 0, .pointer (some ⟨t1, 0, none⟩)]) rfl (by kernel_rfl) (by kernel_rfl) (by kernel_rfl) (fun _ _ _ h => h) (Or.inl ⟨by rfl, by intro w hs; go_simp⟩) hHeld ?_
       refine norm_any' (fun K hK => ?_); go_simp; refine hK _ _ ?_; clear hK K
       refine wpAnyH_take (i := 17) (v := .agg (tq0 srv x y sb eb nb g0 t0 g1 t1)) rfl (by kernel_rfl) (by kernel_rfl) (by kernel_rfl) (fun _ _ _ h => h) (Or.inl ⟨by rfl, by intro w hs; kernel_rfl⟩) hHeld ?_
       refine norm_any' (fun K hK => ?_); go_simp; refine hK _ _ ?_; clear hK K
       refine wpAnyH_ready (rs := [18]) (by kernel_rfl) (by simp) (AllReadyH.cons rfl (fun K hK => ?_) AllReadyH.nil)
       go_simp
       have HTQ : Hid _ := HM40_.out.tq (srv := srv) (x := x) (y := y) (sb := sb) (eb := eb) (nb := nb) (g0 := g0) (t0 := t0) (g1 := g1) (t1 := t1) (List.Mem.tail _ (List.Mem.tail _ (List.Mem.tail _ (List.Mem.tail _ (List.Mem.tail _ (List.Mem.head _)))))) (List.Mem.tail _ (List.Mem.tail _ (List.Mem.tail _ (List.Mem.tail _ (List.Mem.tail _ (List.Mem.tail _ (List.Mem.head _))))))) (List.Mem.tail _ (List.Mem.tail _ (List.Mem.tail _ (List.Mem.tail _ (List.Mem.head _))))) (List.Mem.tail _ (List.Mem.tail _ (List.Mem.tail _ (List.Mem.head _)))) (List.Mem.tail _ (List.Mem.tail _ (List.Mem.head _))) (List.Mem.tail _ (List.Mem.head _)) (List.Mem.head _) (by
         have hn := HM40_.out.nd
         simp only [List.map_cons, List.map_nil, List.nodup_cons, List.mem_cons, List.not_mem_nil, not_or, or_false, not_false_eq_true, and_true, List.nodup_nil] at hn ⊢
         obtain ⟨⟨gf_, ge_, gd_, gc_, ga_, gb_⟩, ⟨fe_, fd_, fc_, fa_, fb_⟩, ⟨ed_, ec_, ea_, eb_⟩, ⟨dc_, da_, db_⟩, ⟨ca_, cb_⟩, ab_⟩ := hn
         exact ⟨⟨ab_, Ne.symm ca_, Ne.symm da_, Ne.symm ea_, Ne.symm fa_, Ne.symm ga_⟩, ⟨Ne.symm cb_, Ne.symm db_, Ne.symm eb_, Ne.symm fb_, Ne.symm gb_⟩, ⟨Ne.symm dc_, Ne.symm ec_, Ne.symm fc_, Ne.symm gc_⟩, ⟨Ne.symm ed_, Ne.symm fd_, Ne.symm gd_⟩, ⟨Ne.symm fe_, Ne.symm ge_⟩, Ne.symm gf_⟩) HL40_.out.bel.size
       have HLT : Hid _ := HL40_.out.go (bel1 _ (.cells (tq0 srv x y sb eb nb g0 t0 g1 t1) 89))
       refine hK.out _ _ HLT.out (fun hHeld => ?_)
       clear hK K; refine norm_any' (fun K hK => ?_); go_simp; refine hK _ _ ?_; clear hK K
       refine wpAnyH_take (i := 19) rfl (by kernel_rfl) (by kernel_rfl) (by kernel_rfl) (fun _ _ _ h => h) (Or.inl ⟨by rfl, by intro w hs; go_simp; rfl⟩) hHeld ?_
       refine norm_any' (fun K hK => ?_); go_simp; refine hK _ _ ?_; clear hK K
       refine wpAnyH_done (by kernel_rfl) ?_ _
       go_wp2
       go_meet
       case rel => exact ⟨_, sb, eb, nb, g0, t0, g1, t1, rfl, HTQ.out.1, HLT.out, HTQ.out.2⟩
      ·go_simp
       refine Calls.mono (HK0.out Z37) ?_
       rintro e Z41 ⟨g0, t0, rfl, hga, hta, hlo, hlt, hhi, hbx⟩
       have HL41_ : Hid _ := HL37_.out.go hbx
       have HM41_ : Hid _ := HM37_.out.two HL37_.out.bel.size hbx hlo hlt hga hta
       clear hga hta hlo hlt hhi hbx
       clear HL37_ HM37_
       refine hK.out _ _ HL41_.out (fun hHeld => ?_)
       clear hK K
       refine norm_any' (fun K hK => ?_); go_simp; refine hK _ _ ?_; clear hK K
       refine wpAnyH_ready (rs := [5, 15]) (by kernel_rfl) (by simp) (AllReadyH.cons rfl (fun K hK => ?_) (AllReadyH.cons rfl (fun K hK => ?_) AllReadyH.nil))
       ·go_simp
        have HL42_ : Hid _ := HL41_.out.go (bel1 Z41 (.map #[] 0))
        have HM42_ : Hid _ := HM41_.out.one HL41_.out.bel.size (bel1 Z41 (.map #[] 0)) (Nat.le_refl _) (heap_alloc_new Z41 (.map #[] 0))
        obtain ⟨nb, henb⟩ : ∃ nb, Z41.heap.size = nb := ⟨_, rfl⟩
        rw [henb] at HM42_
        generalize Z41.alloc (.map #[] 0) = Z42 at *
        rw [henb]
        clear henb
        clear HL41_ HM41_
        refine hK.out _ _ HL42_.out (fun hHeld => ?_)
        clear hK K
        refine norm_any' (fun K hK => ?_); go_simp; refine hK _ _ ?_; clear hK K
        refine wpAnyH_ready (rs := [15]) (by kernel_rfl) (by simp) (AllReadyH.cons rfl (fun K hK => ?_) AllReadyH.nil)
        go_simp
        refine Calls.mono (HK1.out Z42) ?_
        rintro e Z43 ⟨g1, t1, rfl, hga, hta, hlo, hlt, hhi, hbx⟩
        have HL43_ : Hid _ := HL42_.out.go hbx
        have HM43_ : Hid _ := HM42_.out.two HL42_.out.bel.size hbx hlo hlt hga hta
        clear hga hta hlo hlt hhi hbx
        clear HL42_ HM42_
        refine hK.out _ _ HL43_.out (fun hHeld => ?_)
        clear hK K
        refine norm_any' (fun K hK => ?_); go_simp; refine hK _ _ ?_; clear hK K
        refine wpAnyH_take (i := 16) (v := .agg #[.pointer (some ⟨g0, 0, none⟩), .int .i64 0, .pointer (some ⟨t0, 0, none⟩), .pointer (some ⟨g1, 0, none⟩), .int .i64 0, .pointer (some ⟨t1, 0, none⟩)]) rfl (by kernel_rfl) (by kernel_rfl) (by kernel_rfl) (fun _ _ _ h => h) (Or.inl ⟨by rfl, by intro w hs; go_simp⟩) hHeld ?_
        refine norm_any' (fun K hK => ?_); go_simp; refine hK _ _ ?_; clear hK K
        refine wpAnyH_take (i := 17) (v := .agg (tq0 srv x y sb eb nb g0 t0 g1 t1)) rfl (by kernel_rfl) (by kernel_rfl) (by kernel_rfl) (fun _ _ _ h => h) (Or.inl ⟨by rfl, by intro w hs; kernel_rfl⟩) hHeld ?_
        refine norm_any' (fun K hK => ?_); go_simp; refine hK _ _ ?_; clear hK K
        refine wpAnyH_ready (rs := [18]) (by kernel_rfl) (by simp) (AllReadyH.cons rfl (fun K hK => ?_) AllReadyH.nil)
        go_simp
        have HTQ : Hid _ := HM43_.out.tq (srv := srv) (x := x) (y := y) (sb := sb) (eb := eb) (nb := nb) (g0 := g0) (t0 := t0) (g1 := g1) (t1 := t1) (List.Mem.tail _ (List.Mem.tail _ (List.Mem.tail _ (List.Mem.tail _ (List.Mem.tail _ (List.Mem.head _)))))) (List.Mem.tail _ (List.Mem.tail _ (List.Mem.tail _ (List.Mem.tail _ (List.Mem.tail _ (List.Mem.tail _ (List.Mem.head _))))))) (List.Mem.tail _ (List.Mem.tail _ (List.Mem.head _))) (List.Mem.tail _ (List.Mem.tail _ (List.Mem.tail _ (List.Mem.tail _ (List.Mem.head _))))) (List.Mem.tail _ (List.Mem.tail _ (List.Mem.tail _ (List.Mem.head _)))) (List.Mem.tail _ (List.Mem.head _)) (List.Mem.head _) (by
          have hn := HM43_.out.nd
          simp only [List.map_cons, List.map_nil, List.nodup_cons, List.mem_cons, List.not_mem_nil, not_or, or_false, not_false_eq_true, and_true, List.nodup_nil] at hn ⊢
          obtain ⟨⟨gf_, gc_, ge_, gd_, ga_, gb_⟩, ⟨fc_, fe_, fd_, fa_, fb_⟩, ⟨ce_, cd_, ca_, cb_⟩, ⟨ed_, ea_, eb_⟩, ⟨da_, db_⟩, ab_⟩ := hn
          exact ⟨⟨ab_, Ne.symm ca_, Ne.symm da_, Ne.symm ea_, Ne.symm fa_, Ne.symm ga_⟩, ⟨Ne.symm cb_, Ne.symm db_, Ne.symm eb_, Ne.symm fb_, Ne.symm gb_⟩, ⟨cd_, ce_, Ne.symm fc_, Ne.symm gc_⟩, ⟨Ne.symm ed_, Ne.symm fd_, Ne.symm gd_⟩, ⟨Ne.symm fe_, Ne.symm ge_⟩, Ne.symm gf_⟩) HL43_.out.bel.size
        have HLT : Hid _ := HL43_.out.go (bel1 _ (.cells (tq0 srv x y sb eb nb g0 t0 g1 t1) 89))
        refine hK.out _ _ HLT.out (fun hHeld => ?_)
        clear hK K; refine norm_any' (fun K hK => ?_); go_simp; refine hK _ _ ?_; clear hK K
        refine wpAnyH_take (i := 19) rfl (by kernel_rfl) (by kernel_rfl) (by kernel_rfl) (fun _ _ _ h => h) (Or.inl ⟨by rfl, by intro w hs; go_simp; rfl⟩) hHeld ?_
        refine norm_any' (fun K hK => ?_); go_simp; refine hK _ _ ?_; clear hK K
        refine wpAnyH_done (by kernel_rfl) ?_ _
        go_wp2
        go_meet
        case rel => exact ⟨_, sb, eb, nb, g0, t0, g1, t1, rfl, HTQ.out.1, HLT.out, HTQ.out.2⟩
       ·go_simp
        refine Calls.mono (HK1.out Z41) ?_
        rintro e Z44 ⟨g1, t1, rfl, hga, hta, hlo, hlt, hhi, hbx⟩
        have HL44_ : Hid _ := HL41_.out.go hbx
        have HM44_ : Hid _ := HM41_.out.two HL41_.out.bel.size hbx hlo hlt hga hta
        clear hga hta hlo hlt hhi hbx
        clear HL41_ HM41_
        refine hK.out _ _ HL44_.out (fun hHeld => ?_)
        clear hK K
        refine norm_any' (fun K hK => ?_); go_simp; refine hK _ _ ?_; clear hK K
        refine wpAnyH_take (i := 16) (v := .agg #[.pointer (some ⟨g0, 0, none⟩), .int .i64 0, .pointer (some ⟨t0, 0, none⟩), .pointer (some ⟨g1, 0, none⟩), .int .i64 0, .pointer (some ⟨t1, 0, none⟩)]) rfl (by kernel_rfl) (by kernel_rfl) (by kernel_rfl) (fun _ _ _ h => h) (Or.inl ⟨by rfl, by intro w hs; go_simp⟩) hHeld ?_
        refine norm_any' (fun K hK => ?_); go_simp; refine hK _ _ ?_; clear hK K
        refine wpAnyH_ready (rs := [5]) (by kernel_rfl) (by simp) (AllReadyH.cons rfl (fun K hK => ?_) AllReadyH.nil)
        go_simp
        have HL45_ : Hid _ := HL44_.out.go (bel1 Z44 (.map #[] 0))
        have HM45_ : Hid _ := HM44_.out.one HL44_.out.bel.size (bel1 Z44 (.map #[] 0)) (Nat.le_refl _) (heap_alloc_new Z44 (.map #[] 0))
        obtain ⟨nb, henb⟩ : ∃ nb, Z44.heap.size = nb := ⟨_, rfl⟩
        rw [henb] at HM45_
        generalize Z44.alloc (.map #[] 0) = Z45 at *
        rw [henb]
        clear henb
        clear HL44_ HM44_
        refine hK.out _ _ HL45_.out (fun hHeld => ?_)
        clear hK K
        refine norm_any' (fun K hK => ?_); go_simp; refine hK _ _ ?_; clear hK K
        refine wpAnyH_take (i := 17) (v := .agg (tq0 srv x y sb eb nb g0 t0 g1 t1)) rfl (by kernel_rfl) (by kernel_rfl) (by kernel_rfl) (fun _ _ _ h => h) (Or.inl ⟨by rfl, by intro w hs; kernel_rfl⟩) hHeld ?_
        refine norm_any' (fun K hK => ?_); go_simp; refine hK _ _ ?_; clear hK K
        refine wpAnyH_ready (rs := [18]) (by kernel_rfl) (by simp) (AllReadyH.cons rfl (fun K hK => ?_) AllReadyH.nil)
        go_simp
        have HTQ : Hid _ := HM45_.out.tq (srv := srv) (x := x) (y := y) (sb := sb) (eb := eb) (nb := nb) (g0 := g0) (t0 := t0) (g1 := g1) (t1 := t1) (List.Mem.tail _ (List.Mem.tail _ (List.Mem.tail _ (List.Mem.tail _ (List.Mem.tail _ (List.Mem.head _)))))) (List.Mem.tail _ (List.Mem.tail _ (List.Mem.tail _ (List.Mem.tail _ (List.Mem.tail _ (List.Mem.tail _ (List.Mem.head _))))))) (List.Mem.head _) (List.Mem.tail _ (List.Mem.tail _ (List.Mem.tail _ (List.Mem.tail _ (List.Mem.head _))))) (List.Mem.tail _ (List.Mem.tail _ (List.Mem.tail _ (List.Mem.head _)))) (List.Mem.tail _ (List.Mem.tail _ (List.Mem.head _))) (List.Mem.tail _ (List.Mem.head _)) (by
          have hn := HM45_.out.nd
          simp only [List.map_cons, List.map_nil, List.nodup_cons, List.mem_cons, List.not_mem_nil, not_or, or_false, not_false_eq_true, and_true, List.nodup_nil] at hn ⊢
          obtain ⟨⟨cg_, cf_, ce_, cd_, ca_, cb_⟩, ⟨gf_, ge_, gd_, ga_, gb_⟩, ⟨fe_, fd_, fa_, fb_⟩, ⟨ed_, ea_, eb_⟩, ⟨da_, db_⟩, ab_⟩ := hn
          exact ⟨⟨ab_, Ne.symm ca_, Ne.symm da_, Ne.symm ea_, Ne.symm fa_, Ne.symm ga_⟩, ⟨Ne.symm cb_, Ne.symm db_, Ne.symm eb_, Ne.symm fb_, Ne.symm gb_⟩, ⟨cd_, ce_, cf_, cg_⟩, ⟨Ne.symm ed_, Ne.symm fd_, Ne.symm gd_⟩, ⟨Ne.symm fe_, Ne.symm ge_⟩, Ne.symm gf_⟩) HL45_.out.bel.size
        have HLT : Hid _ := HL45_.out.go (bel1 _ (.cells (tq0 srv x y sb eb nb g0 t0 g1 t1) 89))
        refine hK.out _ _ HLT.out (fun hHeld => ?_)
        clear hK K; refine norm_any' (fun K hK => ?_); go_simp; refine hK _ _ ?_; clear hK K
        refine wpAnyH_take (i := 19) rfl (by kernel_rfl) (by kernel_rfl) (by kernel_rfl) (fun _ _ _ h => h) (Or.inl ⟨by rfl, by intro w hs; go_simp; rfl⟩) hHeld ?_
        refine norm_any' (fun K hK => ?_); go_simp; refine hK _ _ ?_; clear hK K
        refine wpAnyH_done (by kernel_rfl) ?_ _
        go_wp2
        go_meet
        case rel => exact ⟨_, sb, eb, nb, g0, t0, g1, t1, rfl, HTQ.out.1, HLT.out, HTQ.out.2⟩
     ·go_simp
      have HL46_ : Hid _ := HL36_.out.go (bel1 Z36 (.map #[] 0))
      have HM46_ : Hid _ := HM36_.out.one HL36_.out.bel.size (bel1 Z36 (.map #[] 0)) (Nat.le_refl _) (heap_alloc_new Z36 (.map #[] 0))
      obtain ⟨nb, henb⟩ : ∃ nb, Z36.heap.size = nb := ⟨_, rfl⟩
      rw [henb] at HM46_
      generalize Z36.alloc (.map #[] 0) = Z46 at *
      rw [henb]
      clear henb
      clear HL36_ HM36_
      refine hK.out _ _ HL46_.out (fun hHeld => ?_)
      clear hK K
      refine norm_any' (fun K hK => ?_); go_simp; refine hK _ _ ?_; clear hK K
      refine wpAnyH_ready (rs := [3, 10]) (by kernel_rfl) (by simp) (AllReadyH.cons rfl (fun K hK => ?_) (AllReadyH.cons rfl (fun K hK => ?_) AllReadyH.nil))
      ·go_simp
       have HL47_ : Hid _ := HL46_.out.go (bel1 Z46 (.map #[] 0))
       have HM47_ : Hid _ := HM46_.out.one HL46_.out.bel.size (bel1 Z46 (.map #[] 0)) (Nat.le_refl _) (heap_alloc_new Z46 (.map #[] 0))
       obtain ⟨sb, hesb⟩ : ∃ sb, Z46.heap.size = sb := ⟨_, rfl⟩
       rw [hesb] at HM47_
       generalize Z46.alloc (.map #[] 0) = Z47 at *
       rw [hesb]
       clear hesb
       clear HL46_ HM46_
       refine hK.out _ _ HL47_.out (fun hHeld => ?_)
       clear hK K
       refine norm_any' (fun K hK => ?_); go_simp; refine hK _ _ ?_; clear hK K
       refine wpAnyH_ready (rs := [10]) (by kernel_rfl) (by simp) (AllReadyH.cons rfl (fun K hK => ?_) AllReadyH.nil)
       go_simp
       refine Calls.mono (HK0.out Z47) ?_
       rintro e Z48 ⟨g0, t0, rfl, hga, hta, hlo, hlt, hhi, hbx⟩
       have HL48_ : Hid _ := HL47_.out.go hbx
       have HM48_ : Hid _ := HM47_.out.two HL47_.out.bel.size hbx hlo hlt hga hta
       clear hga hta hlo hlt hhi hbx
       clear HL47_ HM47_
       refine hK.out _ _ HL48_.out (fun hHeld => ?_)
       clear hK K
       refine norm_any' (fun K hK => ?_); go_simp; refine hK _ _ ?_; clear hK K
       refine wpAnyH_ready (rs := [15]) (by kernel_rfl) (by simp) (AllReadyH.cons rfl (fun K hK => ?_) AllReadyH.nil)
       go_simp
       refine Calls.mono (HK1.out Z48) ?_
       rintro e Z49 ⟨g1, t1, rfl, hga, hta, hlo, hlt, hhi, hbx⟩
       have HL49_ : Hid _ := HL48_.out.go hbx
       have HM49_ : Hid _ := HM48_.out.two HL48_.out.bel.size hbx hlo hlt hga hta
       clear hga hta hlo hlt hhi hbx
       clear HL48_ HM48_
       refine hK.out _ _ HL49_.out (fun hHeld => ?_)
       clear hK K
       refine norm_any' (fun K hK => ?_); go_simp; refine hK _ _ ?_; clear hK K
       refine wpAnyH_take (i := 16) (v := .agg #[.pointer (some ⟨g0, 0, none⟩), .int .i64 0, .pointer (some ⟨t0, 0, none⟩), .pointer (some ⟨g1, 0, none⟩), .int .i64 0, .pointer (some ⟨t1, 0, none⟩)]) rfl (by kernel_rfl) (by kernel_rfl) (by kernel_rfl) (fun _ _ _ h => h) (Or.inl ⟨by rfl, by intro w hs; go_simp⟩) hHeld ?_
       refine norm_any' (fun K hK => ?_); go_simp; refine hK _ _ ?_; clear hK K
       refine wpAnyH_take (i := 17) (v := .agg (tq0 srv x y sb eb nb g0 t0 g1 t1)) rfl (by kernel_rfl) (by kernel_rfl) (by kernel_rfl) (fun _ _ _ h => h) (Or.inl ⟨by rfl, by intro w hs; kernel_rfl⟩) hHeld ?_
       refine norm_any' (fun K hK => ?_); go_simp; refine hK _ _ ?_; clear hK K
       refine wpAnyH_ready (rs := [18]) (by kernel_rfl) (by simp) (AllReadyH.cons rfl (fun K hK => ?_) AllReadyH.nil)
       go_simp
       have HTQ : Hid _ := HM49_.out.tq (srv := srv) (x := x) (y := y) (sb := sb) (eb := eb) (nb := nb) (g0 := g0) (t0 := t0) (g1 := g1) (t1 := t1) (List.Mem.tail _ (List.Mem.tail _ (List.Mem.tail _ (List.Mem.tail _ (List.Mem.head _))))) (List.Mem.tail _ (List.Mem.tail _ (List.Mem.tail _ (List.Mem.tail _ (List.Mem.tail _ (List.Mem.tail _ (List.Mem.head _))))))) (List.Mem.tail _ (List.Mem.tail _ (List.Mem.tail _ (List.Mem.tail _ (List.Mem.tail _ (List.Mem.head _)))))) (List.Mem.tail _ (List.Mem.tail _ (List.Mem.tail _ (List.Mem.head _)))) (List.Mem.tail _ (List.Mem.tail _ (List.Mem.head _))) (List.Mem.tail _ (List.Mem.head _)) (List.Mem.head _) (by
         have hn := HM49_.out.nd
         simp only [List.map_cons, List.map_nil, List.nodup_cons, List.mem_cons, List.not_mem_nil, not_or, or_false, not_false_eq_true, and_true, List.nodup_nil] at hn ⊢
         obtain ⟨⟨gf_, ge_, gd_, ga_, gc_, gb_⟩, ⟨fe_, fd_, fa_, fc_, fb_⟩, ⟨ed_, ea_, ec_, eb_⟩, ⟨da_, dc_, db_⟩, ⟨ac_, ab_⟩, cb_⟩ := hn
         exact ⟨⟨ab_, ac_, Ne.symm da_, Ne.symm ea_, Ne.symm fa_, Ne.symm ga_⟩, ⟨Ne.symm cb_, Ne.symm db_, Ne.symm eb_, Ne.symm fb_, Ne.symm gb_⟩, ⟨Ne.symm dc_, Ne.symm ec_, Ne.symm fc_, Ne.symm gc_⟩, ⟨Ne.symm ed_, Ne.symm fd_, Ne.symm gd_⟩, ⟨Ne.symm fe_, Ne.symm ge_⟩, Ne.symm gf_⟩) HL49_.out.bel.size
       have HLT : Hid _ := HL49_.out.go (bel1 _ (.cells (tq0 srv x y sb eb nb g0 t0 g1 t1) 89))
       refine hK.out _ _ HLT.out (fun hHeld => ?_)
       clear hK K; refine norm_any' (fun K hK => ?_); go_simp; refine hK _ _ ?_; clear hK K
       refine wpAnyH_take (i := 19) rfl (by kernel_rfl) (by kernel_rfl) (by kernel_rfl) (fun _ _ _ h => h) (Or.inl ⟨by rfl, by intro w hs; go_simp; rfl⟩) hHeld ?_
       refine norm_any' (fun K hK => ?_); go_simp; refine hK _ _ ?_; clear hK K
       refine wpAnyH_done (by kernel_rfl) ?_ _
       go_wp2
       go_meet
       case rel => exact ⟨_, sb, eb, nb, g0, t0, g1, t1, rfl, HTQ.out.1, HLT.out, HTQ.out.2⟩
      ·go_simp
       refine Calls.mono (HK0.out Z46) ?_
       rintro e Z50 ⟨g0, t0, rfl, hga, hta, hlo, hlt, hhi, hbx⟩
       have HL50_ : Hid _ := HL46_.out.go hbx
       have HM50_ : Hid _ := HM46_.out.two HL46_.out.bel.size hbx hlo hlt hga hta
       clear hga hta hlo hlt hhi hbx
       clear HL46_ HM46_
       refine hK.out _ _ HL50_.out (fun hHeld => ?_)
       clear hK K
       refine norm_any' (fun K hK => ?_); go_simp; refine hK _ _ ?_; clear hK K
       refine wpAnyH_ready (rs := [3, 15]) (by kernel_rfl) (by simp) (AllReadyH.cons rfl (fun K hK => ?_) (AllReadyH.cons rfl (fun K hK => ?_) AllReadyH.nil))
       ·go_simp
        have HL51_ : Hid _ := HL50_.out.go (bel1 Z50 (.map #[] 0))
        have HM51_ : Hid _ := HM50_.out.one HL50_.out.bel.size (bel1 Z50 (.map #[] 0)) (Nat.le_refl _) (heap_alloc_new Z50 (.map #[] 0))
        obtain ⟨sb, hesb⟩ : ∃ sb, Z50.heap.size = sb := ⟨_, rfl⟩
        rw [hesb] at HM51_
        generalize Z50.alloc (.map #[] 0) = Z51 at *
        rw [hesb]
        clear hesb
        clear HL50_ HM50_
        refine hK.out _ _ HL51_.out (fun hHeld => ?_)
        clear hK K
        refine norm_any' (fun K hK => ?_); go_simp; refine hK _ _ ?_; clear hK K
        refine wpAnyH_ready (rs := [15]) (by kernel_rfl) (by simp) (AllReadyH.cons rfl (fun K hK => ?_) AllReadyH.nil)
        go_simp
        refine Calls.mono (HK1.out Z51) ?_
        rintro e Z52 ⟨g1, t1, rfl, hga, hta, hlo, hlt, hhi, hbx⟩
        have HL52_ : Hid _ := HL51_.out.go hbx
        have HM52_ : Hid _ := HM51_.out.two HL51_.out.bel.size hbx hlo hlt hga hta
        clear hga hta hlo hlt hhi hbx
        clear HL51_ HM51_
        refine hK.out _ _ HL52_.out (fun hHeld => ?_)
        clear hK K
        refine norm_any' (fun K hK => ?_); go_simp; refine hK _ _ ?_; clear hK K
        refine wpAnyH_take (i := 16) (v := .agg #[.pointer (some ⟨g0, 0, none⟩), .int .i64 0, .pointer (some ⟨t0, 0, none⟩), .pointer (some ⟨g1, 0, none⟩), .int .i64 0, .pointer (some ⟨t1, 0, none⟩)]) rfl (by kernel_rfl) (by kernel_rfl) (by kernel_rfl) (fun _ _ _ h => h) (Or.inl ⟨by rfl, by intro w hs; go_simp⟩) hHeld ?_
        refine norm_any' (fun K hK => ?_); go_simp; refine hK _ _ ?_; clear hK K
        refine wpAnyH_take (i := 17) (v := .agg (tq0 srv x y sb eb nb g0 t0 g1 t1)) rfl (by kernel_rfl) (by kernel_rfl) (by kernel_rfl) (fun _ _ _ h => h) (Or.inl ⟨by rfl, by intro w hs; kernel_rfl⟩) hHeld ?_
        refine norm_any' (fun K hK => ?_); go_simp; refine hK _ _ ?_; clear hK K
        refine wpAnyH_ready (rs := [18]) (by kernel_rfl) (by simp) (AllReadyH.cons rfl (fun K hK => ?_) AllReadyH.nil)
        go_simp
        have HTQ : Hid _ := HM52_.out.tq (srv := srv) (x := x) (y := y) (sb := sb) (eb := eb) (nb := nb) (g0 := g0) (t0 := t0) (g1 := g1) (t1 := t1) (List.Mem.tail _ (List.Mem.tail _ (List.Mem.head _))) (List.Mem.tail _ (List.Mem.tail _ (List.Mem.tail _ (List.Mem.tail _ (List.Mem.tail _ (List.Mem.tail _ (List.Mem.head _))))))) (List.Mem.tail _ (List.Mem.tail _ (List.Mem.tail _ (List.Mem.tail _ (List.Mem.tail _ (List.Mem.head _)))))) (List.Mem.tail _ (List.Mem.tail _ (List.Mem.tail _ (List.Mem.tail _ (List.Mem.head _))))) (List.Mem.tail _ (List.Mem.tail _ (List.Mem.tail _ (List.Mem.head _)))) (List.Mem.tail _ (List.Mem.head _)) (List.Mem.head _) (by
          have hn := HM52_.out.nd
          simp only [List.map_cons, List.map_nil, List.nodup_cons, List.mem_cons, List.not_mem_nil, not_or, or_false, not_false_eq_true, and_true, List.nodup_nil] at hn ⊢
          obtain ⟨⟨gf_, ga_, ge_, gd_, gc_, gb_⟩, ⟨fa_, fe_, fd_, fc_, fb_⟩, ⟨ae_, ad_, ac_, ab_⟩, ⟨ed_, ec_, eb_⟩, ⟨dc_, db_⟩, cb_⟩ := hn
          exact ⟨⟨ab_, ac_, ad_, ae_, Ne.symm fa_, Ne.symm ga_⟩, ⟨Ne.symm cb_, Ne.symm db_, Ne.symm eb_, Ne.symm fb_, Ne.symm gb_⟩, ⟨Ne.symm dc_, Ne.symm ec_, Ne.symm fc_, Ne.symm gc_⟩, ⟨Ne.symm ed_, Ne.symm fd_, Ne.symm gd_⟩, ⟨Ne.symm fe_, Ne.symm ge_⟩, Ne.symm gf_⟩) HL52_.out.bel.size
        have HLT : Hid _ := HL52_.out.go (bel1 _ (.cells (tq0 srv x y sb eb nb g0 t0 g1 t1) 89))
        refine hK.out _ _ HLT.out (fun hHeld => ?_)
        clear hK K; refine norm_any' (fun K hK => ?_); go_simp; refine hK _ _ ?_; clear hK K
        refine wpAnyH_take (i := 19) rfl (by kernel_rfl) (by kernel_rfl) (by kernel_rfl) (fun _ _ _ h => h) (Or.inl ⟨by rfl, by intro w hs; go_simp; rfl⟩) hHeld ?_
        refine norm_any' (fun K hK => ?_); go_simp; refine hK _ _ ?_; clear hK K
        refine wpAnyH_done (by kernel_rfl) ?_ _
        go_wp2
        go_meet
        case rel => exact ⟨_, sb, eb, nb, g0, t0, g1, t1, rfl, HTQ.out.1, HLT.out, HTQ.out.2⟩
       ·go_simp
        refine Calls.mono (HK1.out Z50) ?_
        rintro e Z53 ⟨g1, t1, rfl, hga, hta, hlo, hlt, hhi, hbx⟩
        have HL53_ : Hid _ := HL50_.out.go hbx
        have HM53_ : Hid _ := HM50_.out.two HL50_.out.bel.size hbx hlo hlt hga hta
        clear hga hta hlo hlt hhi hbx
        clear HL50_ HM50_
        refine hK.out _ _ HL53_.out (fun hHeld => ?_)
        clear hK K
        refine norm_any' (fun K hK => ?_); go_simp; refine hK _ _ ?_; clear hK K
        refine wpAnyH_take (i := 16) (v := .agg #[.pointer (some ⟨g0, 0, none⟩), .int .i64 0, .pointer (some ⟨t0, 0, none⟩), .pointer (some ⟨g1, 0, none⟩), .int .i64 0, .pointer (some ⟨t1, 0, none⟩)]) rfl (by kernel_rfl) (by kernel_rfl) (by kernel_rfl) (fun _ _ _ h => h) (Or.inl ⟨by rfl, by intro w hs; go_simp⟩) hHeld ?_
        refine norm_any' (fun K hK => ?_); go_simp; refine hK _ _ ?_; clear hK K
        refine wpAnyH_ready (rs := [3]) (by kernel_rfl) (by simp) (AllReadyH.cons rfl (fun K hK => ?_) AllReadyH.nil)
        go_simp
        have HL54_ : Hid _ := HL53_.out.go (bel1 Z53 (.map #[] 0))
        have HM54_ : Hid _ := HM53_.out.one HL53_.out.bel.size (bel1 Z53 (.map #[] 0)) (Nat.le_refl _) (heap_alloc_new Z53 (.map #[] 0))
        obtain ⟨sb, hesb⟩ : ∃ sb, Z53.heap.size = sb := ⟨_, rfl⟩
        rw [hesb] at HM54_
        generalize Z53.alloc (.map #[] 0) = Z54 at *
        rw [hesb]
        clear hesb
        clear HL53_ HM53_
        refine hK.out _ _ HL54_.out (fun hHeld => ?_)
        clear hK K
        refine norm_any' (fun K hK => ?_); go_simp; refine hK _ _ ?_; clear hK K
        refine wpAnyH_take (i := 17) (v := .agg (tq0 srv x y sb eb nb g0 t0 g1 t1)) rfl (by kernel_rfl) (by kernel_rfl) (by kernel_rfl) (fun _ _ _ h => h) (Or.inl ⟨by rfl, by intro w hs; kernel_rfl⟩) hHeld ?_
        refine norm_any' (fun K hK => ?_); go_simp; refine hK _ _ ?_; clear hK K
        refine wpAnyH_ready (rs := [18]) (by kernel_rfl) (by simp) (AllReadyH.cons rfl (fun K hK => ?_) AllReadyH.nil)
        go_simp
        have HTQ : Hid _ := HM54_.out.tq (srv := srv) (x := x) (y := y) (sb := sb) (eb := eb) (nb := nb) (g0 := g0) (t0 := t0) (g1 := g1) (t1 := t1) (List.Mem.head _) (List.Mem.tail _ (List.Mem.tail _ (List.Mem.tail _ (List.Mem.tail _ (List.Mem.tail _ (List.Mem.tail _ (List.Mem.head _))))))) (List.Mem.tail _ (List.Mem.tail _ (List.Mem.tail _ (List.Mem.tail _ (List.Mem.tail _ (List.Mem.head _)))))) (List.Mem.tail _ (List.Mem.tail _ (List.Mem.tail _ (List.Mem.tail _ (List.Mem.head _))))) (List.Mem.tail _ (List.Mem.tail _ (List.Mem.tail _ (List.Mem.head _)))) (List.Mem.tail _ (List.Mem.tail _ (List.Mem.head _))) (List.Mem.tail _ (List.Mem.head _)) (by
          have hn := HM54_.out.nd
          simp only [List.map_cons, List.map_nil, List.nodup_cons, List.mem_cons, List.not_mem_nil, not_or, or_false, not_false_eq_true, and_true, List.nodup_nil] at hn ⊢
          obtain ⟨⟨ag_, af_, ae_, ad_, ac_, ab_⟩, ⟨gf_, ge_, gd_, gc_, gb_⟩, ⟨fe_, fd_, fc_, fb_⟩, ⟨ed_, ec_, eb_⟩, ⟨dc_, db_⟩, cb_⟩ := hn
          exact ⟨⟨ab_, ac_, ad_, ae_, af_, ag_⟩, ⟨Ne.symm cb_, Ne.symm db_, Ne.symm eb_, Ne.symm fb_, Ne.symm gb_⟩, ⟨Ne.symm dc_, Ne.symm ec_, Ne.symm fc_, Ne.symm gc_⟩, ⟨Ne.symm ed_, Ne.symm fd_, Ne.symm gd_⟩, ⟨Ne.symm fe_, Ne.symm ge_⟩, Ne.symm gf_⟩) HL54_.out.bel.size
        have HLT : Hid _ := HL54_.out.go (bel1 _ (.cells (tq0 srv x y sb eb nb g0 t0 g1 t1) 89))
        refine hK.out _ _ HLT.out (fun hHeld => ?_)
        clear hK K; refine norm_any' (fun K hK => ?_); go_simp; refine hK _ _ ?_; clear hK K
        refine wpAnyH_take (i := 19) rfl (by kernel_rfl) (by kernel_rfl) (by kernel_rfl) (fun _ _ _ h => h) (Or.inl ⟨by rfl, by intro w hs; go_simp; rfl⟩) hHeld ?_
        refine norm_any' (fun K hK => ?_); go_simp; refine hK _ _ ?_; clear hK K
        refine wpAnyH_done (by kernel_rfl) ?_ _
        go_wp2
        go_meet
        case rel => exact ⟨_, sb, eb, nb, g0, t0, g1, t1, rfl, HTQ.out.1, HLT.out, HTQ.out.2⟩
     ·go_simp
      refine Calls.mono (HK0.out Z36) ?_
      rintro e Z55 ⟨g0, t0, rfl, hga, hta, hlo, hlt, hhi, hbx⟩
      have HL55_ : Hid _ := HL36_.out.go hbx
      have HM55_ : Hid _ := HM36_.out.two HL36_.out.bel.size hbx hlo hlt hga hta
      clear hga hta hlo hlt hhi hbx
      clear HL36_ HM36_
      refine hK.out _ _ HL55_.out (fun hHeld => ?_)
      clear hK K
      refine norm_any' (fun K hK => ?_); go_simp; refine hK _ _ ?_; clear hK K
      refine wpAnyH_ready (rs := [3, 5, 15]) (by kernel_rfl) (by simp) (AllReadyH.cons rfl (fun K hK => ?_) (AllReadyH.cons rfl (fun K hK => ?_) (AllReadyH.cons rfl (fun K hK => ?_) AllReadyH.nil)))
      ·go_simp
       have HL56_ : Hid _ := HL55_.out.go (bel1 Z55 (.map #[] 0))
       have HM56_ : Hid _ := HM55_.out.one HL55_.out.bel.size (bel1 Z55 (.map #[] 0)) (Nat.le_refl _) (heap_alloc_new Z55 (.map #[] 0))
       obtain ⟨sb, hesb⟩ : ∃ sb, Z55.heap.size = sb := ⟨_, rfl⟩
       rw [hesb] at HM56_
       generalize Z55.alloc (.map #[] 0) = Z56 at *
       rw [hesb]
       clear hesb
       clear HL55_ HM55_
       refine hK.out _ _ HL56_.out (fun hHeld => ?_)
       clear hK K
       refine norm_any' (fun K hK => ?_); go_simp; refine hK _ _ ?_; clear hK K
       refine wpAnyH_ready (rs := [5, 15]) (by kernel_rfl) (by simp) (AllReadyH.cons rfl (fun K hK => ?_) (AllReadyH.cons rfl (fun K hK => ?_) AllReadyH.nil))
       ·go_simp
        have HL57_ : Hid _ := HL56_.out.go (bel1 Z56 (.map #[] 0))
        have HM57_ : Hid _ := HM56_.out.one HL56_.out.bel.size (bel1 Z56 (.map #[] 0)) (Nat.le_refl _) (heap_alloc_new Z56 (.map #[] 0))
        obtain ⟨nb, henb⟩ : ∃ nb, Z56.heap.size = nb := ⟨_, rfl⟩
        rw [henb] at HM57_
        generalize Z56.alloc (.map #[] 0) = Z57 at *
        rw [henb]
        clear henb
        clear HL56_ HM56_
        refine hK.out _ _ HL57_.out (fun hHeld => ?_)
        clear hK K
        refine norm_any' (fun K hK => ?_); go_simp; refine hK _ _ ?_; clear hK K
        refine wpAnyH_ready (rs := [15]) (by kernel_rfl) (by simp) (AllReadyH.cons rfl (fun K hK => ?_) AllReadyH.nil)
        go_simp
        refine Calls.mono (HK1.out Z57) ?_
        rintro e Z58 ⟨g1, t1, rfl, hga, hta, hlo, hlt, hhi, hbx⟩
        have HL58_ : Hid _ := HL57_.out.go hbx
        have HM58_ : Hid _ := HM57_.out.two HL57_.out.bel.size hbx hlo hlt hga hta
        clear hga hta hlo hlt hhi hbx
        clear HL57_ HM57_
        refine hK.out _ _ HL58_.out (fun hHeld => ?_)
        clear hK K
        refine norm_any' (fun K hK => ?_); go_simp; refine hK _ _ ?_; clear hK K
        refine wpAnyH_take (i := 16) (v := .agg #[.pointer (some ⟨g0, 0, none⟩), .int .i64 0, .pointer (some ⟨t0, 0, none⟩), .pointer (some ⟨g1, 0, none⟩), .int .i64 0, .pointer (some ⟨t1, 0, none⟩)]) rfl (by kernel_rfl) (by kernel_rfl) (by kernel_rfl) (fun _ _ _ h => h) (Or.inl ⟨by rfl, by intro w hs; go_simp⟩) hHeld ?_
        refine norm_any' (fun K hK => ?_); go_simp; refine hK _ _ ?_; clear hK K
        refine wpAnyH_take (i := 17) (v := .agg (tq0 srv x y sb eb nb g0 t0 g1 t1)) rfl (by kernel_rfl) (by kernel_rfl) (by kernel_rfl) (fun _ _ _ h => h) (Or.inl ⟨by rfl, by intro w hs; kernel_rfl⟩) hHeld ?_
        refine norm_any' (fun K hK => ?_); go_simp; refine hK _ _ ?_; clear hK K
        refine wpAnyH_ready (rs := [18]) (by kernel_rfl) (by simp) (AllReadyH.cons rfl (fun K hK => ?_) AllReadyH.nil)
        go_simp
        have HTQ : Hid _ := HM58_.out.tq (srv := srv) (x := x) (y := y) (sb := sb) (eb := eb) (nb := nb) (g0 := g0) (t0 := t0) (g1 := g1) (t1 := t1) (List.Mem.tail _ (List.Mem.tail _ (List.Mem.tail _ (List.Mem.head _)))) (List.Mem.tail _ (List.Mem.tail _ (List.Mem.tail _ (List.Mem.tail _ (List.Mem.tail _ (List.Mem.tail _ (List.Mem.head _))))))) (List.Mem.tail _ (List.Mem.tail _ (List.Mem.head _))) (List.Mem.tail _ (List.Mem.tail _ (List.Mem.tail _ (List.Mem.tail _ (List.Mem.tail _ (List.Mem.head _)))))) (List.Mem.tail _ (List.Mem.tail _ (List.Mem.tail _ (List.Mem.tail _ (List.Mem.head _))))) (List.Mem.tail _ (List.Mem.head _)) (List.Mem.head _) (by
          have hn := HM58_.out.nd
          simp only [List.map_cons, List.map_nil, List.nodup_cons, List.mem_cons, List.not_mem_nil, not_or, or_false, not_false_eq_true, and_true, List.nodup_nil] at hn ⊢
          obtain ⟨⟨gf_, gc_, ga_, ge_, gd_, gb_⟩, ⟨fc_, fa_, fe_, fd_, fb_⟩, ⟨ca_, ce_, cd_, cb_⟩, ⟨ae_, ad_, ab_⟩, ⟨ed_, eb_⟩, db_⟩ := hn
          exact ⟨⟨ab_, Ne.symm ca_, ad_, ae_, Ne.symm fa_, Ne.symm ga_⟩, ⟨Ne.symm cb_, Ne.symm db_, Ne.symm eb_, Ne.symm fb_, Ne.symm gb_⟩, ⟨cd_, ce_, Ne.symm fc_, Ne.symm gc_⟩, ⟨Ne.symm ed_, Ne.symm fd_, Ne.symm gd_⟩, ⟨Ne.symm fe_, Ne.symm ge_⟩, Ne.symm gf_⟩) HL58_.out.bel.size
        have HLT : Hid _ := HL58_.out.go (bel1 _ (.cells (tq0 srv x y sb eb nb g0 t0 g1 t1) 89))
        refine hK.out _ _ HLT.out (fun hHeld => ?_)
        clear hK K; refine norm_any' (fun K hK => ?_); go_simp; refine hK _ _ ?_; clear hK K
        refine wpAnyH_take (i := 19) rfl (by kernel_rfl) (by kernel_rfl) (by kernel_rfl) (fun _ _ _ h => h) (Or.inl ⟨by rfl, by intro w hs; go_simp; rfl⟩) hHeld ?_
        refine norm_any' (fun K hK => ?_); go_simp; refine hK _ _ ?_; clear hK K
        refine wpAnyH_done (by kernel_rfl) ?_ _
        go_wp2
        go_meet
        case rel => exact ⟨_, sb, eb, nb, g0, t0, g1, t1, rfl, HTQ.out.1, HLT.out, HTQ.out.2⟩
       ·go_simp
        refine Calls.mono (HK1.out Z56) ?_
        rintro e Z59 ⟨g1, t1, rfl, hga, hta, hlo, hlt, hhi, hbx⟩
        have HL59_ : Hid _ := HL56_.out.go hbx
        have HM59_ : Hid _ := HM56_.out.two HL56_.out.bel.size hbx hlo hlt hga hta
        clear hga hta hlo hlt hhi hbx
        clear HL56_ HM56_
        refine hK.out _ _ HL59_.out (fun hHeld => ?_)
        clear hK K
        refine norm_any' (fun K hK => ?_); go_simp; refine hK _ _ ?_; clear hK K
        refine wpAnyH_take (i := 16) (v := .agg #[.pointer (some ⟨g0, 0, none⟩), .int .i64 0, .pointer (some ⟨t0, 0, none⟩), .pointer (some ⟨g1, 0, none⟩), .int .i64 0, .pointer (some ⟨t1, 0, none⟩)]) rfl (by kernel_rfl) (by kernel_rfl) (by kernel_rfl) (fun _ _ _ h => h) (Or.inl ⟨by rfl, by intro w hs; go_simp⟩) hHeld ?_
        refine norm_any' (fun K hK => ?_); go_simp; refine hK _ _ ?_; clear hK K
        refine wpAnyH_ready (rs := [5]) (by kernel_rfl) (by simp) (AllReadyH.cons rfl (fun K hK => ?_) AllReadyH.nil)
        go_simp
        have HL60_ : Hid _ := HL59_.out.go (bel1 Z59 (.map #[] 0))
        have HM60_ : Hid _ := HM59_.out.one HL59_.out.bel.size (bel1 Z59 (.map #[] 0)) (Nat.le_refl _) (heap_alloc_new Z59 (.map #[] 0))
        obtain ⟨nb, henb⟩ : ∃ nb, Z59.heap.size = nb := ⟨_, rfl⟩
        rw [henb] at HM60_
        generalize Z59.alloc (.map #[] 0) = Z60 at *
        rw [henb]
        clear henb
        clear HL59_ HM59_
        refine hK.out _ _ HL60_.out (fun hHeld => ?_)
        clear hK K
        refine norm_any' (fun K hK => ?_); go_simp; refine hK _ _ ?_; clear hK K
        refine wpAnyH_take (i := 17) (v := .agg (tq0 srv x y sb eb nb g0 t0 g1 t1)) rfl (by kernel_rfl) (by kernel_rfl) (by kernel_rfl) (fun _ _ _ h => h) (Or.inl ⟨by rfl, by intro w hs; kernel_rfl⟩) hHeld ?_
        refine norm_any' (fun K hK => ?_); go_simp; refine hK _ _ ?_; clear hK K
        refine wpAnyH_ready (rs := [18]) (by kernel_rfl) (by simp) (AllReadyH.cons rfl (fun K hK => ?_) AllReadyH.nil)
        go_simp
        have HTQ : Hid _ := HM60_.out.tq (srv := srv) (x := x) (y := y) (sb := sb) (eb := eb) (nb := nb) (g0 := g0) (t0 := t0) (g1 := g1) (t1 := t1) (List.Mem.tail _ (List.Mem.tail _ (List.Mem.tail _ (List.Mem.head _)))) (List.Mem.tail _ (List.Mem.tail _ (List.Mem.tail _ (List.Mem.tail _ (List.Mem.tail _ (List.Mem.tail _ (List.Mem.head _))))))) (List.Mem.head _) (List.Mem.tail _ (List.Mem.tail _ (List.Mem.tail _ (List.Mem.tail _ (List.Mem.tail _ (List.Mem.head _)))))) (List.Mem.tail _ (List.Mem.tail _ (List.Mem.tail _ (List.Mem.tail _ (List.Mem.head _))))) (List.Mem.tail _ (List.Mem.tail _ (List.Mem.head _))) (List.Mem.tail _ (List.Mem.head _)) (by
          have hn := HM60_.out.nd
          simp only [List.map_cons, List.map_nil, List.nodup_cons, List.mem_cons, List.not_mem_nil, not_or, or_false, not_false_eq_true, and_true, List.nodup_nil] at hn ⊢
          obtain ⟨⟨cg_, cf_, ca_, ce_, cd_, cb_⟩, ⟨gf_, ga_, ge_, gd_, gb_⟩, ⟨fa_, fe_, fd_, fb_⟩, ⟨ae_, ad_, ab_⟩, ⟨ed_, eb_⟩, db_⟩ := hn
          exact ⟨⟨ab_, Ne.symm ca_, ad_, ae_, Ne.symm fa_, Ne.symm ga_⟩, ⟨Ne.symm cb_, Ne.symm db_, Ne.symm eb_, Ne.symm fb_, Ne.symm gb_⟩, ⟨cd_, ce_, cf_, cg_⟩, ⟨Ne.symm ed_, Ne.symm fd_, Ne.symm gd_⟩, ⟨Ne.symm fe_, Ne.symm ge_⟩, Ne.symm gf_⟩) HL60_.out.bel.size
        have HLT : Hid _ := HL60_.out.go (bel1 _ (.cells (tq0 srv x y sb eb nb g0 t0 g1 t1) 89))
        refine hK.out _ _ HLT.out (fun hHeld => ?_)
        clear hK K; refine norm_any' (fun K hK => ?_); go_simp; refine hK _ _ ?_; clear hK K
        refine wpAnyH_take (i := 19) rfl (by kernel_rfl) (by kernel_rfl) (by kernel_rfl) (fun _ _ _ h => h) (Or.inl ⟨by rfl, by intro w hs; go_simp; rfl⟩) hHeld ?_
        refine norm_any' (fun K hK => ?_); go_simp; refine hK _ _ ?_; clear hK K
        refine wpAnyH_done (by kernel_rfl) ?_ _
        go_wp2
        go_meet
        case rel => exact ⟨_, sb, eb, nb, g0, t0, g1, t1, rfl, HTQ.out.1, HLT.out, HTQ.out.2⟩
      ·go_simp
       have HL61_ : Hid _ := HL55_.out.go (bel1 Z55 (.map #[] 0))
       have HM61_ : Hid _ := HM55_.out.one HL55_.out.bel.size (bel1 Z55 (.map #[] 0)) (Nat.le_refl _) (heap_alloc_new Z55 (.map #[] 0))
       obtain ⟨nb, henb⟩ : ∃ nb, Z55.heap.size = nb := ⟨_, rfl⟩
       rw [henb] at HM61_
       generalize Z55.alloc (.map #[] 0) = Z61 at *
       rw [henb]
       clear henb
       clear HL55_ HM55_
       refine hK.out _ _ HL61_.out (fun hHeld => ?_)
       clear hK K
       refine norm_any' (fun K hK => ?_); go_simp; refine hK _ _ ?_; clear hK K
       refine wpAnyH_ready (rs := [3, 15]) (by kernel_rfl) (by simp) (AllReadyH.cons rfl (fun K hK => ?_) (AllReadyH.cons rfl (fun K hK => ?_) AllReadyH.nil))
       ·go_simp
        have HL62_ : Hid _ := HL61_.out.go (bel1 Z61 (.map #[] 0))
        have HM62_ : Hid _ := HM61_.out.one HL61_.out.bel.size (bel1 Z61 (.map #[] 0)) (Nat.le_refl _) (heap_alloc_new Z61 (.map #[] 0))
        obtain ⟨sb, hesb⟩ : ∃ sb, Z61.heap.size = sb := ⟨_, rfl⟩
        rw [hesb] at HM62_
        generalize Z61.alloc (.map #[] 0) = Z62 at *
        rw [hesb]
        clear hesb
        clear HL61_ HM61_
        refine hK.out _ _ HL62_.out (fun hHeld => ?_)
        clear hK K
        refine norm_any' (fun K hK => ?_); go_simp; refine hK _ _ ?_; clear hK K
        refine wpAnyH_ready (rs := [15]) (by kernel_rfl) (by simp) (AllReadyH.cons rfl (fun K hK => ?_) AllReadyH.nil)
        go_simp
        refine Calls.mono (HK1.out Z62) ?_
        rintro e Z63 ⟨g1, t1, rfl, hga, hta, hlo, hlt, hhi, hbx⟩
        have HL63_ : Hid _ := HL62_.out.go hbx
        have HM63_ : Hid _ := HM62_.out.two HL62_.out.bel.size hbx hlo hlt hga hta
        clear hga hta hlo hlt hhi hbx
        clear HL62_ HM62_
        refine hK.out _ _ HL63_.out (fun hHeld => ?_)
        clear hK K
        refine norm_any' (fun K hK => ?_); go_simp; refine hK _ _ ?_; clear hK K
        refine wpAnyH_take (i := 16) (v := .agg #[.pointer (some ⟨g0, 0, none⟩), .int .i64 0, .pointer (some ⟨t0, 0, none⟩), .pointer (some ⟨g1, 0, none⟩), .int .i64 0, .pointer (some ⟨t1, 0, none⟩)]) rfl (by kernel_rfl) (by kernel_rfl) (by kernel_rfl) (fun _ _ _ h => h) (Or.inl ⟨by rfl, by intro w hs; go_simp⟩) hHeld ?_
        refine norm_any' (fun K hK => ?_); go_simp; refine hK _ _ ?_; clear hK K
        refine wpAnyH_take (i := 17) (v := .agg (tq0 srv x y sb eb nb g0 t0 g1 t1)) rfl (by kernel_rfl) (by kernel_rfl) (by kernel_rfl) (fun _ _ _ h => h) (Or.inl ⟨by rfl, by intro w hs; kernel_rfl⟩) hHeld ?_
        refine norm_any' (fun K hK => ?_); go_simp; refine hK _ _ ?_; clear hK K
        refine wpAnyH_ready (rs := [18]) (by kernel_rfl) (by simp) (AllReadyH.cons rfl (fun K hK => ?_) AllReadyH.nil)
        go_simp
        have HTQ : Hid _ := HM63_.out.tq (srv := srv) (x := x) (y := y) (sb := sb) (eb := eb) (nb := nb) (g0 := g0) (t0 := t0) (g1 := g1) (t1 := t1) (List.Mem.tail _ (List.Mem.tail _ (List.Mem.head _))) (List.Mem.tail _ (List.Mem.tail _ (List.Mem.tail _ (List.Mem.tail _ (List.Mem.tail _ (List.Mem.tail _ (List.Mem.head _))))))) (List.Mem.tail _ (List.Mem.tail _ (List.Mem.tail _ (List.Mem.head _)))) (List.Mem.tail _ (List.Mem.tail _ (List.Mem.tail _ (List.Mem.tail _ (List.Mem.tail _ (List.Mem.head _)))))) (List.Mem.tail _ (List.Mem.tail _ (List.Mem.tail _ (List.Mem.tail _ (List.Mem.head _))))) (List.Mem.tail _ (List.Mem.head _)) (List.Mem.head _) (by
          have hn := HM63_.out.nd
          simp only [List.map_cons, List.map_nil, List.nodup_cons, List.mem_cons, List.not_mem_nil, not_or, or_false, not_false_eq_true, and_true, List.nodup_nil] at hn ⊢
          obtain ⟨⟨gf_, ga_, gc_, ge_, gd_, gb_⟩, ⟨fa_, fc_, fe_, fd_, fb_⟩, ⟨ac_, ae_, ad_, ab_⟩, ⟨ce_, cd_, cb_⟩, ⟨ed_, eb_⟩, db_⟩ := hn
          exact ⟨⟨ab_, ac_, ad_, ae_, Ne.symm fa_, Ne.symm ga_⟩, ⟨Ne.symm cb_, Ne.symm db_, Ne.symm eb_, Ne.symm fb_, Ne.symm gb_⟩, ⟨cd_, ce_, Ne.symm fc_, Ne.symm gc_⟩, ⟨Ne.symm ed_, Ne.symm fd_, Ne.symm gd_⟩, ⟨Ne.symm fe_, Ne.symm ge_⟩, Ne.symm gf_⟩) HL63_.out.bel.size
        have HLT : Hid _ := HL63_.out.go (bel1 _ (.cells (tq0 srv x y sb eb nb g0 t0 g1 t1) 89))
        refine hK.out _ _ HLT.out (fun hHeld => ?_)
        clear hK K; refine norm_any' (fun K hK => ?_); go_simp; refine hK _ _ ?_; clear hK K
        refine wpAnyH_take (i := 19) rfl (by kernel_rfl) (by kernel_rfl) (by kernel_rfl) (fun _ _ _ h => h) (Or.inl ⟨by rfl, by intro w hs; go_simp; rfl⟩) hHeld ?_
        refine norm_any' (fun K hK => ?_); go_simp; refine hK _ _ ?_; clear hK K
        refine wpAnyH_done (by kernel_rfl) ?_ _
        go_wp2
        go_meet
        case rel => exact ⟨_, sb, eb, nb, g0, t0, g1, t1, rfl, HTQ.out.1, HLT.out, HTQ.out.2⟩
       ·go_simp
        refine Calls.mono (HK1.out Z61) ?_
        rintro e Z64 ⟨g1, t1, rfl, hga, hta, hlo, hlt, hhi, hbx⟩
        have HL64_ : Hid _ := HL61_.out.go hbx
        have HM64_ : Hid _ := HM61_.out.two HL61_.out.bel.size hbx hlo hlt hga hta
        clear hga hta hlo hlt hhi hbx
        clear HL61_ HM61_
        refine hK.out _ _ HL64_.out (fun hHeld => ?_)
        clear hK K
        refine norm_any' (fun K hK => ?_); go_simp; refine hK _ _ ?_; clear hK K
        refine wpAnyH_take (i := 16) (v := .agg #[.pointer (some ⟨g0, 0, none⟩), .int .i64 0, .pointer (some ⟨t0, 0, none⟩), .pointer (some ⟨g1, 0, none⟩), .int .i64 0, .pointer (some ⟨t1, 0, none⟩)]) rfl (by kernel_rfl) (by kernel_rfl) (by kernel_rfl) (fun _ _ _ h => h) (Or.inl ⟨by rfl, by intro w hs; go_simp⟩) hHeld ?_
        refine norm_any' (fun K hK => ?_); go_simp; refine hK _ _ ?_; clear hK K
        refine wpAnyH_ready (rs := [3]) (by kernel_rfl) (by simp) (AllReadyH.cons rfl (fun K hK => ?_) AllReadyH.nil)
        go_simp
        have HL65_ : Hid _ := HL64_.out.go (bel1 Z64 (.map #[] 0))
        have HM65_ : Hid _ := HM64_.out.one HL64_.out.bel.size (bel1 Z64 (.map #[] 0)) (Nat.le_refl _) (heap_alloc_new Z64 (.map #[] 0))
        obtain ⟨sb, hesb⟩ : ∃ sb, Z64.heap.size = sb := ⟨_, rfl⟩
        rw [hesb] at HM65_
        generalize Z64.alloc (.map #[] 0) = Z65 at *
        rw [hesb]
        clear hesb
        clear HL64_ HM64_
        refine hK.out _ _ HL65_.out (fun hHeld => ?_)
        clear hK K
        refine norm_any' (fun K hK => ?_); go_simp; refine hK _ _ ?_; clear hK K
        refine wpAnyH_take (i := 17) (v := .agg (tq0 srv x y sb eb nb g0 t0 g1 t1)) rfl (by kernel_rfl) (by kernel_rfl) (by kernel_rfl) (fun _ _ _ h => h) (Or.inl ⟨by rfl, by intro w hs; kernel_rfl⟩) hHeld ?_
        refine norm_any' (fun K hK => ?_); go_simp; refine hK _ _ ?_; clear hK K
        refine wpAnyH_ready (rs := [18]) (by kernel_rfl) (by simp) (AllReadyH.cons rfl (fun K hK => ?_) AllReadyH.nil)
        go_simp
        have HTQ : Hid _ := HM65_.out.tq (srv := srv) (x := x) (y := y) (sb := sb) (eb := eb) (nb := nb) (g0 := g0) (t0 := t0) (g1 := g1) (t1 := t1) (List.Mem.head _) (List.Mem.tail _ (List.Mem.tail _ (List.Mem.tail _ (List.Mem.tail _ (List.Mem.tail _ (List.Mem.tail _ (List.Mem.head _))))))) (List.Mem.tail _ (List.Mem.tail _ (List.Mem.tail _ (List.Mem.head _)))) (List.Mem.tail _ (List.Mem.tail _ (List.Mem.tail _ (List.Mem.tail _ (List.Mem.tail _ (List.Mem.head _)))))) (List.Mem.tail _ (List.Mem.tail _ (List.Mem.tail _ (List.Mem.tail _ (List.Mem.head _))))) (List.Mem.tail _ (List.Mem.tail _ (List.Mem.head _))) (List.Mem.tail _ (List.Mem.head _)) (by
          have hn := HM65_.out.nd
          simp only [List.map_cons, List.map_nil, List.nodup_cons, List.mem_cons, List.not_mem_nil, not_or, or_false, not_false_eq_true, and_true, List.nodup_nil] at hn ⊢
          obtain ⟨⟨ag_, af_, ac_, ae_, ad_, ab_⟩, ⟨gf_, gc_, ge_, gd_, gb_⟩, ⟨fc_, fe_, fd_, fb_⟩, ⟨ce_, cd_, cb_⟩, ⟨ed_, eb_⟩, db_⟩ := hn
          exact ⟨⟨ab_, ac_, ad_, ae_, af_, ag_⟩, ⟨Ne.symm cb_, Ne.symm db_, Ne.symm eb_, Ne.symm fb_, Ne.symm gb_⟩, ⟨cd_, ce_, Ne.symm fc_, Ne.symm gc_⟩, ⟨Ne.symm ed_, Ne.symm fd_, Ne.symm gd_⟩, ⟨Ne.symm fe_, Ne.symm ge_⟩, Ne.symm gf_⟩) HL65_.out.bel.size
        have HLT : Hid _ := HL65_.out.go (bel1 _ (.cells (tq0 srv x y sb eb nb g0 t0 g1 t1) 89))
        refine hK.out _ _ HLT.out (fun hHeld => ?_)
        clear hK K; refine norm_any' (fun K hK => ?_); go_simp; refine hK _ _ ?_; clear hK K
        refine wpAnyH_take (i := 19) rfl (by kernel_rfl) (by kernel_rfl) (by kernel_rfl) (fun _ _ _ h => h) (Or.inl ⟨by rfl, by intro w hs; go_simp; rfl⟩) hHeld ?_
        refine norm_any' (fun K hK => ?_); go_simp; refine hK _ _ ?_; clear hK K
        refine wpAnyH_done (by kernel_rfl) ?_ _
        go_wp2
        go_meet
        case rel => exact ⟨_, sb, eb, nb, g0, t0, g1, t1, rfl, HTQ.out.1, HLT.out, HTQ.out.2⟩
      ·go_simp
       refine Calls.mono (HK1.out Z55) ?_
       rintro e Z66 ⟨g1, t1, rfl, hga, hta, hlo, hlt, hhi, hbx⟩
       have HL66_ : Hid _ := HL55_.out.go hbx
       have HM66_ : Hid _ := HM55_.out.two HL55_.out.bel.size hbx hlo hlt hga hta
       clear hga hta hlo hlt hhi hbx
       clear HL55_ HM55_
       refine hK.out _ _ HL66_.out (fun hHeld => ?_)
       clear hK K
       refine norm_any' (fun K hK => ?_); go_simp; refine hK _ _ ?_; clear hK K
       refine wpAnyH_take (i := 16) (v := .agg #[.pointer (some ⟨g0, 0, none⟩), .int .i64 0, .pointer (some ⟨t0, 0, none⟩), .pointer (some ⟨g1, 0, none⟩), .int .i64 0, .pointer (some ⟨t1, 0, none⟩)]) rfl (by kernel_rfl) (by kernel_rfl) (by kernel_rfl) (fun _ _ _ h => h) (Or.inl ⟨by rfl, by intro w hs; go_simp⟩) hHeld ?_
       refine norm_any' (fun K hK => ?_); go_simp; refine hK _ _ ?_; clear hK K
       refine wpAnyH_ready (rs := [3, 5]) (by kernel_rfl) (by simp) (AllReadyH.cons rfl (fun K hK => ?_) (AllReadyH.cons rfl (fun K hK => ?_) AllReadyH.nil))
       ·go_simp
        have HL67_ : Hid _ := HL66_.out.go (bel1 Z66 (.map #[] 0))
        have HM67_ : Hid _ := HM66_.out.one HL66_.out.bel.size (bel1 Z66 (.map #[] 0)) (Nat.le_refl _) (heap_alloc_new Z66 (.map #[] 0))
        obtain ⟨sb, hesb⟩ : ∃ sb, Z66.heap.size = sb := ⟨_, rfl⟩
        rw [hesb] at HM67_
        generalize Z66.alloc (.map #[] 0) = Z67 at *
        rw [hesb]
        clear hesb
        clear HL66_ HM66_
        refine hK.out _ _ HL67_.out (fun hHeld => ?_)
        clear hK K
        refine norm_any' (fun K hK => ?_); go_simp; refine hK _ _ ?_; clear hK K
        refine wpAnyH_ready (rs := [5]) (by kernel_rfl) (by simp) (AllReadyH.cons rfl (fun K hK => ?_) AllReadyH.nil)
        go_simp
        have HL68_ : Hid _ := HL67_.out.go (bel1 Z67 (.map #[] 0))
        have HM68_ : Hid _ := HM67_.out.one HL67_.out.bel.size (bel1 Z67 (.map #[] 0)) (Nat.le_refl _) (heap_alloc_new Z67 (.map #[] 0))
        obtain ⟨nb, henb⟩ : ∃ nb, Z67.heap.size = nb := ⟨_, rfl⟩
        rw [henb] at HM68_
        generalize Z67.alloc (.map #[] 0) = Z68 at *
        rw [henb]
        clear henb
        clear HL67_ HM67_
        refine hK.out _ _ HL68_.out (fun hHeld => ?_)
        clear hK K
        refine norm_any' (fun K hK => ?_); go_simp; refine hK _ _ ?_; clear hK K
        refine wpAnyH_take (i := 17) (v := .agg (tq0 srv x y sb eb nb g0 t0 g1 t1)) rfl (by kernel_rfl) (by kernel_rfl) (by kernel_rfl) (fun _ _ _ h => h) (Or.inl ⟨by rfl, by intro w hs; kernel_rfl⟩) hHeld ?_
        refine norm_any' (fun K hK => ?_); go_simp; refine hK _ _ ?_; clear hK K
        refine wpAnyH_ready (rs := [18]) (by kernel_rfl) (by simp) (AllReadyH.cons rfl (fun K hK => ?_) AllReadyH.nil)
        go_simp
        have HTQ : Hid _ := HM68_.out.tq (srv := srv) (x := x) (y := y) (sb := sb) (eb := eb) (nb := nb) (g0 := g0) (t0 := t0) (g1 := g1) (t1 := t1) (List.Mem.tail _ (List.Mem.head _)) (List.Mem.tail _ (List.Mem.tail _ (List.Mem.tail _ (List.Mem.tail _ (List.Mem.tail _ (List.Mem.tail _ (List.Mem.head _))))))) (List.Mem.head _) (List.Mem.tail _ (List.Mem.tail _ (List.Mem.tail _ (List.Mem.tail _ (List.Mem.tail _ (List.Mem.head _)))))) (List.Mem.tail _ (List.Mem.tail _ (List.Mem.tail _ (List.Mem.tail _ (List.Mem.head _))))) (List.Mem.tail _ (List.Mem.tail _ (List.Mem.tail _ (List.Mem.head _)))) (List.Mem.tail _ (List.Mem.tail _ (List.Mem.head _))) (by
          have hn := HM68_.out.nd
          simp only [List.map_cons, List.map_nil, List.nodup_cons, List.mem_cons, List.not_mem_nil, not_or, or_false, not_false_eq_true, and_true, List.nodup_nil] at hn ⊢
          obtain ⟨⟨ca_, cg_, cf_, ce_, cd_, cb_⟩, ⟨ag_, af_, ae_, ad_, ab_⟩, ⟨gf_, ge_, gd_, gb_⟩, ⟨fe_, fd_, fb_⟩, ⟨ed_, eb_⟩, db_⟩ := hn
          exact ⟨⟨ab_, Ne.symm ca_, ad_, ae_, af_, ag_⟩, ⟨Ne.symm cb_, Ne.symm db_, Ne.symm eb_, Ne.symm fb_, Ne.symm gb_⟩, ⟨cd_, ce_, cf_, cg_⟩, ⟨Ne.symm ed_, Ne.symm fd_, Ne.symm gd_⟩, ⟨Ne.symm fe_, Ne.symm ge_⟩, Ne.symm gf_⟩) HL68_.out.bel.size
        have HLT : Hid _ := HL68_.out.go (bel1 _ (.cells (tq0 srv x y sb eb nb g0 t0 g1 t1) 89))
        refine hK.out _ _ HLT.out (fun hHeld => ?_)
        clear hK K; refine norm_any' (fun K hK => ?_); go_simp; refine hK _ _ ?_; clear hK K
        refine wpAnyH_take (i := 19) rfl (by kernel_rfl) (by kernel_rfl) (by kernel_rfl) (fun _ _ _ h => h) (Or.inl ⟨by rfl, by intro w hs; go_simp; rfl⟩) hHeld ?_
        refine norm_any' (fun K hK => ?_); go_simp; refine hK _ _ ?_; clear hK K
        refine wpAnyH_done (by kernel_rfl) ?_ _
        go_wp2
        go_meet
        case rel => exact ⟨_, sb, eb, nb, g0, t0, g1, t1, rfl, HTQ.out.1, HLT.out, HTQ.out.2⟩
       ·go_simp
        have HL69_ : Hid _ := HL66_.out.go (bel1 Z66 (.map #[] 0))
        have HM69_ : Hid _ := HM66_.out.one HL66_.out.bel.size (bel1 Z66 (.map #[] 0)) (Nat.le_refl _) (heap_alloc_new Z66 (.map #[] 0))
        obtain ⟨nb, henb⟩ : ∃ nb, Z66.heap.size = nb := ⟨_, rfl⟩
        rw [henb] at HM69_
        generalize Z66.alloc (.map #[] 0) = Z69 at *
        rw [henb]
        clear henb
        clear HL66_ HM66_
        refine hK.out _ _ HL69_.out (fun hHeld => ?_)
        clear hK K
        refine norm_any' (fun K hK => ?_); go_simp; refine hK _ _ ?_; clear hK K
        refine wpAnyH_ready (rs := [3]) (by kernel_rfl) (by simp) (AllReadyH.cons rfl (fun K hK => ?_) AllReadyH.nil)
        go_simp
        have HL70_ : Hid _ := HL69_.out.go (bel1 Z69 (.map #[] 0))
        have HM70_ : Hid _ := HM69_.out.one HL69_.out.bel.size (bel1 Z69 (.map #[] 0)) (Nat.le_refl _) (heap_alloc_new Z69 (.map #[] 0))
        obtain ⟨sb, hesb⟩ : ∃ sb, Z69.heap.size = sb := ⟨_, rfl⟩
        rw [hesb] at HM70_
        generalize Z69.alloc (.map #[] 0) = Z70 at *
        rw [hesb]
        clear hesb
        clear HL69_ HM69_
        refine hK.out _ _ HL70_.out (fun hHeld => ?_)
        clear hK K
        refine norm_any' (fun K hK => ?_); go_simp; refine hK _ _ ?_; clear hK K
        refine wpAnyH_take (i := 17) (v := .agg (tq0 srv x y sb eb nb g0 t0 g1 t1)) rfl (by kernel_rfl) (by kernel_rfl) (by kernel_rfl) (fun _ _ _ h => h) (Or.inl ⟨by rfl, by intro w hs; kernel_rfl⟩) hHeld ?_
        refine norm_any' (fun K hK => ?_); go_simp; refine hK _ _ ?_; clear hK K
        refine wpAnyH_ready (rs := [18]) (by kernel_rfl) (by simp) (AllReadyH.cons rfl (fun K hK => ?_) AllReadyH.nil)
        go_simp
        have HTQ : Hid _ := HM70_.out.tq (srv := srv) (x := x) (y := y) (sb := sb) (eb := eb) (nb := nb) (g0 := g0) (t0 := t0) (g1 := g1) (t1 := t1) (List.Mem.head _) (List.Mem.tail _ (List.Mem.tail _ (List.Mem.tail _ (List.Mem.tail _ (List.Mem.tail _ (List.Mem.tail _ (List.Mem.head _))))))) (List.Mem.tail _ (List.Mem.head _)) (List.Mem.tail _ (List.Mem.tail _ (List.Mem.tail _ (List.Mem.tail _ (List.Mem.tail _ (List.Mem.head _)))))) (List.Mem.tail _ (List.Mem.tail _ (List.Mem.tail _ (List.Mem.tail _ (List.Mem.head _))))) (List.Mem.tail _ (List.Mem.tail _ (List.Mem.tail _ (List.Mem.head _)))) (List.Mem.tail _ (List.Mem.tail _ (List.Mem.head _))) (by
          have hn := HM70_.out.nd
          simp only [List.map_cons, List.map_nil, List.nodup_cons, List.mem_cons, List.not_mem_nil, not_or, or_false, not_false_eq_true, and_true, List.nodup_nil] at hn ⊢
          obtain ⟨⟨ac_, ag_, af_, ae_, ad_, ab_⟩, ⟨cg_, cf_, ce_, cd_, cb_⟩, ⟨gf_, ge_, gd_, gb_⟩, ⟨fe_, fd_, fb_⟩, ⟨ed_, eb_⟩, db_⟩ := hn
          exact ⟨⟨ab_, ac_, ad_, ae_, af_, ag_⟩, ⟨Ne.symm cb_, Ne.symm db_, Ne.symm eb_, Ne.symm fb_, Ne.symm gb_⟩, ⟨cd_, ce_, cf_, cg_⟩, ⟨Ne.symm ed_, Ne.symm fd_, Ne.symm gd_⟩, ⟨Ne.symm fe_, Ne.symm ge_⟩, Ne.symm gf_⟩) HL70_.out.bel.size
        have HLT : Hid _ := HL70_.out.go (bel1 _ (.cells (tq0 srv x y sb eb nb g0 t0 g1 t1) 89))
        refine hK.out _ _ HLT.out (fun hHeld => ?_)
        clear hK K; refine norm_any' (fun K hK => ?_); go_simp; refine hK _ _ ?_; clear hK K
        refine wpAnyH_take (i := 19) rfl (by kernel_rfl) (by kernel_rfl) (by kernel_rfl) (fun _ _ _ h => h) (Or.inl ⟨by rfl, by intro w hs; go_simp; rfl⟩) hHeld ?_
        refine norm_any' (fun K hK => ?_); go_simp; refine hK _ _ ?_; clear hK K
        refine wpAnyH_done (by kernel_rfl) ?_ _
        go_wp2
        go_meet
        case rel => exact ⟨_, sb, eb, nb, g0, t0, g1, t1, rfl, HTQ.out.1, HLT.out, HTQ.out.2⟩
    ·go_simp
     have HL71_ : Hid _ := HL0_.out.go (bel1 Z0 (.map #[] 0))
     have HM71_ : Hid _ := HM0_.out.one HL0_.out.bel.size (bel1 Z0 (.map #[] 0)) (Nat.le_refl _) (heap_alloc_new Z0 (.map #[] 0))
     obtain ⟨nb, henb⟩ : ∃ nb, Z0.heap.size = nb := ⟨_, rfl⟩
     rw [henb] at HM71_
     generalize Z0.alloc (.map #[] 0) = Z71 at *
     rw [henb]
     clear henb
     clear HL0_ HM0_
     refine hK.out _ _ HL71_.out (fun hHeld => ?_)
     clear hK K
     refine norm_any' (fun K hK => ?_); go_simp; refine hK _ _ ?_; clear hK K
     refine wpAnyH_ready (rs := [3, 4, 10]) (by kernel_rfl) (by simp) (AllReadyH.cons rfl (fun K hK => ?_) (AllReadyH.cons rfl (fun K hK => ?_) (AllReadyH.cons rfl (fun K hK => ?_) AllReadyH.nil)))
     ·go_simp
      have HL72_ : Hid _ := HL71_.out.go (bel1 Z71 (.map #[] 0))
      have HM72_ : Hid _ := HM71_.out.one HL71_.out.bel.size (bel1 Z71 (.map #[] 0)) (Nat.le_refl _) (heap_alloc_new Z71 (.map #[] 0))
      obtain ⟨sb, hesb⟩ : ∃ sb, Z71.heap.size = sb := ⟨_, rfl⟩
      rw [hesb] at HM72_
      generalize Z71.alloc (.map #[] 0) = Z72 at *
      rw [hesb]
      clear hesb
      clear HL71_ HM71_
      refine hK.out _ _ HL72_.out (fun hHeld => ?_)
      clear hK K
      refine norm_any' (fun K hK => ?_); go_simp; refine hK _ _ ?_; clear hK K
      refine wpAnyH_ready (rs := [4, 10]) (by kernel_rfl) (by simp) (AllReadyH.cons rfl (fun K hK => ?_) (AllReadyH.cons rfl (fun K hK => ?_) AllReadyH.nil))
      ·go_simp
       have HL73_ : Hid _ := HL72_.out.go (bel1 Z72 (.map #[] 0))
       have HM73_ : Hid _ := HM72_.out.one HL72_.out.bel.size (bel1 Z72 (.map #[] 0)) (Nat.le_refl _) (heap_alloc_new Z72 (.map #[] 0))
       obtain ⟨eb, heeb⟩ : ∃ eb, Z72.heap.size = eb := ⟨_, rfl⟩
       rw [heeb] at HM73_
       generalize Z72.alloc (.map #[] 0) = Z73 at *
       rw [heeb]
       clear heeb
       clear HL72_ HM72_
       refine hK.out _ _ HL73_.out (fun hHeld => ?_)
       clear hK K
       refine norm_any' (fun K hK => ?_); go_simp; refine hK _ _ ?_; clear hK K
       refine wpAnyH_ready (rs := [10]) (by kernel_rfl) (by simp) (AllReadyH.cons rfl (fun K hK => ?_) AllReadyH.nil)
       go_simp
       refine Calls.mono (HK0.out Z73) ?_
       rintro e Z74 ⟨g0, t0, rfl, hga, hta, hlo, hlt, hhi, hbx⟩
       have HL74_ : Hid _ := HL73_.out.go hbx
       have HM74_ : Hid _ := HM73_.out.two HL73_.out.bel.size hbx hlo hlt hga hta
       clear hga hta hlo hlt hhi hbx
       clear HL73_ HM73_
       refine hK.out _ _ HL74_.out (fun hHeld => ?_)
       clear hK K
       refine norm_any' (fun K hK => ?_); go_simp; refine hK _ _ ?_; clear hK K
       refine wpAnyH_ready (rs := [15]) (by kernel_rfl) (by simp) (AllReadyH.cons rfl (fun K hK => ?_) AllReadyH.nil)
       go_simp
       refine Calls.mono (HK1.out Z74) ?_
       rintro e Z75 ⟨g1, t1, rfl, hga, hta, hlo, hlt, hhi, hbx⟩
       have HL75_ : Hid _ := HL74_.out.go hbx
       have HM75_ : Hid _ := HM74_.out.two HL74_.out.bel.size hbx hlo hlt hga hta
       clear hga hta hlo hlt hhi hbx
       clear HL74_ HM74_
       refine hK.out _ _ HL75_.out (fun hHeld => ?_)
       clear hK K
       refine norm_any' (fun K hK => ?_); go_simp; refine hK _ _ ?_; clear hK K
       refine wpAnyH_take (i := 16) (v := .agg #[.pointer (some ⟨g0, 0, none⟩), .int .i64 0, .pointer (some ⟨t0, 0, none⟩), .pointer (some ⟨g1, 0, none⟩), .int .i64 0, .pointer (some ⟨t1, 0, none⟩)]) rfl (by kernel_rfl) (by kernel_rfl) (by kernel_rfl) (fun _ _ _ h => h) (Or.inl ⟨by rfl, by intro w hs; go_simp⟩) hHeld ?_
       refine norm_any' (fun K hK => ?_); go_simp; refine hK _ _ ?_; clear hK K
       refine wpAnyH_take (i := 17) (v := .agg (tq0 srv x y sb eb nb g0 t0 g1 t1)) rfl (by kernel_rfl) (by kernel_rfl) (by kernel_rfl) (fun _ _ _ h => h) (Or.inl ⟨by rfl, by intro w hs; kernel_rfl⟩) hHeld ?_
       refine norm_any' (fun K hK => ?_); go_simp; refine hK _ _ ?_; clear hK K
       refine wpAnyH_ready (rs := [18]) (by kernel_rfl) (by simp) (AllReadyH.cons rfl (fun K hK => ?_) AllReadyH.nil)
       go_simp
       have HTQ : Hid _ := HM75_.out.tq (srv := srv) (x := x) (y := y) (sb := sb) (eb := eb) (nb := nb) (g0 := g0) (t0 := t0) (g1 := g1) (t1 := t1) (List.Mem.tail _ (List.Mem.tail _ (List.Mem.tail _ (List.Mem.tail _ (List.Mem.tail _ (List.Mem.head _)))))) (List.Mem.tail _ (List.Mem.tail _ (List.Mem.tail _ (List.Mem.tail _ (List.Mem.head _))))) (List.Mem.tail _ (List.Mem.tail _ (List.Mem.tail _ (List.Mem.tail _ (List.Mem.tail _ (List.Mem.tail _ (List.Mem.head _))))))) (List.Mem.tail _ (List.Mem.tail _ (List.Mem.tail _ (List.Mem.head _)))) (List.Mem.tail _ (List.Mem.tail _ (List.Mem.head _))) (List.Mem.tail _ (List.Mem.head _)) (List.Mem.head _) (by
         have hn := HM75_.out.nd
         simp only [List.map_cons, List.map_nil, List.nodup_cons, List.mem_cons, List.not_mem_nil, not_or, or_false, not_false_eq_true, and_true, List.nodup_nil] at hn ⊢
         obtain ⟨⟨gf_, ge_, gd_, gb_, ga_, gc_⟩, ⟨fe_, fd_, fb_, fa_, fc_⟩, ⟨ed_, eb_, ea_, ec_⟩, ⟨db_, da_, dc_⟩, ⟨ba_, bc_⟩, ac_⟩ := hn
         exact ⟨⟨Ne.symm ba_, ac_, Ne.symm da_, Ne.symm ea_, Ne.symm fa_, Ne.symm ga_⟩, ⟨bc_, Ne.symm db_, Ne.symm eb_, Ne.symm fb_, Ne.symm gb_⟩, ⟨Ne.symm dc_, Ne.symm ec_, Ne.symm fc_, Ne.symm gc_⟩, ⟨Ne.symm ed_, Ne.symm fd_, Ne.symm gd_⟩, ⟨Ne.symm fe_, Ne.symm ge_⟩, Ne.symm gf_⟩) HL75_.out.bel.size
       have HLT : Hid _ := HL75_.out.go (bel1 _ (.cells (tq0 srv x y sb eb nb g0 t0 g1 t1) 89))
       refine hK.out _ _ HLT.out (fun hHeld => ?_)
       clear hK K; refine norm_any' (fun K hK => ?_); go_simp; refine hK _ _ ?_; clear hK K
       refine wpAnyH_take (i := 19) rfl (by kernel_rfl) (by kernel_rfl) (by kernel_rfl) (fun _ _ _ h => h) (Or.inl ⟨by rfl, by intro w hs; go_simp; rfl⟩) hHeld ?_
       refine norm_any' (fun K hK => ?_); go_simp; refine hK _ _ ?_; clear hK K
       refine wpAnyH_done (by kernel_rfl) ?_ _
       go_wp2
       go_meet
       case rel => exact ⟨_, sb, eb, nb, g0, t0, g1, t1, rfl, HTQ.out.1, HLT.out, HTQ.out.2⟩
      ·go_simp
       refine Calls.mono (HK0.out Z72) ?_
       rintro e Z76 ⟨g0, t0, rfl, hga, hta, hlo, hlt, hhi, hbx⟩
       have HL76_ : Hid _ := HL72_.out.go hbx
       have HM76_ : Hid _ := HM72_.out.two HL72_.out.bel.size hbx hlo hlt hga hta
       clear hga hta hlo hlt hhi hbx
       clear HL72_ HM72_
       refine hK.out _ _ HL76_.out (fun hHeld => ?_)
       clear hK K
       refine norm_any' (fun K hK => ?_); go_simp; refine hK _ _ ?_; clear hK K
       refine wpAnyH_ready (rs := [4, 15]) (by kernel_rfl) (by simp) (AllReadyH.cons rfl (fun K hK => ?_) (AllReadyH.cons rfl (fun K hK => ?_) AllReadyH.nil))
       ·go_simp
        have HL77_ : Hid _ := HL76_.out.go (bel1 Z76 (.map #[] 0))
        have HM77_ : Hid _ := HM76_.out.one HL76_.out.bel.size (bel1 Z76 (.map #[] 0)) (Nat.le_refl _) (heap_alloc_new Z76 (.map #[] 0))
        obtain ⟨eb, heeb⟩ : ∃ eb, Z76.heap.size = eb := ⟨_, rfl⟩
        rw [heeb] at HM77_
        generalize Z76.alloc (.map #[] 0) = Z77 at *
        rw [heeb]
        clear heeb
        clear HL76_ HM76_
        refine hK.out _ _ HL77_.out (fun hHeld => ?_)
        clear hK K
        refine norm_any' (fun K hK => ?_); go_simp; refine hK _ _ ?_; clear hK K
        refine wpAnyH_ready (rs := [15]) (by kernel_rfl) (by simp) (AllReadyH.cons rfl (fun K hK => ?_) AllReadyH.nil)
        go_simp
        refine Calls.mono (HK1.out Z77) ?_
        rintro e Z78 ⟨g1, t1, rfl, hga, hta, hlo, hlt, hhi, hbx⟩
        have HL78_ : Hid _ := HL77_.out.go hbx
        have HM78_ : Hid _ := HM77_.out.two HL77_.out.bel.size hbx hlo hlt hga hta
        clear hga hta hlo hlt hhi hbx
        clear HL77_ HM77_
        refine hK.out _ _ HL78_.out (fun hHeld => ?_)
        clear hK K
        refine norm_any' (fun K hK => ?_); go_simp; refine hK _ _ ?_; clear hK K
        refine wpAnyH_take (i := 16) (v := .agg #[.pointer (some ⟨g0, 0, none⟩), .int .i64 0, .pointer (some ⟨t0, 0, none⟩), .pointer (some ⟨g1, 0, none⟩), .int .i64 0, .pointer (some ⟨t1, 0, none⟩)]) rfl (by kernel_rfl) (by kernel_rfl) (by kernel_rfl) (fun _ _ _ h => h) (Or.inl ⟨by rfl, by intro w hs; go_simp⟩) hHeld ?_
        refine norm_any' (fun K hK => ?_); go_simp; refine hK _ _ ?_; clear hK K
        refine wpAnyH_take (i := 17) (v := .agg (tq0 srv x y sb eb nb g0 t0 g1 t1)) rfl (by kernel_rfl) (by kernel_rfl) (by kernel_rfl) (fun _ _ _ h => h) (Or.inl ⟨by rfl, by intro w hs; kernel_rfl⟩) hHeld ?_
        refine norm_any' (fun K hK => ?_); go_simp; refine hK _ _ ?_; clear hK K
        refine wpAnyH_ready (rs := [18]) (by kernel_rfl) (by simp) (AllReadyH.cons rfl (fun K hK => ?_) AllReadyH.nil)
        go_simp
        have HTQ : Hid _ := HM78_.out.tq (srv := srv) (x := x) (y := y) (sb := sb) (eb := eb) (nb := nb) (g0 := g0) (t0 := t0) (g1 := g1) (t1 := t1) (List.Mem.tail _ (List.Mem.tail _ (List.Mem.tail _ (List.Mem.tail _ (List.Mem.tail _ (List.Mem.head _)))))) (List.Mem.tail _ (List.Mem.tail _ (List.Mem.head _))) (List.Mem.tail _ (List.Mem.tail _ (List.Mem.tail _ (List.Mem.tail _ (List.Mem.tail _ (List.Mem.tail _ (List.Mem.head _))))))) (List.Mem.tail _ (List.Mem.tail _ (List.Mem.tail _ (List.Mem.tail _ (List.Mem.head _))))) (List.Mem.tail _ (List.Mem.tail _ (List.Mem.tail _ (List.Mem.head _)))) (List.Mem.tail _ (List.Mem.head _)) (List.Mem.head _) (by
          have hn := HM78_.out.nd
          simp only [List.map_cons, List.map_nil, List.nodup_cons, List.mem_cons, List.not_mem_nil, not_or, or_false, not_false_eq_true, and_true, List.nodup_nil] at hn ⊢
          obtain ⟨⟨gf_, gb_, ge_, gd_, ga_, gc_⟩, ⟨fb_, fe_, fd_, fa_, fc_⟩, ⟨be_, bd_, ba_, bc_⟩, ⟨ed_, ea_, ec_⟩, ⟨da_, dc_⟩, ac_⟩ := hn
          exact ⟨⟨Ne.symm ba_, ac_, Ne.symm da_, Ne.symm ea_, Ne.symm fa_, Ne.symm ga_⟩, ⟨bc_, bd_, be_, Ne.symm fb_, Ne.symm gb_⟩, ⟨Ne.symm dc_, Ne.symm ec_, Ne.symm fc_, Ne.symm gc_⟩, ⟨Ne.symm ed_, Ne.symm fd_, Ne.symm gd_⟩, ⟨Ne.symm fe_, Ne.symm ge_⟩, Ne.symm gf_⟩) HL78_.out.bel.size
        have HLT : Hid _ := HL78_.out.go (bel1 _ (.cells (tq0 srv x y sb eb nb g0 t0 g1 t1) 89))
        refine hK.out _ _ HLT.out (fun hHeld => ?_)
        clear hK K; refine norm_any' (fun K hK => ?_); go_simp; refine hK _ _ ?_; clear hK K
        refine wpAnyH_take (i := 19) rfl (by kernel_rfl) (by kernel_rfl) (by kernel_rfl) (fun _ _ _ h => h) (Or.inl ⟨by rfl, by intro w hs; go_simp; rfl⟩) hHeld ?_
        refine norm_any' (fun K hK => ?_); go_simp; refine hK _ _ ?_; clear hK K
        refine wpAnyH_done (by kernel_rfl) ?_ _
        go_wp2
        go_meet
        case rel => exact ⟨_, sb, eb, nb, g0, t0, g1, t1, rfl, HTQ.out.1, HLT.out, HTQ.out.2⟩
       ·go_simp
        refine Calls.mono (HK1.out Z76) ?_
        rintro e Z79 ⟨g1, t1, rfl, hga, hta, hlo, hlt, hhi, hbx⟩
        have HL79_ : Hid _ := HL76_.out.go hbx
        have HM79_ : Hid _ := HM76_.out.two HL76_.out.bel.size hbx hlo hlt hga hta
        clear hga hta hlo hlt hhi hbx
        clear HL76_ HM76_
        refine hK.out _ _ HL79_.out (fun hHeld => ?_)
        clear hK K
        refine norm_any' (fun K hK => ?_); go_simp; refine hK _ _ ?_; clear hK K
        refine wpAnyH_take (i := 16) (v := .agg #[.pointer (some ⟨g0, 0, none⟩), .int .i64 0, .pointer (some ⟨t0, 0, none⟩), .pointer (some ⟨g1, 0, none⟩), .int .i64 0, .pointer (some ⟨t1, 0, none⟩)]) rfl (by kernel_rfl) (by kernel_rfl) (by kernel_rfl) (fun _ _ _ h => h) (Or.inl ⟨by rfl, by intro w hs; go_simp⟩) hHeld ?_
        refine norm_any' (fun K hK => ?_); go_simp; refine hK _ _ ?_; clear hK K
        refine wpAnyH_ready (rs := [4]) (by kernel_rfl) (by simp) (AllReadyH.cons rfl (fun K hK => ?_) AllReadyH.nil)
        go_simp
        have HL80_ : Hid _ := HL79_.out.go (bel1 Z79 (.map #[] 0))
        have HM80_ : Hid _ := HM79_.out.one HL79_.out.bel.size (bel1 Z79 (.map #[] 0)) (Nat.le_refl _) (heap_alloc_new Z79 (.map #[] 0))
        obtain ⟨eb, heeb⟩ : ∃ eb, Z79.heap.size = eb := ⟨_, rfl⟩
        rw [heeb] at HM80_
        generalize Z79.alloc (.map #[] 0) = Z80 at *
        rw [heeb]
        clear heeb
        clear HL79_ HM79_
        refine hK.out _ _ HL80_.out (fun hHeld => ?_)
        clear hK K
        refine norm_any' (fun K hK => ?_); go_simp; refine hK _ _ ?_; clear hK K
        refine wpAnyH_take (i := 17) (v := .agg (tq0 srv x y sb eb nb g0 t0 g1 t1)) rfl (by kernel_rfl) (by kernel_rfl) (by kernel_rfl) (fun _ _ _ h => h) (Or.inl ⟨by rfl, by intro w hs; kernel_rfl⟩) hHeld ?_
        refine norm_any' (fun K hK => ?_); go_simp; refine hK _ _ ?_; clear hK K
        refine wpAnyH_ready (rs := [18]) (by kernel_rfl) (by simp) (AllReadyH.cons rfl (fun K hK => ?_) AllReadyH.nil)
        go_simp
        have HTQ : Hid _ := HM80_.out.tq (srv := srv) (x := x) (y := y) (sb := sb) (eb := eb) (nb := nb) (g0 := g0) (t0 := t0) (g1 := g1) (t1 := t1) (List.Mem.tail _ (List.Mem.tail _ (List.Mem.tail _ (List.Mem.tail _ (List.Mem.tail _ (List.Mem.head _)))))) (List.Mem.head _) (List.Mem.tail _ (List.Mem.tail _ (List.Mem.tail _ (List.Mem.tail _ (List.Mem.tail _ (List.Mem.tail _ (List.Mem.head _))))))) (List.Mem.tail _ (List.Mem.tail _ (List.Mem.tail _ (List.Mem.tail _ (List.Mem.head _))))) (List.Mem.tail _ (List.Mem.tail _ (List.Mem.tail _ (List.Mem.head _)))) (List.Mem.tail _ (List.Mem.tail _ (List.Mem.head _))) (List.Mem.tail _ (List.Mem.head _)) (by
          have hn := HM80_.out.nd
          simp only [List.map_cons, List.map_nil, List.nodup_cons, List.mem_cons, List.not_mem_nil, not_or, or_false, not_false_eq_true, and_true, List.nodup_nil] at hn ⊢
          obtain ⟨⟨bg_, bf_, be_, bd_, ba_, bc_⟩, ⟨gf_, ge_, gd_, ga_, gc_⟩, ⟨fe_, fd_, fa_, fc_⟩, ⟨ed_, ea_, ec_⟩, ⟨da_, dc_⟩, ac_⟩ := hn
          exact ⟨⟨Ne.symm ba_, ac_, Ne.symm da_, Ne.symm ea_, Ne.symm fa_, Ne.symm ga_⟩, ⟨bc_, bd_, be_, bf_, bg_⟩, ⟨Ne.symm dc_, Ne.symm ec_, Ne.symm fc_, Ne.symm gc_⟩, ⟨Ne.symm ed_, Ne.symm fd_, Ne.symm gd_⟩, ⟨Ne.symm fe_, Ne.symm ge_⟩, Ne.symm gf_⟩) HL80_.out.bel.size
        have HLT : Hid _ := HL80_.out.go (bel1 _ (.cells (tq0 srv x y sb eb nb g0 t0 g1 t1) 89))
        refine hK.out _ _ HLT.out (fun hHeld => ?_)
        clear hK K; refine norm_any' (fun K hK => ?_); go_simp; refine hK _ _ ?_; clear hK K
        refine wpAnyH_take (i := 19) rfl (by kernel_rfl) (by kernel_rfl) (by kernel_rfl) (fun _ _ _ h => h) (Or.inl ⟨by rfl, by intro w hs; go_simp; rfl⟩) hHeld ?_
        refine norm_any' (fun K hK => ?_); go_simp; refine hK _ _ ?_; clear hK K
        refine wpAnyH_done (by kernel_rfl) ?_ _
        go_wp2
        go_meet
        case rel => exact ⟨_, sb, eb, nb, g0, t0, g1, t1, rfl, HTQ.out.1, HLT.out, HTQ.out.2⟩
     ·go_simp
      have HL81_ : Hid _ := HL71_.out.go (bel1 Z71 (.map #[] 0))
      have HM81_ : Hid _ := HM71_.out.one HL71_.out.bel.size (bel1 Z71 (.map #[] 0)) (Nat.le_refl _) (heap_alloc_new Z71 (.map #[] 0))
      obtain ⟨eb, heeb⟩ : ∃ eb, Z71.heap.size = eb := ⟨_, rfl⟩
      rw [heeb] at HM81_
      generalize Z71.alloc (.map #[] 0) = Z81 at *
      rw [heeb]
      clear heeb
      clear HL71_ HM71_
      refine hK.out _ _ HL81_.out (fun hHeld => ?_)
      clear hK K
      refine norm_any' (fun K hK => ?_); go_simp; refine hK _ _ ?_; clear hK K
      refine wpAnyH_ready (rs := [3, 10]) (by kernel_rfl) (by simp) (AllReadyH.cons rfl (fun K hK => ?_) (AllReadyH.cons rfl (fun K hK => ?_) AllReadyH.nil))
      ·go_simp
       have HL82_ : Hid _ := HL81_.out.go (bel1 Z81 (.map #[] 0))
       have HM82_ : Hid _ := HM81_.out.one HL81_.out.bel.size (bel1 Z81 (.map #[] 0)) (Nat.le_refl _) (heap_alloc_new Z81 (.map #[] 0))
       obtain ⟨sb, hesb⟩ : ∃ sb, Z81.heap.size = sb := ⟨_, rfl⟩
       rw [hesb] at HM82_
       generalize Z81.alloc (.map #[] 0) = Z82 at *
       rw [hesb]
       clear hesb
       clear HL81_ HM81_
       refine hK.out _ _ HL82_.out (fun hHeld => ?_)
       clear hK K
       refine norm_any' (fun K hK => ?_); go_simp; refine hK _ _ ?_; clear hK K
       refine wpAnyH_ready (rs := [10]) (by kernel_rfl) (by simp) (AllReadyH.cons rfl (fun K hK => ?_) AllReadyH.nil)
       go_simp
       refine Calls.mono (HK0.out Z82) ?_
       rintro e Z83 ⟨g0, t0, rfl, hga, hta, hlo, hlt, hhi, hbx⟩
       have HL83_ : Hid _ := HL82_.out.go hbx
       have HM83_ : Hid _ := HM82_.out.two HL82_.out.bel.size hbx hlo hlt hga hta
       clear hga hta hlo hlt hhi hbx
       clear HL82_ HM82_
       refine hK.out _ _ HL83_.out (fun hHeld => ?_)
       clear hK K
       refine norm_any' (fun K hK => ?_); go_simp; refine hK _ _ ?_; clear hK K
       refine wpAnyH_ready (rs := [15]) (by kernel_rfl) (by simp) (AllReadyH.cons rfl (fun K hK => ?_) AllReadyH.nil)
       go_simp
       refine Calls.mono (HK1.out Z83) ?_
       rintro e Z84 ⟨g1, t1, rfl, hga, hta, hlo, hlt, hhi, hbx⟩
       have HL84_ : Hid _ := HL83_.out.go hbx
       have HM84_ : Hid _ := HM83_.out.two HL83_.out.bel.size hbx hlo hlt hga hta
       clear hga hta hlo hlt hhi hbx
       clear HL83_ HM83_
       refine hK.out _ _ HL84_.out (fun hHeld => ?_)
       clear hK K
       refine norm_any' (fun K hK => ?_); go_simp; refine hK _ _ ?_; clear hK K
       refine wpAnyH_take (i := 16) (v := .agg #[.pointer (some ⟨g0, 0, none⟩), .int .i64 0, .pointer (some ⟨t0, 0, none⟩), .pointer (some ⟨g1, 0, none⟩), .int .i64 0, .pointer (some ⟨t1, 0, none⟩)]) rfl (by kernel_rfl) (by kernel_rfl) (by kernel_rfl) (fun _ _ _ h => h) (Or.inl ⟨by rfl, by intro w hs; go_simp⟩) hHeld ?_
       refine norm_any' (fun K hK => ?_); go_simp; refine hK _ _ ?_; clear hK K
       refine wpAnyH_take (i := 17) (v := .agg (tq0 srv x y sb eb nb g0 t0 g1 t1)) rfl (by kernel_rfl) (by kernel_rfl) (by kernel_rfl) (fun _ _ _ h => h) (Or.inl ⟨by rfl, by intro w hs; kernel_rfl⟩) hHeld ?_
       refine norm_any' (fun K hK => ?_); go_simp; refine hK _ _ ?_; clear hK K
       refine wpAnyH_ready (rs := [18]) (by kernel_rfl) (by simp) (AllReadyH.cons rfl (fun K hK => ?_) AllReadyH.nil)
       go_simp
       have HTQ : Hid _ := HM84_.out.tq (srv := srv) (x := x) (y := y) (sb := sb) (eb := eb) (nb := nb) (g0 := g0) (t0 := t0) (g1 := g1) (t1 := t1) (List.Mem.tail _ (List.Mem.tail _ (List.Mem.tail _ (List.Mem.tail _ (List.Mem.head _))))) (List.Mem.tail _ (List.Mem.tail _ (List.Mem.tail _ (List.Mem.tail _ (List.Mem.tail _ (List.Mem.head _)))))) (List.Mem.tail _ (List.Mem.tail _ (List.Mem.tail _ (List.Mem.tail _ (List.Mem.tail _ (List.Mem.tail _ (List.Mem.head _))))))) (List.Mem.tail _ (List.Mem.tail _ (List.Mem.tail _ (List.Mem.head _)))) (List.Mem.tail _ (List.Mem.tail _ (List.Mem.head _))) (List.Mem.tail _ (List.Mem.head _)) (List.Mem.head _) (by
         have hn := HM84_.out.nd
         simp only [List.map_cons, List.map_nil, List.nodup_cons, List.mem_cons, List.not_mem_nil, not_or, or_false, not_false_eq_true, and_true, List.nodup_nil] at hn ⊢
         obtain ⟨⟨gf_, ge_, gd_, ga_, gb_, gc_⟩, ⟨fe_, fd_, fa_, fb_, fc_⟩, ⟨ed_, ea_, eb_, ec_⟩, ⟨da_, db_, dc_⟩, ⟨ab_, ac_⟩, bc_⟩ := hn
         exact ⟨⟨ab_, ac_, Ne.symm da_, Ne.symm ea_, Ne.symm fa_, Ne.symm ga_⟩, ⟨bc_, Ne.symm db_, Ne.symm eb_, Ne.symm fb_, Ne.symm gb_⟩, ⟨Ne.symm dc_, Ne.symm ec_, Ne.symm fc_, Ne.symm gc_⟩, ⟨Ne.symm ed_, Ne.symm fd_, Ne.symm gd_⟩, ⟨Ne.symm fe_, Ne.symm ge_⟩, Ne.symm gf_⟩) HL84_.out.bel.size
       have HLT : Hid _ := HL84_.out.go (bel1 _ (.cells (tq0 srv x y sb eb nb g0 t0 g1 t1) 89))
       refine hK.out _ _ HLT.out (fun hHeld => ?_)
       clear hK K; refine norm_any' (fun K hK => ?_); go_simp; refine hK _ _ ?_; clear hK K
       refine wpAnyH_take (i := 19) rfl (by kernel_rfl) (by kernel_rfl) (by kernel_rfl) (fun _ _ _ h => h) (Or.inl ⟨by rfl, by intro w hs; go_simp; rfl⟩) hHeld ?_
       refine norm_any' (fun K hK => ?_); go_simp; refine hK _ _ ?_; clear hK K
       refine wpAnyH_done (by kernel_rfl) ?_ _
       go_wp2
       go_meet
       case rel => exact ⟨_, sb, eb, nb, g0, t0, g1, t1, rfl, HTQ.out.1, HLT.out, HTQ.out.2⟩
      ·go_simp
       refine Calls.mono (HK0.out Z81) ?_
       rintro e Z85 ⟨g0, t0, rfl, hga, hta, hlo, hlt, hhi, hbx⟩
       have HL85_ : Hid _ := HL81_.out.go hbx
       have HM85_ : Hid _ := HM81_.out.two HL81_.out.bel.size hbx hlo hlt hga hta
       clear hga hta hlo hlt hhi hbx
       clear HL81_ HM81_
       refine hK.out _ _ HL85_.out (fun hHeld => ?_)
       clear hK K
       refine norm_any' (fun K hK => ?_); go_simp; refine hK _ _ ?_; clear hK K
       refine wpAnyH_ready (rs := [3, 15]) (by kernel_rfl) (by simp) (AllReadyH.cons rfl (fun K hK => ?_) (AllReadyH.cons rfl (fun K hK => ?_) AllReadyH.nil))
       ·go_simp
        have HL86_ : Hid _ := HL85_.out.go (bel1 Z85 (.map #[] 0))
        have HM86_ : Hid _ := HM85_.out.one HL85_.out.bel.size (bel1 Z85 (.map #[] 0)) (Nat.le_refl _) (heap_alloc_new Z85 (.map #[] 0))
        obtain ⟨sb, hesb⟩ : ∃ sb, Z85.heap.size = sb := ⟨_, rfl⟩
        rw [hesb] at HM86_
        generalize Z85.alloc (.map #[] 0) = Z86 at *
        rw [hesb]
        clear hesb
        clear HL85_ HM85_
        refine hK.out _ _ HL86_.out (fun hHeld => ?_)
        clear hK K
        refine norm_any' (fun K hK => ?_); go_simp; refine hK _ _ ?_; clear hK K
        refine wpAnyH_ready (rs := [15]) (by kernel_rfl) (by simp) (AllReadyH.cons rfl (fun K hK => ?_) AllReadyH.nil)
        go_simp
        refine Calls.mono (HK1.out Z86) ?_
        rintro e Z87 ⟨g1, t1, rfl, hga, hta, hlo, hlt, hhi, hbx⟩
        have HL87_ : Hid _ := HL86_.out.go hbx
        have HM87_ : Hid _ := HM86_.out.two HL86_.out.bel.size hbx hlo hlt hga hta
        clear hga hta hlo hlt hhi hbx
        clear HL86_ HM86_
        refine hK.out _ _ HL87_.out (fun hHeld => ?_)
        clear hK K
        refine norm_any' (fun K hK => ?_); go_simp; refine hK _ _ ?_; clear hK K
        refine wpAnyH_take (i := 16) (v := .agg #[.pointer (some ⟨g0, 0, none⟩), .int .i64 0, .pointer (some ⟨t0, 0, none⟩), .pointer (some ⟨g1, 0, none⟩), .int .i64 0, .pointer (some ⟨t1, 0, none⟩)]) rfl (by kernel_rfl) (by kernel_rfl) (by kernel_rfl) (fun _ _ _ h => h) (Or.inl ⟨by rfl, by intro w hs; go_simp⟩) hHeld ?_
        refine norm_any' (fun K hK => ?_); go_simp; refine hK _ _ ?_; clear hK K
        refine wpAnyH_take (i := 17) (v := .agg (tq0 srv x y sb eb nb g0 t0 g1 t1)) rfl (by kernel_rfl) (by kernel_rfl) (by kernel_rfl) (fun _ _ _ h => h) (Or.inl ⟨by rfl, by intro w hs; kernel_rfl⟩) hHeld ?_
        refine norm_any' (fun K hK => ?_); go_simp; refine hK _ _ ?_; clear hK K
        refine wpAnyH_ready (rs := [18]) (by kernel_rfl) (by simp) (AllReadyH.cons rfl (fun K hK => ?_) AllReadyH.nil)
        go_simp
        have HTQ : Hid _ := HM87_.out.tq (srv := srv) (x := x) (y := y) (sb := sb) (eb := eb) (nb := nb) (g0 := g0) (t0 := t0) (g1 := g1) (t1 := t1) (List.Mem.tail _ (List.Mem.tail _ (List.Mem.head _))) (List.Mem.tail _ (List.Mem.tail _ (List.Mem.tail _ (List.Mem.tail _ (List.Mem.tail _ (List.Mem.head _)))))) (List.Mem.tail _ (List.Mem.tail _ (List.Mem.tail _ (List.Mem.tail _ (List.Mem.tail _ (List.Mem.tail _ (List.Mem.head _))))))) (List.Mem.tail _ (List.Mem.tail _ (List.Mem.tail _ (List.Mem.tail _ (List.Mem.head _))))) (List.Mem.tail _ (List.Mem.tail _ (List.Mem.tail _ (List.Mem.head _)))) (List.Mem.tail _ (List.Mem.head _)) (List.Mem.head _) (by
          have hn := HM87_.out.nd
          simp only [List.map_cons, List.map_nil, List.nodup_cons, List.mem_cons, List.not_mem_nil, not_or, or_false, not_false_eq_true, and_true, List.nodup_nil] at hn ⊢
          obtain ⟨⟨gf_, ga_, ge_, gd_, gb_, gc_⟩, ⟨fa_, fe_, fd_, fb_, fc_⟩, ⟨ae_, ad_, ab_, ac_⟩, ⟨ed_, eb_, ec_⟩, ⟨db_, dc_⟩, bc_⟩ := hn
          exact ⟨⟨ab_, ac_, ad_, ae_, Ne.symm fa_, Ne.symm ga_⟩, ⟨bc_, Ne.symm db_, Ne.symm eb_, Ne.symm fb_, Ne.symm gb_⟩, ⟨Ne.symm dc_, Ne.symm ec_, Ne.symm fc_, Ne.symm gc_⟩, ⟨Ne.symm ed_, Ne.symm fd_, Ne.symm gd_⟩, ⟨Ne.symm fe_, Ne.symm ge_⟩, Ne.symm gf_⟩) HL87_.out.bel.size
        have HLT : Hid _ := HL87_.out.go (bel1 _ (.cells (tq0 srv x y sb eb nb g0 t0 g1 t1) 89))
        refine hK.out _ _ HLT.out (fun hHeld => ?_)
        clear hK K; refine norm_any' (fun K hK => ?_); go_simp; refine hK _ _ ?_; clear hK K
        refine wpAnyH_take (i := 19) rfl (by kernel_rfl) (by kernel_rfl) (by kernel_rfl) (fun _ _ _ h => h) (Or.inl ⟨by rfl, by intro w hs; go_simp; rfl⟩) hHeld ?_
        refine norm_any' (fun K hK => ?_); go_simp; refine hK _ _ ?_; clear hK K
        refine wpAnyH_done (by kernel_rfl) ?_ _
        go_wp2
        go_meet
        case rel => exact ⟨_, sb, eb, nb, g0, t0, g1, t1, rfl, HTQ.out.1, HLT.out, HTQ.out.2⟩
       ·go_simp
        refine Calls.mono (HK1.out Z85) ?_
        rintro e Z88 ⟨g1, t1, rfl, hga, hta, hlo, hlt, hhi, hbx⟩
        have HL88_ : Hid _ := HL85_.out.go hbx
        have HM88_ : Hid _ := HM85_.out.two HL85_.out.bel.size hbx hlo hlt hga hta
        clear hga hta hlo hlt hhi hbx
        clear HL85_ HM85_
        refine hK.out _ _ HL88_.out (fun hHeld => ?_)
        clear hK K
        refine norm_any' (fun K hK => ?_); go_simp; refine hK _ _ ?_; clear hK K
        refine wpAnyH_take (i := 16) (v := .agg #[.pointer (some ⟨g0, 0, none⟩), .int .i64 0, .pointer (some ⟨t0, 0, none⟩), .pointer (some ⟨g1, 0, none⟩), .int .i64 0, .pointer (some ⟨t1, 0, none⟩)]) rfl (by kernel_rfl) (by kernel_rfl) (by kernel_rfl) (fun _ _ _ h => h) (Or.inl ⟨by rfl, by intro w hs; go_simp⟩) hHeld ?_
        refine norm_any' (fun K hK => ?_); go_simp; refine hK _ _ ?_; clear hK K
        refine wpAnyH_ready (rs := [3]) (by kernel_rfl) (by simp) (AllReadyH.cons rfl (fun K hK => ?_) AllReadyH.nil)
        go_simp
        have HL89_ : Hid _ := HL88_.out.go (bel1 Z88 (.map #[] 0))
        have HM89_ : Hid _ := HM88_.out.one HL88_.out.bel.size (bel1 Z88 (.map #[] 0)) (Nat.le_refl _) (heap_alloc_new Z88 (.map #[] 0))
        obtain ⟨sb, hesb⟩ : ∃ sb, Z88.heap.size = sb := ⟨_, rfl⟩
        rw [hesb] at HM89_
        generalize Z88.alloc (.map #[] 0) = Z89 at *
        rw [hesb]
        clear hesb
        clear HL88_ HM88_
        refine hK.out _ _ HL89_.out (fun hHeld => ?_)
        clear hK K
        refine norm_any' (fun K hK => ?_); go_simp; refine hK _ _ ?_; clear hK K
        refine wpAnyH_take (i := 17) (v := .agg (tq0 srv x y sb eb nb g0 t0 g1 t1)) rfl (by kernel_rfl) (by kernel_rfl) (by kernel_rfl) (fun _ _ _ h => h) (Or.inl ⟨by rfl, by intro w hs; kernel_rfl⟩) hHeld ?_
        refine norm_any' (fun K hK => ?_); go_simp; refine hK _ _ ?_; clear hK K
        refine wpAnyH_ready (rs := [18]) (by kernel_rfl) (by simp) (AllReadyH.cons rfl (fun K hK => ?_) AllReadyH.nil)
        go_simp
        have HTQ : Hid _ := HM89_.out.tq (srv := srv) (x := x) (y := y) (sb := sb) (eb := eb) (nb := nb) (g0 := g0) (t0 := t0) (g1 := g1) (t1 := t1) (List.Mem.head _) (List.Mem.tail _ (List.Mem.tail _ (List.Mem.tail _ (List.Mem.tail _ (List.Mem.tail _ (List.Mem.head _)))))) (List.Mem.tail _ (List.Mem.tail _ (List.Mem.tail _ (List.Mem.tail _ (List.Mem.tail _ (List.Mem.tail _ (List.Mem.head _))))))) (List.Mem.tail _ (List.Mem.tail _ (List.Mem.tail _ (List.Mem.tail _ (List.Mem.head _))))) (List.Mem.tail _ (List.Mem.tail _ (List.Mem.tail _ (List.Mem.head _)))) (List.Mem.tail _ (List.Mem.tail _ (List.Mem.head _))) (List.Mem.tail _ (List.Mem.head _)) (by
          have hn := HM89_.out.nd
          simp only [List.map_cons, List.map_nil, List.nodup_cons, List.mem_cons, List.not_mem_nil, not_or, or_false, not_false_eq_true, and_true, List.nodup_nil] at hn ⊢
          obtain ⟨⟨ag_, af_, ae_, ad_, ab_, ac_⟩, ⟨gf_, ge_, gd_, gb_, gc_⟩, ⟨fe_, fd_, fb_, fc_⟩, ⟨ed_, eb_, ec_⟩, ⟨db_, dc_⟩, bc_⟩ := hn
          exact ⟨⟨ab_, ac_, ad_, ae_, af_, ag_⟩, ⟨bc_, Ne.symm db_, Ne.symm eb_, Ne.symm fb_, Ne.symm gb_⟩, ⟨Ne.symm dc_, Ne.symm ec_, Ne.symm fc_, Ne.symm gc_⟩, ⟨Ne.symm ed_, Ne.symm fd_, Ne.symm gd_⟩, ⟨Ne.symm fe_, Ne.symm ge_⟩, Ne.symm gf_⟩) HL89_.out.bel.size
        have HLT : Hid _ := HL89_.out.go (bel1 _ (.cells (tq0 srv x y sb eb nb g0 t0 g1 t1) 89))
        refine hK.out _ _ HLT.out (fun hHeld => ?_)
        clear hK K; refine norm_any' (fun K hK => ?_); go_simp; refine hK _ _ ?_; clear hK K
        refine wpAnyH_take (i := 19) rfl (by kernel_rfl) (by kernel_rfl) (by kernel_rfl) (fun _ _ _ h => h) (Or.inl ⟨by rfl, by intro w hs; go_simp; rfl⟩) hHeld ?_
        refine norm_any' (fun K hK => ?_); go_simp; refine hK _ _ ?_; clear hK K
        refine wpAnyH_done (by kernel_rfl) ?_ _
        go_wp2
        go_meet
        case rel => exact ⟨_, sb, eb, nb, g0, t0, g1, t1, rfl, HTQ.out.1, HLT.out, HTQ.out.2⟩
     ·go_simp
      refine Calls.mono (HK0.out Z71) ?_
      rintro e Z90 ⟨g0, t0, rfl, hga, hta, hlo, hlt, hhi, hbx⟩
      have HL90_ : Hid _ := HL71_.out.go hbx
      have HM90_ : Hid _ := HM71_.out.two HL71_.out.bel.size hbx hlo hlt hga hta
      clear hga hta hlo hlt hhi hbx
      clear HL71_ HM71_
      refine hK.out _ _ HL90_.out (fun hHeld => ?_)
      clear hK K
      refine norm_any' (fun K hK => ?_); go_simp; refine hK _ _ ?_; clear hK K
      refine wpAnyH_ready (rs := [3, 4, 15]) (by kernel_rfl) (by simp) (AllReadyH.cons rfl (fun K hK => ?_) (AllReadyH.cons rfl (fun K hK => ?_) (AllReadyH.cons rfl (fun K hK => ?_) AllReadyH.nil)))
      ·go_simp
       have HL91_ : Hid _ := HL90_.out.go (bel1 Z90 (.map #[] 0))
       have HM91_ : Hid _ := HM90_.out.one HL90_.out.bel.size (bel1 Z90 (.map #[] 0)) (Nat.le_refl _) (heap_alloc_new Z90 (.map #[] 0))
       obtain ⟨sb, hesb⟩ : ∃ sb, Z90.heap.size = sb := ⟨_, rfl⟩
       rw [hesb] at HM91_
       generalize Z90.alloc (.map #[] 0) = Z91 at *
       rw [hesb]
       clear hesb
       clear HL90_ HM90_
       refine hK.out _ _ HL91_.out (fun hHeld => ?_)
       clear hK K
       refine norm_any' (fun K hK => ?_); go_simp; refine hK _ _ ?_; clear hK K
       refine wpAnyH_ready (rs := [4, 15]) (by kernel_rfl) (by simp) (AllReadyH.cons rfl (fun K hK => ?_) (AllReadyH.cons rfl (fun K hK => ?_) AllReadyH.nil))
       ·go_simp
        have HL92_ : Hid _ := HL91_.out.go (bel1 Z91 (.map #[] 0))
        have HM92_ : Hid _ := HM91_.out.one HL91_.out.bel.size (bel1 Z91 (.map #[] 0)) (Nat.le_refl _) (heap_alloc_new Z91 (.map #[] 0))
        obtain ⟨eb, heeb⟩ : ∃ eb, Z91.heap.size = eb := ⟨_, rfl⟩
        rw [heeb] at HM92_
        generalize Z91.alloc (.map #[] 0) = Z92 at *
        rw [heeb]
        clear heeb
        clear HL91_ HM91_
        refine hK.out _ _ HL92_.out (fun hHeld => ?_)
        clear hK K
        refine norm_any' (fun K hK => ?_); go_simp; refine hK _ _ ?_; clear hK K
        refine wpAnyH_ready (rs := [15]) (by kernel_rfl) (by simp) (AllReadyH.cons rfl (fun K hK => ?_) AllReadyH.nil)
        go_simp
        refine Calls.mono (HK1.out Z92) ?_
        rintro e Z93 ⟨g1, t1, rfl, hga, hta, hlo, hlt, hhi, hbx⟩
        have HL93_ : Hid _ := HL92_.out.go hbx
        have HM93_ : Hid _ := HM92_.out.two HL92_.out.bel.size hbx hlo hlt hga hta
        clear hga hta hlo hlt hhi hbx
        clear HL92_ HM92_
        refine hK.out _ _ HL93_.out (fun hHeld => ?_)
        clear hK K
        refine norm_any' (fun K hK => ?_); go_simp; refine hK _ _ ?_; clear hK K
        refine wpAnyH_take (i := 16) (v := .agg #[.pointer (some ⟨g0, 0, none⟩), .int .i64 0, .pointer (some ⟨t0, 0, none⟩), .pointer (some ⟨g1, 0, none⟩), .int .i64 0, .pointer (some ⟨t1, 0, none⟩)]) rfl (by kernel_rfl) (by kernel_rfl) (by kernel_rfl) (fun _ _ _ h => h) (Or.inl ⟨by rfl, by intro w hs; go_simp⟩) hHeld ?_
        refine norm_any' (fun K hK => ?_); go_simp; refine hK _ _ ?_; clear hK K
        refine wpAnyH_take (i := 17) (v := .agg (tq0 srv x y sb eb nb g0 t0 g1 t1)) rfl (by kernel_rfl) (by kernel_rfl) (by kernel_rfl) (fun _ _ _ h => h) (Or.inl ⟨by rfl, by intro w hs; kernel_rfl⟩) hHeld ?_
        refine norm_any' (fun K hK => ?_); go_simp; refine hK _ _ ?_; clear hK K
        refine wpAnyH_ready (rs := [18]) (by kernel_rfl) (by simp) (AllReadyH.cons rfl (fun K hK => ?_) AllReadyH.nil)
        go_simp
        have HTQ : Hid _ := HM93_.out.tq (srv := srv) (x := x) (y := y) (sb := sb) (eb := eb) (nb := nb) (g0 := g0) (t0 := t0) (g1 := g1) (t1 := t1) (List.Mem.tail _ (List.Mem.tail _ (List.Mem.tail _ (List.Mem.head _)))) (List.Mem.tail _ (List.Mem.tail _ (List.Mem.head _))) (List.Mem.tail _ (List.Mem.tail _ (List.Mem.tail _ (List.Mem.tail _ (List.Mem.tail _ (List.Mem.tail _ (List.Mem.head _))))))) (List.Mem.tail _ (List.Mem.tail _ (List.Mem.tail _ (List.Mem.tail _ (List.Mem.tail _ (List.Mem.head _)))))) (List.Mem.tail _ (List.Mem.tail _ (List.Mem.tail _ (List.Mem.tail _ (List.Mem.head _))))) (List.Mem.tail _ (List.Mem.head _)) (List.Mem.head _) (by
          have hn := HM93_.out.nd
          simp only [List.map_cons, List.map_nil, List.nodup_cons, List.mem_cons, List.not_mem_nil, not_or, or_false, not_false_eq_true, and_true, List.nodup_nil] at hn ⊢
          obtain ⟨⟨gf_, gb_, ga_, ge_, gd_, gc_⟩, ⟨fb_, fa_, fe_, fd_, fc_⟩, ⟨ba_, be_, bd_, bc_⟩, ⟨ae_, ad_, ac_⟩, ⟨ed_, ec_⟩, dc_⟩ := hn
          exact ⟨⟨Ne.symm ba_, ac_, ad_, ae_, Ne.symm fa_, Ne.symm ga_⟩, ⟨bc_, bd_, be_, Ne.symm fb_, Ne.symm gb_⟩, ⟨Ne.symm dc_, Ne.symm ec_, Ne.symm fc_, Ne.symm gc_⟩, ⟨Ne.symm ed_, Ne.symm fd_, Ne.symm gd_⟩, ⟨Ne.symm fe_, Ne.symm ge_⟩, Ne.symm gf_⟩) HL93_.out.bel.size
        have HLT : Hid _ := HL93_.out.go (bel1 _ (.cells (tq0 srv x y sb eb nb g0 t0 g1 t1) 89))
        refine hK.out _ _ HLT.out (fun hHeld => ?_)
        clear hK K; refine norm_any' (fun K hK => ?_); go_simp; refine hK _ _ ?_; clear hK K
        refine wpAnyH_take (i := 19) rfl (by kernel_rfl) (by kernel_rfl) (by kernel_rfl) (fun _ _ _ h => h) (Or.inl ⟨by rfl, by intro w hs; go_simp; rfl⟩) hHeld ?_
        refine norm_any' (fun K hK => ?_); go_simp; refine hK _ _ ?_; clear hK K
        refine wpAnyH_done (by kernel_rfl) ?_ _
        go_wp2
        go_meet
        case rel => exact ⟨_, sb, eb, nb, g0, t0, g1, t1, rfl, HTQ.out.1, HLT.out, HTQ.out.2⟩
       ·go_simp
        refine Calls.mono (HK1.out Z91) ?_
        rintro e Z94 ⟨g1, t1, rfl, hga, hta, hlo, hlt, hhi, hbx⟩
        have HL94_ : Hid _ := HL91_.out.go hbx
        have HM94_ : Hid _ := HM91_.out.two HL91_.out.bel.size hbx hlo hlt hga hta
        clear hga hta hlo hlt hhi hbx
        clear HL91_ HM91_
        refine hK.out _ _ HL94_.out (fun hHeld => ?_)
        clear hK K
        refine norm_any' (fun K hK => ?_); go_simp; refine hK _ _ ?_; clear hK K
        refine wpAnyH_take (i := 16) (v := .agg #[.pointer (some ⟨g0, 0, none⟩), .int .i64 0, .pointer (some ⟨t0, 0, none⟩), .pointer (some ⟨g1, 0, none⟩), .int .i64 0, .pointer (some ⟨t1, 0, none⟩)]) rfl (by kernel_rfl) (by kernel_rfl) (by kernel_rfl) (fun _ _ _ h => h) (Or.inl ⟨by rfl, by intro w hs; go_simp⟩) hHeld ?_
        refine norm_any' (fun K hK => ?_); go_simp; refine hK _ _ ?_; clear hK K
        refine wpAnyH_ready (rs := [4]) (by kernel_rfl) (by simp) (AllReadyH.cons rfl (fun K hK => ?_) AllReadyH.nil)
        go_simp
        have HL95_ : Hid _ := HL94_.out.go (bel1 Z94 (.map #[] 0))
        have HM95_ : Hid _ := HM94_.out.one HL94_.out.bel.size (bel1 Z94 (.map #[] 0)) (Nat.le_refl _) (heap_alloc_new Z94 (.map #[] 0))
        obtain ⟨eb, heeb⟩ : ∃ eb, Z94.heap.size = eb := ⟨_, rfl⟩
        rw [heeb] at HM95_
        generalize Z94.alloc (.map #[] 0) = Z95 at *
        rw [heeb]
        clear heeb
        clear HL94_ HM94_
        refine hK.out _ _ HL95_.out (fun hHeld => ?_)
        clear hK K
        refine norm_any' (fun K hK => ?_); go_simp; refine hK _ _ ?_; clear hK K
        refine wpAnyH_take (i := 17) (v := .agg (tq0 srv x y sb eb nb g0 t0 g1 t1)) rfl (by kernel_rfl) (by kernel_rfl) (by kernel_rfl) (fun _ _ _ h => h) (Or.inl ⟨by rfl, by intro w hs; kernel_rfl⟩) hHeld ?_
        refine norm_any' (fun K hK => ?_); go_simp; refine hK _ _ ?_; clear hK K
        refine wpAnyH_ready (rs := [18]) (by kernel_rfl) (by simp) (AllReadyH.cons rfl (fun K hK => ?_) AllReadyH.nil)
        go_simp
        have HTQ : Hid _ := HM95_.out.tq (srv := srv) (x := x) (y := y) (sb := sb) (eb := eb) (nb := nb) (g0 := g0) (t0 := t0) (g1 := g1) (t1 := t1) (List.Mem.tail _ (List.Mem.tail _ (List.Mem.tail _ (List.Mem.head _)))) (List.Mem.head _) (List.Mem.tail _ (List.Mem.tail _ (List.Mem.tail _ (List.Mem.tail _ (List.Mem.tail _ (List.Mem.tail _ (List.Mem.head _))))))) (List.Mem.tail _ (List.Mem.tail _ (List.Mem.tail _ (List.Mem.tail _ (List.Mem.tail _ (List.Mem.head _)))))) (List.Mem.tail _ (List.Mem.tail _ (List.Mem.tail _ (List.Mem.tail _ (List.Mem.head _))))) (List.Mem.tail _ (List.Mem.tail _ (List.Mem.head _))) (List.Mem.tail _ (List.Mem.head _)) (by
          have hn := HM95_.out.nd
          simp only [List.map_cons, List.map_nil, List.nodup_cons, List.mem_cons, List.not_mem_nil, not_or, or_false, not_false_eq_true, and_true, List.nodup_nil] at hn ⊢
          obtain ⟨⟨bg_, bf_, ba_, be_, bd_, bc_⟩, ⟨gf_, ga_, ge_, gd_, gc_⟩, ⟨fa_, fe_, fd_, fc_⟩, ⟨ae_, ad_, ac_⟩, ⟨ed_, ec_⟩, dc_⟩ := hn
          exact ⟨⟨Ne.symm ba_, ac_, ad_, ae_, Ne.symm fa_, Ne.symm ga_⟩, ⟨bc_, bd_, be_, bf_, bg_⟩, ⟨Ne.symm dc_, Ne.symm ec_, Ne.symm fc_, Ne.symm gc_⟩, ⟨Ne.symm ed_, Ne.symm fd_, Ne.symm gd_⟩, ⟨Ne.symm fe_, Ne.symm ge_⟩, Ne.symm gf_⟩) HL95_.out.bel.size
        have HLT : Hid _ := HL95_.out.go (bel1 _ (.cells (tq0 srv x y sb eb nb g0 t0 g1 t1) 89))
        refine hK.out _ _ HLT.out (fun hHeld => ?_)
        clear hK K; refine norm_any' (fun K hK => ?_); go_simp; refine hK _ _ ?_; clear hK K
        refine wpAnyH_take (i := 19) rfl (by kernel_rfl) (by kernel_rfl) (by kernel_rfl) (fun _ _ _ h => h) (Or.inl ⟨by rfl, by intro w hs; go_simp; rfl⟩) hHeld ?_
        refine norm_any' (fun K hK => ?_); go_simp; refine hK _ _ ?_; clear hK K
        refine wpAnyH_done (by kernel_rfl) ?_ _
        go_wp2
        go_meet
        case rel => exact ⟨_, sb, eb, nb, g0, t0, g1, t1, rfl, HTQ.out.1, HLT.out, HTQ.out.2⟩
      ·go_simp
       have HL96_ : Hid _ := HL90_.out.go (bel1 Z90 (.map #[] 0))
       have HM96_ : Hid _ := HM90_.out.one HL90_.out.bel.size (bel1 Z90 (.map #[] 0)) (Nat.le_refl _) (heap_alloc_new Z90 (.map #[] 0))
       obtain ⟨eb, heeb⟩ : ∃ eb, Z90.heap.size = eb := ⟨_, rfl⟩
       rw [heeb] at HM96_
       generalize Z90.alloc (.map #[] 0) = Z96 at *
       rw [heeb]
       clear heeb
       clear HL90_ HM90_
       refine hK.out _ _ HL96_.out (fun hHeld => ?_)
       clear hK K
       refine norm_any' (fun K hK => ?_); go_simp; refine hK _ _ ?_; clear hK K
       refine wpAnyH_ready (rs := [3, 15]) (by kernel_rfl) (by simp) (AllReadyH.cons rfl (fun K hK => ?_) (AllReadyH.cons rfl (fun K hK => ?_) AllReadyH.nil))
       ·go_simp
        have HL97_ : Hid _ := HL96_.out.go (bel1 Z96 (.map #[] 0))
        have HM97_ : Hid _ := HM96_.out.one HL96_.out.bel.size (bel1 Z96 (.map #[] 0)) (Nat.le_refl _) (heap_alloc_new Z96 (.map #[] 0))
        obtain ⟨sb, hesb⟩ : ∃ sb, Z96.heap.size = sb := ⟨_, rfl⟩
        rw [hesb] at HM97_
        generalize Z96.alloc (.map #[] 0) = Z97 at *
        rw [hesb]
        clear hesb
        clear HL96_ HM96_
        refine hK.out _ _ HL97_.out (fun hHeld => ?_)
        clear hK K
        refine norm_any' (fun K hK => ?_); go_simp; refine hK _ _ ?_; clear hK K
        refine wpAnyH_ready (rs := [15]) (by kernel_rfl) (by simp) (AllReadyH.cons rfl (fun K hK => ?_) AllReadyH.nil)
        go_simp
        refine Calls.mono (HK1.out Z97) ?_
        rintro e Z98 ⟨g1, t1, rfl, hga, hta, hlo, hlt, hhi, hbx⟩
        have HL98_ : Hid _ := HL97_.out.go hbx
        have HM98_ : Hid _ := HM97_.out.two HL97_.out.bel.size hbx hlo hlt hga hta
        clear hga hta hlo hlt hhi hbx
        clear HL97_ HM97_
        refine hK.out _ _ HL98_.out (fun hHeld => ?_)
        clear hK K
        refine norm_any' (fun K hK => ?_); go_simp; refine hK _ _ ?_; clear hK K
        refine wpAnyH_take (i := 16) (v := .agg #[.pointer (some ⟨g0, 0, none⟩), .int .i64 0, .pointer (some ⟨t0, 0, none⟩), .pointer (some ⟨g1, 0, none⟩), .int .i64 0, .pointer (some ⟨t1, 0, none⟩)]) rfl (by kernel_rfl) (by kernel_rfl) (by kernel_rfl) (fun _ _ _ h => h) (Or.inl ⟨by rfl, by intro w hs; go_simp⟩) hHeld ?_
        refine norm_any' (fun K hK => ?_); go_simp; refine hK _ _ ?_; clear hK K
        refine wpAnyH_take (i := 17) (v := .agg (tq0 srv x y sb eb nb g0 t0 g1 t1)) rfl (by kernel_rfl) (by kernel_rfl) (by kernel_rfl) (fun _ _ _ h => h) (Or.inl ⟨by rfl, by intro w hs; kernel_rfl⟩) hHeld ?_
        refine norm_any' (fun K hK => ?_); go_simp; refine hK _ _ ?_; clear hK K
        refine wpAnyH_ready (rs := [18]) (by kernel_rfl) (by simp) (AllReadyH.cons rfl (fun K hK => ?_) AllReadyH.nil)
        go_simp
        have HTQ : Hid _ := HM98_.out.tq (srv := srv) (x := x) (y := y) (sb := sb) (eb := eb) (nb := nb) (g0 := g0) (t0 := t0) (g1 := g1) (t1 := t1) (List.Mem.tail _ (List.Mem.tail _ (List.Mem.head _))) (List.Mem.tail _ (List.Mem.tail _ (List.Mem.tail _ (List.Mem.head _)))) (List.Mem.tail _ (List.Mem.tail _ (List.Mem.tail _ (List.Mem.tail _ (List.Mem.tail _ (List.Mem.tail _ (List.Mem.head _))))))) (List.Mem.tail _ (List.Mem.tail _ (List.Mem.tail _ (List.Mem.tail _ (List.Mem.tail _ (List.Mem.head _)))))) (List.Mem.tail _ (List.Mem.tail _ (List.Mem.tail _ (List.Mem.tail _ (List.Mem.head _))))) (List.Mem.tail _ (List.Mem.head _)) (List.Mem.head _) (by
          have hn := HM98_.out.nd
          simp only [List.map_cons, List.map_nil, List.nodup_cons, List.mem_cons, List.not_mem_nil, not_or, or_false, not_false_eq_true, and_true, List.nodup_nil] at hn ⊢
          obtain ⟨⟨gf_, ga_, gb_, ge_, gd_, gc_⟩, ⟨fa_, fb_, fe_, fd_, fc_⟩, ⟨ab_, ae_, ad_, ac_⟩, ⟨be_, bd_, bc_⟩, ⟨ed_, ec_⟩, dc_⟩ := hn
          exact ⟨⟨ab_, ac_, ad_, ae_, Ne.symm fa_, Ne.symm ga_⟩, ⟨bc_, bd_, be_, Ne.symm fb_, Ne.symm gb_⟩, ⟨Ne.symm dc_, Ne.symm ec_, Ne.symm fc_, Ne.symm gc_⟩, ⟨Ne.symm ed_, Ne.symm fd_, Ne.symm gd_⟩, ⟨Ne.symm fe_, Ne.symm ge_⟩, Ne.symm gf_⟩) HL98_.out.bel.size
        have HLT : Hid _ := HL98_.out.go (bel1 _ (.cells (tq0 srv x y sb eb nb g0 t0 g1 t1) 89))
        refine hK.out _ _ HLT.out (fun hHeld => ?_)
        clear hK K; refine norm_any' (fun K hK => ?_); go_simp; refine hK _ _ ?_; clear hK K
        refine wpAnyH_take (i := 19) rfl (by kernel_rfl) (by kernel_rfl) (by kernel_rfl) (fun _ _ _ h => h) (Or.inl ⟨by rfl, by intro w hs; go_simp; rfl⟩) hHeld ?_
        refine norm_any' (fun K hK => ?_); go_simp; refine hK _ _ ?_; clear hK K
        refine wpAnyH_done (by kernel_rfl) ?_ _
        go_wp2
        go_meet
        case rel => exact ⟨_, sb, eb, nb, g0, t0, g1, t1, rfl, HTQ.out.1, HLT.out, HTQ.out.2⟩
       ·go_simp
        refine Calls.mono (HK1.out Z96) ?_
        rintro e Z99 ⟨g1, t1, rfl, hga, hta, hlo, hlt, hhi, hbx⟩
        have HL99_ : Hid _ := HL96_.out.go hbx
        have HM99_ : Hid _ := HM96_.out.two HL96_.out.bel.size hbx hlo hlt hga hta
        clear hga hta hlo hlt hhi hbx
        clear HL96_ HM96_
        refine hK.out _ _ HL99_.out (fun hHeld => ?_)
        clear hK K
        refine norm_any' (fun K hK => ?_); go_simp; refine hK _ _ ?_; clear hK K
        refine wpAnyH_take (i := 16) (v := .agg #[.pointer (some ⟨g0, 0, none⟩), .int .i64 0, .pointer (some ⟨t0, 0, none⟩), .pointer (some ⟨g1, 0, none⟩), .int .i64 0, .pointer (some ⟨t1, 0, none⟩)]) rfl (by kernel_rfl) (by kernel_rfl) (by kernel_rfl) (fun _ _ _ h => h) (Or.inl ⟨by rfl, by intro w hs; go_simp⟩) hHeld ?_
        refine norm_any' (fun K hK => ?_); go_simp; refine hK _ _ ?_; clear hK K
        refine wpAnyH_ready (rs := [3]) (by kernel_rfl) (by simp) (AllReadyH.cons rfl (fun K hK => ?_) AllReadyH.nil)
        go_simp
        have HL100_ : Hid _ := HL99_.out.go (bel1 Z99 (.map #[] 0))
        have HM100_ : Hid _ := HM99_.out.one HL99_.out.bel.size (bel1 Z99 (.map #[] 0)) (Nat.le_refl _) (heap_alloc_new Z99 (.map #[] 0))
        obtain ⟨sb, hesb⟩ : ∃ sb, Z99.heap.size = sb := ⟨_, rfl⟩
        rw [hesb] at HM100_
        generalize Z99.alloc (.map #[] 0) = Z100 at *
        rw [hesb]
        clear hesb
        clear HL99_ HM99_
        refine hK.out _ _ HL100_.out (fun hHeld => ?_)
        clear hK K
        refine norm_any' (fun K hK => ?_); go_simp; refine hK _ _ ?_; clear hK K
        refine wpAnyH_take (i := 17) (v := .agg (tq0 srv x y sb eb nb g0 t0 g1 t1)) rfl (by kernel_rfl) (by kernel_rfl) (by kernel_rfl) (fun _ _ _ h => h) (Or.inl ⟨by rfl, by intro w hs; kernel_rfl⟩) hHeld ?_
        refine norm_any' (fun K hK => ?_); go_simp; refine hK _ _ ?_; clear hK K
        refine wpAnyH_ready (rs := [18]) (by kernel_rfl) (by simp) (AllReadyH.cons rfl (fun K hK => ?_) AllReadyH.nil)
        go_simp
        have HTQ : Hid _ := HM100_.out.tq (srv := srv) (x := x) (y := y) (sb := sb) (eb := eb) (nb := nb) (g0 := g0) (t0 := t0) (g1 := g1) (t1 := t1) (List.Mem.head _) (List.Mem.tail _ (List.Mem.tail _ (List.Mem.tail _ (List.Mem.head _)))) (List.Mem.tail _ (List.Mem.tail _ (List.Mem.tail _ (List.Mem.tail _ (List.Mem.tail _ (List.Mem.tail _ (List.Mem.head _))))))) (List.Mem.tail _ (List.Mem.tail _ (List.Mem.tail _ (List.Mem.tail _ (List.Mem.tail _ (List.Mem.head _)))))) (List.Mem.tail _ (List.Mem.tail _ (List.Mem.tail _ (List.Mem.tail _ (List.Mem.head _))))) (List.Mem.tail _ (List.Mem.tail _ (List.Mem.head _))) (List.Mem.tail _ (List.Mem.head _)) (by
          have hn := HM100_.out.nd
          simp only [List.map_cons, List.map_nil, List.nodup_cons, List.mem_cons, List.not_mem_nil, not_or, or_false, not_false_eq_true, and_true, List.nodup_nil] at hn ⊢
          obtain ⟨⟨ag_, af_, ab_, ae_, ad_, ac_⟩, ⟨gf_, gb_, ge_, gd_, gc_⟩, ⟨fb_, fe_, fd_, fc_⟩, ⟨be_, bd_, bc_⟩, ⟨ed_, ec_⟩, dc_⟩ := hn
          exact ⟨⟨ab_, ac_, ad_, ae_, af_, ag_⟩, ⟨bc_, bd_, be_, Ne.symm fb_, Ne.symm gb_⟩, ⟨Ne.symm dc_, Ne.symm ec_, Ne.symm fc_, Ne.symm gc_⟩, ⟨Ne.symm ed_, Ne.symm fd_, Ne.symm gd_⟩, ⟨Ne.symm fe_, Ne.symm ge_⟩, Ne.symm gf_⟩) HL100_.out.bel.size
        have HLT : Hid _ := HL100_.out.go (bel1 _ (.cells (tq0 srv x y sb eb nb g0 t0 g1 t1) 89))
        refine hK.out _ _ HLT.out (fun hHeld => ?_)
        clear hK K; refine norm_any' (fun K hK => ?_); go_simp; refine hK _ _ ?_; clear hK K
        refine wpAnyH_take (i := 19) rfl (by kernel_rfl) (by kernel_rfl) (by kernel_rfl) (fun _ _ _ h => h) (Or.inl ⟨by rfl, by intro w hs; go_simp; rfl⟩) hHeld ?_
        refine norm_any' (fun K hK => ?_); go_simp; refine hK _ _ ?_; clear hK K
        refine wpAnyH_done (by kernel_rfl) ?_ _
        go_wp2
        go_meet
        case rel => exact ⟨_, sb, eb, nb, g0, t0, g1, t1, rfl, HTQ.out.1, HLT.out, HTQ.out.2⟩
      ·go_simp
       refine Calls.mono (HK1.out Z90) ?_
       rintro e Z101 ⟨g1, t1, rfl, hga, hta, hlo, hlt, hhi, hbx⟩
       have HL101_ : Hid _ := HL90_.out.go hbx
       have HM101_ : Hid _ := HM90_.out.two HL90_.out.bel.size hbx hlo hlt hga hta
       clear hga hta hlo hlt hhi hbx
       clear HL90_ HM90_
       refine hK.out _ _ HL101_.out (fun hHeld => ?_)
       clear hK K
       refine norm_any' (fun K hK => ?_); go_simp; refine hK _ _ ?_; clear hK K
       refine wpAnyH_take (i := 16) (v := .agg #[.pointer (some ⟨g0, 0, none⟩), .int .i64 0, .pointer (some ⟨t0, 0, none⟩), .pointer (some ⟨g1, 0, none⟩), .int .i64 0, .pointer (some ⟨t1, 0, none⟩)]) rfl (by kernel_rfl) (by kernel_rfl) (by kernel_rfl) (fun _ _ _ h => h) (Or.inl ⟨by rfl, by intro w hs; go_simp⟩) hHeld ?_
       refine norm_any' (fun K hK => ?_); go_simp; refine hK _ _ ?_; clear hK K
       refine wpAnyH_ready (rs := [3, 4]) (by kernel_rfl) (by simp) (AllReadyH.cons rfl (fun K hK => ?_) (AllReadyH.cons rfl (fun K hK => ?_) AllReadyH.nil))
       ·go_simp
        have HL102_ : Hid _ := HL101_.out.go (bel1 Z101 (.map #[] 0))
        have HM102_ : Hid _ := HM101_.out.one HL101_.out.bel.size (bel1 Z101 (.map #[] 0)) (Nat.le_refl _) (heap_alloc_new Z101 (.map #[] 0))
        obtain ⟨sb, hesb⟩ : ∃ sb, Z101.heap.size = sb := ⟨_, rfl⟩
        rw [hesb] at HM102_
        generalize Z101.alloc (.map #[] 0) = Z102 at *
        rw [hesb]
        clear hesb
        clear HL101_ HM101_
        refine hK.out _ _ HL102_.out (fun hHeld => ?_)
        clear hK K
        refine norm_any' (fun K hK => ?_); go_simp; refine hK _ _ ?_; clear hK K
        refine wpAnyH_ready (rs := [4]) (by kernel_rfl) (by simp) (AllReadyH.cons rfl (fun K hK => ?_) AllReadyH.nil)
        go_simp
        have HL103_ : Hid _ := HL102_.out.go (bel1 Z102 (.map #[] 0))
        have HM103_ : Hid _ := HM102_.out.one HL102_.out.bel.size (bel1 Z102 (.map #[] 0)) (Nat.le_refl _) (heap_alloc_new Z102 (.map #[] 0))
        obtain ⟨eb, heeb⟩ : ∃ eb, Z102.heap.size = eb := ⟨_, rfl⟩
        rw [heeb] at HM103_
        generalize Z102.alloc (.map #[] 0) = Z103 at *
        rw [heeb]
        clear heeb
        clear HL102_ HM102_
        refine hK.out _ _ HL103_.out (fun hHeld => ?_)
        clear hK K
        refine norm_any' (fun K hK => ?_); go_simp; refine hK _ _ ?_; clear hK K
        refine wpAnyH_take (i := 17) (v := .agg (tq0 srv x y sb eb nb g0 t0 g1 t1)) rfl (by kernel_rfl) (by kernel_rfl) (by kernel_rfl) (fun _ _ _ h => h) (Or.inl ⟨by rfl, by intro w hs; kernel_rfl⟩) hHeld ?_
        refine norm_any' (fun K hK => ?_); go_simp; refine hK _ _ ?_; clear hK K
        refine wpAnyH_ready (rs := [18]) (by kernel_rfl) (by simp) (AllReadyH.cons rfl (fun K hK => ?_) AllReadyH.nil)
        go_simp
        have HTQ : Hid _ := HM103_.out.tq (srv := srv) (x := x) (y := y) (sb := sb) (eb := eb) (nb := nb) (g0 := g0) (t0 := t0) (g1 := g1) (t1 := t1) (List.Mem.tail _ (List.Mem.head _)) (List.Mem.head _) (List.Mem.tail _ (List.Mem.tail _ (List.Mem.tail _ (List.Mem.tail _ (List.Mem.tail _ (List.Mem.tail _ (List.Mem.head _))))))) (List.Mem.tail _ (List.Mem.tail _ (List.Mem.tail _ (List.Mem.tail _ (List.Mem.tail _ (List.Mem.head _)))))) (List.Mem.tail _ (List.Mem.tail _ (List.Mem.tail _ (List.Mem.tail _ (List.Mem.head _))))) (List.Mem.tail _ (List.Mem.tail _ (List.Mem.tail _ (List.Mem.head _)))) (List.Mem.tail _ (List.Mem.tail _ (List.Mem.head _))) (by
          have hn := HM103_.out.nd
          simp only [List.map_cons, List.map_nil, List.nodup_cons, List.mem_cons, List.not_mem_nil, not_or, or_false, not_false_eq_true, and_true, List.nodup_nil] at hn ⊢
          obtain ⟨⟨ba_, bg_, bf_, be_, bd_, bc_⟩, ⟨ag_, af_, ae_, ad_, ac_⟩, ⟨gf_, ge_, gd_, gc_⟩, ⟨fe_, fd_, fc_⟩, ⟨ed_, ec_⟩, dc_⟩ := hn
          exact ⟨⟨Ne.symm ba_, ac_, ad_, ae_, af_, ag_⟩, ⟨bc_, bd_, be_, bf_, bg_⟩, ⟨Ne.symm dc_, Ne.symm ec_, Ne.symm fc_, Ne.symm gc_⟩, ⟨Ne.symm ed_, Ne.symm fd_, Ne.symm gd_⟩, ⟨Ne.symm fe_, Ne.symm ge_⟩, Ne.symm gf_⟩) HL103_.out.bel.size
        have HLT : Hid _ := HL103_.out.go (bel1 _ (.cells (tq0 srv x y sb eb nb g0 t0 g1 t1) 89))
        refine hK.out _ _ HLT.out (fun hHeld => ?_)
        clear hK K; refine norm_any' (fun K hK => ?_); go_simp; refine hK _ _ ?_; clear hK K
        refine wpAnyH_take (i := 19) rfl (by kernel_rfl) (by kernel_rfl) (by kernel_rfl) (fun _ _ _ h => h) (Or.inl ⟨by rfl, by intro w hs; go_simp; rfl⟩) hHeld ?_
        refine norm_any' (fun K hK => ?_); go_simp; refine hK _ _ ?_; clear hK K
        refine wpAnyH_done (by kernel_rfl) ?_ _
        go_wp2
        go_meet
        case rel => exact ⟨_, sb, eb, nb, g0, t0, g1, t1, rfl, HTQ.out.1, HLT.out, HTQ.out.2⟩
       ·go_simp
        have HL104_ : Hid _ := HL101_.out.go (bel1 Z101 (.map #[] 0))
        have HM104_ : Hid _ := HM101_.out.one HL101_.out.bel.size (bel1 Z101 (.map #[] 0)) (Nat.le_refl _) (heap_alloc_new Z101 (.map #[] 0))
        obtain ⟨eb, heeb⟩ : ∃ eb, Z101.heap.size = eb := ⟨_, rfl⟩
        rw [heeb] at HM104_
        generalize Z101.alloc (.map #[] 0) = Z104 at *
        rw [heeb]
        clear heeb
        clear HL101_ HM101_
        refine hK.out _ _ HL104_.out (fun hHeld => ?_)
        clear hK K
        refine norm_any' (fun K hK => ?_); go_simp; refine hK _ _ ?_; clear hK K
        refine wpAnyH_ready (rs := [3]) (by kernel_rfl) (by simp) (AllReadyH.cons rfl (fun K hK => ?_) AllReadyH.nil)
        go_simp
        have HL105_ : Hid _ := HL104_.out.go (bel1 Z104 (.map #[] 0))
        have HM105_ : Hid _ := HM104_.out.one HL104_.out.bel.size (bel1 Z104 (.map #[] 0)) (Nat.le_refl _) (heap_alloc_new Z104 (.map #[] 0))
        obtain ⟨sb, hesb⟩ : ∃ sb, Z104.heap.size = sb := ⟨_, rfl⟩
        rw [hesb] at HM105_
        generalize Z104.alloc (.map #[] 0) = Z105 at *
        rw [hesb]
        clear hesb
        clear HL104_ HM104_
        refine hK.out _ _ HL105_.out (fun hHeld => ?_)
        clear hK K
        refine norm_any' (fun K hK => ?_); go_simp; refine hK _ _ ?_; clear hK K
        refine wpAnyH_take (i := 17) (v := .agg (tq0 srv x y sb eb nb g0 t0 g1 t1)) rfl (by kernel_rfl) (by kernel_rfl) (by kernel_rfl) (fun _ _ _ h => h) (Or.inl ⟨by rfl, by intro w hs; kernel_rfl⟩) hHeld ?_
        refine norm_any' (fun K hK => ?_); go_simp; refine hK _ _ ?_; clear hK K
        refine wpAnyH_ready (rs := [18]) (by kernel_rfl) (by simp) (AllReadyH.cons rfl (fun K hK => ?_) AllReadyH.nil)
        go_simp
        have HTQ : Hid _ := HM105_.out.tq (srv := srv) (x := x) (y := y) (sb := sb) (eb := eb) (nb := nb) (g0 := g0) (t0 := t0) (g1 := g1) (t1 := t1) (List.Mem.head _) (List.Mem.tail _ (List.Mem.head _)) (List.Mem.tail _ (List.Mem.tail _ (List.Mem.tail _ (List.Mem.tail _ (List.Mem.tail _ (List.Mem.tail _ (List.Mem.head _))))))) (List.Mem.tail _ (List.Mem.tail _ (List.Mem.tail _ (List.Mem.tail _ (List.Mem.tail _ (List.Mem.head _)))))) (List.Mem.tail _ (List.Mem.tail _ (List.Mem.tail _ (List.Mem.tail _ (List.Mem.head _))))) (List.Mem.tail _ (List.Mem.tail _ (List.Mem.tail _ (List.Mem.head _)))) (List.Mem.tail _ (List.Mem.tail _ (List.Mem.head _))) (by
          have hn := HM105_.out.nd
          simp only [List.map_cons, List.map_nil, List.nodup_cons, List.mem_cons, List.not_mem_nil, not_or, or_false, not_false_eq_true, and_true, List.nodup_nil] at hn ⊢
          obtain ⟨⟨ab_, ag_, af_, ae_, ad_, ac_⟩, ⟨bg_, bf_, be_, bd_, bc_⟩, ⟨gf_, ge_, gd_, gc_⟩, ⟨fe_, fd_, fc_⟩, ⟨ed_, ec_⟩, dc_⟩ := hn
          exact ⟨⟨ab_, ac_, ad_, ae_, af_, ag_⟩, ⟨bc_, bd_, be_, bf_, bg_⟩, ⟨Ne.symm dc_, Ne.symm ec_, Ne.symm fc_, Ne.symm gc_⟩, ⟨Ne.symm ed_, Ne.symm fd_, Ne.symm gd_⟩, ⟨Ne.symm fe_, Ne.symm ge_⟩, Ne.symm gf_⟩) HL105_.out.bel.size
        have HLT : Hid _ := HL105_.out.go (bel1 _ (.cells (tq0 srv x y sb eb nb g0 t0 g1 t1) 89))
        refine hK.out _ _ HLT.out (fun hHeld => ?_)
        clear hK K; refine norm_any' (fun K hK => ?_); go_simp; refine hK _ _ ?_; clear hK K
        refine wpAnyH_take (i := 19) rfl (by kernel_rfl) (by kernel_rfl) (by kernel_rfl) (fun _ _ _ h => h) (Or.inl ⟨by rfl, by intro w hs; go_simp; rfl⟩) hHeld ?_
        refine norm_any' (fun K hK => ?_); go_simp; refine hK _ _ ?_; clear hK K
        refine wpAnyH_done (by kernel_rfl) ?_ _
        go_wp2
        go_meet
        case rel => exact ⟨_, sb, eb, nb, g0, t0, g1, t1, rfl, HTQ.out.1, HLT.out, HTQ.out.2⟩
    ·go_simp
     refine Calls.mono (HK0.out Z0) ?_
     rintro e Z106 ⟨g0, t0, rfl, hga, hta, hlo, hlt, hhi, hbx⟩
     have HL106_ : Hid _ := HL0_.out.go hbx
     have HM106_ : Hid _ := HM0_.out.two HL0_.out.bel.size hbx hlo hlt hga hta
     clear hga hta hlo hlt hhi hbx
     clear HL0_ HM0_
     refine hK.out _ _ HL106_.out (fun hHeld => ?_)
     clear hK K
     refine norm_any' (fun K hK => ?_); go_simp; refine hK _ _ ?_; clear hK K
     refine wpAnyH_ready (rs := [3, 4, 5, 15]) (by kernel_rfl) (by simp) (AllReadyH.cons rfl (fun K hK => ?_) (AllReadyH.cons rfl (fun K hK => ?_) (AllReadyH.cons rfl (fun K hK => ?_) (AllReadyH.cons rfl (fun K hK => ?_) AllReadyH.nil))))
     ·go_simp
      have HL107_ : Hid _ := HL106_.out.go (bel1 Z106 (.map #[] 0))
      have HM107_ : Hid _ := HM106_.out.one HL106_.out.bel.size (bel1 Z106 (.map #[] 0)) (Nat.le_refl _) (heap_alloc_new Z106 (.map #[] 0))
      obtain ⟨sb, hesb⟩ : ∃ sb, Z106.heap.size = sb := ⟨_, rfl⟩
      rw [hesb] at HM107_
      generalize Z106.alloc (.map #[] 0) = Z107 at *
      rw [hesb]
      clear hesb
      clear HL106_ HM106_
      refine hK.out _ _ HL107_.out (fun hHeld => ?_)
      clear hK K
      refine norm_any' (fun K hK => ?_); go_simp; refine hK _ _ ?_; clear hK K
      refine wpAnyH_ready (rs := [4, 5, 15]) (by kernel_rfl) (by simp) (AllReadyH.cons rfl (fun K hK => ?_) (AllReadyH.cons rfl (fun K hK => ?_) (AllReadyH.cons rfl (fun K hK => ?_) AllReadyH.nil)))
      ·go_simp
       have HL108_ : Hid _ := HL107_.out.go (bel1 Z107 (.map #[] 0))
       have HM108_ : Hid _ := HM107_.out.one HL107_.out.bel.size (bel1 Z107 (.map #[] 0)) (Nat.le_refl _) (heap_alloc_new Z107 (.map #[] 0))
       obtain ⟨eb, heeb⟩ : ∃ eb, Z107.heap.size = eb := ⟨_, rfl⟩
       rw [heeb] at HM108_
       generalize Z107.alloc (.map #[] 0) = Z108 at *
       rw [heeb]
       clear heeb
       clear HL107_ HM107_
       refine hK.out _ _ HL108_.out (fun hHeld => ?_)
       clear hK K
       refine norm_any' (fun K hK => ?_); go_simp; refine hK _ _ ?_; clear hK K
       refine wpAnyH_ready (rs := [5, 15]) (by kernel_rfl) (by simp) (AllReadyH.cons rfl (fun K hK => ?_) (AllReadyH.cons rfl (fun K hK => ?_) AllReadyH.nil))
       ·go_simp
        have HL109_ : Hid _ := HL108_.out.go (bel1 Z108 (.map #[] 0))
        have HM109_ : Hid _ := HM108_.out.one HL108_.out.bel.size (bel1 Z108 (.map #[] 0)) (Nat.le_refl _) (heap_alloc_new Z108 (.map #[] 0))
        obtain ⟨nb, henb⟩ : ∃ nb, Z108.heap.size = nb := ⟨_, rfl⟩
        rw [henb] at HM109_
        generalize Z108.alloc (.map #[] 0) = Z109 at *
        rw [henb]
        clear henb
        clear HL108_ HM108_
        refine hK.out _ _ HL109_.out (fun hHeld => ?_)
        clear hK K
        refine norm_any' (fun K hK => ?_); go_simp; refine hK _ _ ?_; clear hK K
        refine wpAnyH_ready (rs := [15]) (by kernel_rfl) (by simp) (AllReadyH.cons rfl (fun K hK => ?_) AllReadyH.nil)
        go_simp
        refine Calls.mono (HK1.out Z109) ?_
        rintro e Z110 ⟨g1, t1, rfl, hga, hta, hlo, hlt, hhi, hbx⟩
        have HL110_ : Hid _ := HL109_.out.go hbx
        have HM110_ : Hid _ := HM109_.out.two HL109_.out.bel.size hbx hlo hlt hga hta
        clear hga hta hlo hlt hhi hbx
        clear HL109_ HM109_
        refine hK.out _ _ HL110_.out (fun hHeld => ?_)
        clear hK K
        refine norm_any' (fun K hK => ?_); go_simp; refine hK _ _ ?_; clear hK K
        refine wpAnyH_take (i := 16) (v := .agg #[.pointer (some ⟨g0, 0, none⟩), .int .i64 0, .pointer (some ⟨t0, 0, none⟩), .pointer (some ⟨g1, 0, none⟩), .int .i64 0, .pointer (some ⟨t1, 0, none⟩)]) rfl (by kernel_rfl) (by kernel_rfl) (by kernel_rfl) (fun _ _ _ h => h) (Or.inl ⟨by rfl, by intro w hs; go_simp⟩) hHeld ?_
        refine norm_any' (fun K hK => ?_); go_simp; refine hK _ _ ?_; clear hK K
        refine wpAnyH_take (i := 17) (v := .agg (tq0 srv x y sb eb nb g0 t0 g1 t1)) rfl (by kernel_rfl) (by kernel_rfl) (by kernel_rfl) (fun _ _ _ h => h) (Or.inl ⟨by rfl, by intro w hs; kernel_rfl⟩) hHeld ?_
        refine norm_any' (fun K hK => ?_); go_simp; refine hK _ _ ?_; clear hK K
        refine wpAnyH_ready (rs := [18]) (by kernel_rfl) (by simp) (AllReadyH.cons rfl (fun K hK => ?_) AllReadyH.nil)
        go_simp
        have HTQ : Hid _ := HM110_.out.tq (srv := srv) (x := x) (y := y) (sb := sb) (eb := eb) (nb := nb) (g0 := g0) (t0 := t0) (g1 := g1) (t1 := t1) (List.Mem.tail _ (List.Mem.tail _ (List.Mem.tail _ (List.Mem.tail _ (List.Mem.head _))))) (List.Mem.tail _ (List.Mem.tail _ (List.Mem.tail _ (List.Mem.head _)))) (List.Mem.tail _ (List.Mem.tail _ (List.Mem.head _))) (List.Mem.tail _ (List.Mem.tail _ (List.Mem.tail _ (List.Mem.tail _ (List.Mem.tail _ (List.Mem.tail _ (List.Mem.head _))))))) (List.Mem.tail _ (List.Mem.tail _ (List.Mem.tail _ (List.Mem.tail _ (List.Mem.tail _ (List.Mem.head _)))))) (List.Mem.tail _ (List.Mem.head _)) (List.Mem.head _) (by
          have hn := HM110_.out.nd
          simp only [List.map_cons, List.map_nil, List.nodup_cons, List.mem_cons, List.not_mem_nil, not_or, or_false, not_false_eq_true, and_true, List.nodup_nil] at hn ⊢
          obtain ⟨⟨gf_, gc_, gb_, ga_, ge_, gd_⟩, ⟨fc_, fb_, fa_, fe_, fd_⟩, ⟨cb_, ca_, ce_, cd_⟩, ⟨ba_, be_, bd_⟩, ⟨ae_, ad_⟩, ed_⟩ := hn
          exact ⟨⟨Ne.symm ba_, Ne.symm ca_, ad_, ae_, Ne.symm fa_, Ne.symm ga_⟩, ⟨Ne.symm cb_, bd_, be_, Ne.symm fb_, Ne.symm gb_⟩, ⟨cd_, ce_, Ne.symm fc_, Ne.symm gc_⟩, ⟨Ne.symm ed_, Ne.symm fd_, Ne.symm gd_⟩, ⟨Ne.symm fe_, Ne.symm ge_⟩, Ne.symm gf_⟩) HL110_.out.bel.size
        have HLT : Hid _ := HL110_.out.go (bel1 _ (.cells (tq0 srv x y sb eb nb g0 t0 g1 t1) 89))
        refine hK.out _ _ HLT.out (fun hHeld => ?_)
        clear hK K; refine norm_any' (fun K hK => ?_); go_simp; refine hK _ _ ?_; clear hK K
        refine wpAnyH_take (i := 19) rfl (by kernel_rfl) (by kernel_rfl) (by kernel_rfl) (fun _ _ _ h => h) (Or.inl ⟨by rfl, by intro w hs; go_simp; rfl⟩) hHeld ?_
        refine norm_any' (fun K hK => ?_); go_simp; refine hK _ _ ?_; clear hK K
        refine wpAnyH_done (by kernel_rfl) ?_ _
        go_wp2
        go_meet
        case rel => exact ⟨_, sb, eb, nb, g0, t0, g1, t1, rfl, HTQ.out.1, HLT.out, HTQ.out.2⟩
       ·go_simp
        refine Calls.mono (HK1.out Z108) ?_
        rintro e Z111 ⟨g1, t1, rfl, hga, hta, hlo, hlt, hhi, hbx⟩
        have HL111_ : Hid _ := HL108_.out.go hbx
        have HM111_ : Hid _ := HM108_.out.two HL108_.out.bel.size hbx hlo hlt hga hta
        clear hga hta hlo hlt hhi hbx
        clear HL108_ HM108_
        refine hK.out _ _ HL111_.out (fun hHeld => ?_)
        clear hK K
        refine norm_any' (fun K hK => ?_); go_simp; refine hK _ _ ?_; clear hK K
        refine wpAnyH_take (i := 16) (v := .agg #[.pointer (some ⟨g0, 0, none⟩), .int .i64 0, .pointer (some ⟨t0, 0, none⟩), .pointer (some ⟨g1, 0, none⟩), .int .i64 0, .pointer (some ⟨t1, 0, none⟩)]) rfl (by kernel_rfl) (by kernel_rfl) (by kernel_rfl) (fun _ _ _ h => h) (Or.inl ⟨by rfl, by intro w hs; go_simp⟩) hHeld ?_
        refine norm_any' (fun K hK => ?_); go_simp; refine hK _ _ ?_; clear hK K
        refine wpAnyH_ready (rs := [5]) (by kernel_rfl) (by simp) (AllReadyH.cons rfl (fun K hK => ?_) AllReadyH.nil)
        go_simp
        have HL112_ : Hid _ := HL111_.out.go (bel1 Z111 (.map #[] 0))
        have HM112_ : Hid _ := HM111_.out.one HL111_.out.bel.size (bel1 Z111 (.map #[] 0)) (Nat.le_refl _) (heap_alloc_new Z111 (.map #[] 0))
        obtain ⟨nb, henb⟩ : ∃ nb, Z111.heap.size = nb := ⟨_, rfl⟩
        rw [henb] at HM112_
        generalize Z111.alloc (.map #[] 0) = Z112 at *
        rw [henb]
        clear henb
        clear HL111_ HM111_
        refine hK.out _ _ HL112_.out (fun hHeld => ?_)
        clear hK K
        refine norm_any' (fun K hK => ?_); go_simp; refine hK _ _ ?_; clear hK K
        refine wpAnyH_take (i := 17) (v := .agg (tq0 srv x y sb eb nb g0 t0 g1 t1)) rfl (by kernel_rfl) (by kernel_rfl) (by kernel_rfl) (fun _ _ _ h => h) (Or.inl ⟨by rfl, by intro w hs; kernel_rfl⟩) hHeld ?_
        refine norm_any' (fun K hK => ?_); go_simp; refine hK _ _ ?_; clear hK K
        refine wpAnyH_ready (rs := [18]) (by kernel_rfl) (by simp) (AllReadyH.cons rfl (fun K hK => ?_) AllReadyH.nil)
        go_simp
        have HTQ : Hid _ := HM112_.out.tq (srv := srv) (x := x) (y := y) (sb := sb) (eb := eb) (nb := nb) (g0 := g0) (t0 := t0) (g1 := g1) (t1 := t1) (List.Mem.tail _ (List.Mem.tail _ (List.Mem.tail _ (List.Mem.tail _ (List.Mem.head _))))) (List.Mem.tail _ (List.Mem.tail _ (List.Mem.tail _ (List.Mem.head _)))) (List.Mem.head _) (List.Mem.tail _ (List.Mem.tail _ (List.Mem.tail _ (List.Mem.tail _ (List.Mem.tail _ (List.Mem.tail _ (List.Mem.head _))))))) (List.Mem.tail _ (List.Mem.tail _ (List.Mem.tail _ (List.Mem.tail _ (List.Mem.tail _ (List.Mem.head _)))))) (List.Mem.tail _ (List.Mem.tail _ (List.Mem.head _))) (List.Mem.tail _ (List.Mem.head _)) (by
          have hn := HM112_.out.nd
          simp only [List.map_cons, List.map_nil, List.nodup_cons, List.mem_cons, List.not_mem_nil, not_or, or_false, not_false_eq_true, and_true, List.nodup_nil] at hn ⊢
          obtain ⟨⟨cg_, cf_, cb_, ca_, ce_, cd_⟩, ⟨gf_, gb_, ga_, ge_, gd_⟩, ⟨fb_, fa_, fe_, fd_⟩, ⟨ba_, be_, bd_⟩, ⟨ae_, ad_⟩, ed_⟩ := hn
          exact ⟨⟨Ne.symm ba_, Ne.symm ca_, ad_, ae_, Ne.symm fa_, Ne.symm ga_⟩, ⟨Ne.symm cb_, bd_, be_, Ne.symm fb_, Ne.symm gb_⟩, ⟨cd_, ce_, cf_, cg_⟩, ⟨Ne.symm ed_, Ne.symm fd_, Ne.symm gd_⟩, ⟨Ne.symm fe_, Ne.symm ge_⟩, Ne.symm gf_⟩) HL112_.out.bel.size
        have HLT : Hid _ := HL112_.out.go (bel1 _ (.cells (tq0 srv x y sb eb nb g0 t0 g1 t1) 89))
        refine hK.out _ _ HLT.out (fun hHeld => ?_)
        clear hK K; refine norm_any' (fun K hK => ?_); go_simp; refine hK _ _ ?_; clear hK K
        refine wpAnyH_take (i := 19) rfl (by kernel_rfl) (by kernel_rfl) (by kernel_rfl) (fun _ _ _ h => h) (Or.inl ⟨by rfl, by intro w hs; go_simp; rfl⟩) hHeld ?_
        refine norm_any' (fun K hK => ?_); go_simp; refine hK _ _ ?_; clear hK K
        refine wpAnyH_done (by kernel_rfl) ?_ _
        go_wp2
        go_meet
        case rel => exact ⟨_, sb, eb, nb, g0, t0, g1, t1, rfl, HTQ.out.1, HLT.out, HTQ.out.2⟩
      ·go_simp
       have HL113_ : Hid _ := HL107_.out.go (bel1 Z107 (.map #[] 0))
       have HM113_ : Hid _ := HM107_.out.one HL107_.out.bel.size (bel1 Z107 (.map #[] 0)) (Nat.le_refl _) (heap_alloc_new Z107 (.map #[] 0))
       obtain ⟨nb, henb⟩ : ∃ nb, Z107.heap.size = nb := ⟨_, rfl⟩
       rw [henb] at HM113_
       generalize Z107.alloc (.map #[] 0) = Z113 at *
       rw [henb]
       clear henb
       clear HL107_ HM107_
       refine hK.out _ _ HL113_.out (fun hHeld => ?_)
       clear hK K
       refine norm_any' (fun K hK => ?_); go_simp; refine hK _ _ ?_; clear hK K
       refine wpAnyH_ready (rs := [4, 15]) (by kernel_rfl) (by simp) (AllReadyH.cons rfl (fun K hK => ?_) (AllReadyH.cons rfl (fun K hK => ?_) AllReadyH.nil))
       ·go_simp
        have HL114_ : Hid _ := HL113_.out.go (bel1 Z113 (.map #[] 0))
        have HM114_ : Hid _ := HM113_.out.one HL113_.out.bel.size (bel1 Z113 (.map #[] 0)) (Nat.le_refl _) (heap_alloc_new Z113 (.map #[] 0))
        obtain ⟨eb, heeb⟩ : ∃ eb, Z113.heap.size = eb := ⟨_, rfl⟩
        rw [heeb] at HM114_
        generalize Z113.alloc (.map #[] 0) = Z114 at *
        rw [heeb]
        clear heeb
        clear HL113_ HM113_
        refine hK.out _ _ HL114_.out (fun hHeld => ?_)
        clear hK K
        refine norm_any' (fun K hK => ?_); go_simp; refine hK _ _ ?_; clear hK K
        refine wpAnyH_ready (rs := [15]) (by kernel_rfl) (by simp) (AllReadyH.cons rfl (fun K hK => ?_) AllReadyH.nil)
        go_simp
        refine Calls.mono (HK1.out Z114) ?_
        rintro e Z115 ⟨g1, t1, rfl, hga, hta, hlo, hlt, hhi, hbx⟩
        have HL115_ : Hid _ := HL114_.out.go hbx
        have HM115_ : Hid _ := HM114_.out.two HL114_.out.bel.size hbx hlo hlt hga hta
        clear hga hta hlo hlt hhi hbx
        clear HL114_ HM114_
        refine hK.out _ _ HL115_.out (fun hHeld => ?_)
        clear hK K
        refine norm_any' (fun K hK => ?_); go_simp; refine hK _ _ ?_; clear hK K
        refine wpAnyH_take (i := 16) (v := .agg #[.pointer (some ⟨g0, 0, none⟩), .int .i64 0, .pointer (some ⟨t0, 0, none⟩), .pointer (some ⟨g1, 0, none⟩), .int .i64 0, .pointer (some ⟨t1, 0, none⟩)]) rfl (by kernel_rfl) (by kernel_rfl) (by kernel_rfl) (fun _ _ _ h => h) (Or.inl ⟨by rfl, by intro w hs; go_simp⟩) hHeld ?_
        refine norm_any' (fun K hK => ?_); go_simp; refine hK _ _ ?_; clear hK K
        refine wpAnyH_take (i := 17) (v := .agg (tq0 srv x y sb eb nb g0 t0 g1 t1)) rfl (by kernel_rfl) (by kernel_rfl) (by kernel_rfl) (fun _ _ _ h => h) (Or.inl ⟨by rfl, by intro w hs; kernel_rfl⟩) hHeld ?_
        refine norm_any' (fun K hK => ?_); go_simp; refine hK _ _ ?_; clear hK K
        refine wpAnyH_ready (rs := [18]) (by kernel_rfl) (by simp) (AllReadyH.cons rfl (fun K hK => ?_) AllReadyH.nil)
        go_simp
        have HTQ : Hid _ := HM115_.out.tq (srv := srv) (x := x) (y := y) (sb := sb) (eb := eb) (nb := nb) (g0 := g0) (t0 := t0) (g1 := g1) (t1 := t1) (List.Mem.tail _ (List.Mem.tail _ (List.Mem.tail _ (List.Mem.tail _ (List.Mem.head _))))) (List.Mem.tail _ (List.Mem.tail _ (List.Mem.head _))) (List.Mem.tail _ (List.Mem.tail _ (List.Mem.tail _ (List.Mem.head _)))) (List.Mem.tail _ (List.Mem.tail _ (List.Mem.tail _ (List.Mem.tail _ (List.Mem.tail _ (List.Mem.tail _ (List.Mem.head _))))))) (List.Mem.tail _ (List.Mem.tail _ (List.Mem.tail _ (List.Mem.tail _ (List.Mem.tail _ (List.Mem.head _)))))) (List.Mem.tail _ (List.Mem.head _)) (List.Mem.head _) (by
          have hn := HM115_.out.nd
          simp only [List.map_cons, List.map_nil, List.nodup_cons, List.mem_cons, List.not_mem_nil, not_or, or_false, not_false_eq_true, and_true, List.nodup_nil] at hn ⊢
          obtain ⟨⟨gf_, gb_, gc_, ga_, ge_, gd_⟩, ⟨fb_, fc_, fa_, fe_, fd_⟩, ⟨bc_, ba_, be_, bd_⟩, ⟨ca_, ce_, cd_⟩, ⟨ae_, ad_⟩, ed_⟩ := hn
          exact ⟨⟨Ne.symm ba_, Ne.symm ca_, ad_, ae_, Ne.symm fa_, Ne.symm ga_⟩, ⟨bc_, bd_, be_, Ne.symm fb_, Ne.symm gb_⟩, ⟨cd_, ce_, Ne.symm fc_, Ne.symm gc_⟩, ⟨Ne.symm ed_, Ne.symm fd_, Ne.symm gd_⟩, ⟨Ne.symm fe_, Ne.symm ge_⟩, Ne.symm gf_⟩) HL115_.out.bel.size
        have HLT : Hid _ := HL115_.out.go (bel1 _ (.cells (tq0 srv x y sb eb nb g0 t0 g1 t1) 89))
        refine hK.out _ _ HLT.out (fun hHeld => ?_)
        clear hK K; refine norm_any' (fun K hK => ?_); go_simp; refine hK _ _ ?_; clear hK K
        refine wpAnyH_take (i := 19) rfl (by kernel_rfl) (by kernel_rfl) (by kernel_rfl) (fun _ _ _ h => h) (Or.inl ⟨by rfl, by intro w hs; go_simp; rfl⟩) hHeld ?_
        refine norm_any' (fun K hK => ?_); go_simp; refine hK _ _ ?_; clear hK K
        refine wpAnyH_done (by kernel_rfl) ?_ _
        go_wp2
        go_meet
        case rel => exact ⟨_, sb, eb, nb, g0, t0, g1, t1, rfl, HTQ.out.1, HLT.out, HTQ.out.2⟩
       ·go_simp
        refine Calls.mono (HK1.out Z113) ?_
        rintro e Z116 ⟨g1, t1, rfl, hga, hta, hlo, hlt, hhi, hbx⟩
        have HL116_ : Hid _ := HL113_.out.go hbx
        have HM116_ : Hid _ := HM113_.out.two HL113_.out.bel.size hbx hlo hlt hga hta
        clear hga hta hlo hlt hhi hbx
        clear HL113_ HM113_
        refine hK.out _ _ HL116_.out (fun hHeld => ?_)
        clear hK K
        refine norm_any' (fun K hK => ?_); go_simp; refine hK _ _ ?_; clear hK K
        refine wpAnyH_take (i := 16) (v := .agg #[.pointer (some ⟨g0, 0, none⟩), .int .i64 0, .pointer (some ⟨t0, 0, none⟩), .pointer (some ⟨g1, 0, none⟩), .int .i64 0, .pointer (some ⟨t1, 0, none⟩)]) rfl (by kernel_rfl) (by kernel_rfl) (by kernel_rfl) (fun _ _ _ h => h) (Or.inl ⟨by rfl, by intro w hs; go_simp⟩) hHeld ?_
        refine norm_any' (fun K hK => ?_); go_simp; refine hK _ _ ?_; clear hK K
        refine wpAnyH_ready (rs := [4]) (by kernel_rfl) (by simp) (AllReadyH.cons rfl (fun K hK => ?_) AllReadyH.nil)
        go_simp
        have HL117_ : Hid _ := HL116_.out.go (bel1 Z116 (.map #[] 0))
        have HM117_ : Hid _ := HM116_.out.one HL116_.out.bel.size (bel1 Z116 (.map #[] 0)) (Nat.le_refl _) (heap_alloc_new Z116 (.map #[] 0))
        obtain ⟨eb, heeb⟩ : ∃ eb, Z116.heap.size = eb := ⟨_, rfl⟩
        rw [heeb] at HM117_
        generalize Z116.alloc (.map #[] 0) = Z117 at *
        rw [heeb]
        clear heeb
        clear HL116_ HM116_
        refine hK.out _ _ HL117_.out (fun hHeld => ?_)
        clear hK K
        refine norm_any' (fun K hK => ?_); go_simp; refine hK _ _ ?_; clear hK K
        refine wpAnyH_take (i := 17) (v := .agg (tq0 srv x y sb eb nb g0 t0 g1 t1)) rfl (by kernel_rfl) (by kernel_rfl) (by kernel_rfl) (fun _ _ _ h => h) (Or.inl ⟨by rfl, by intro w hs; kernel_rfl⟩) hHeld ?_
        refine norm_any' (fun K hK => ?_); go_simp; refine hK _ _ ?_; clear hK K
        refine wpAnyH_ready (rs := [18]) (by kernel_rfl) (by simp) (AllReadyH.cons rfl (fun K hK => ?_) AllReadyH.nil)
        go_simp
        have HTQ : Hid _ := HM117_.out.tq (srv := srv) (x := x) (y := y) (sb := sb) (eb := eb) (nb := nb) (g0 := g0) (t0 := t0) (g1 := g1) (t1 := t1) (List.Mem.tail _ (List.Mem.tail _ (List.Mem.tail _ (List.Mem.tail _ (List.Mem.head _))))) (List.Mem.head _) (List.Mem.tail _ (List.Mem.tail _ (List.Mem.tail _ (List.Mem.head _)))) (List.Mem.tail _ (List.Mem.tail _ (List.Mem.tail _ (List.Mem.tail _ (List.Mem.tail _ (List.Mem.tail _ (List.Mem.head _))))))) (List.Mem.tail _ (List.Mem.tail _ (List.Mem.tail _ (List.Mem.tail _ (List.Mem.tail _ (List.Mem.head _)))))) (List.Mem.tail _ (List.Mem.tail _ (List.Mem.head _))) (List.Mem.tail _ (List.Mem.head _)) (by
          have hn := HM117_.out.nd
          simp only [List.map_cons, List.map_nil, List.nodup_cons, List.mem_cons, List.not_mem_nil, not_or, or_false, not_false_eq_true, and_true, List.nodup_nil] at hn ⊢
          obtain ⟨⟨bg_, bf_, bc_, ba_, be_, bd_⟩, ⟨gf_, gc_, ga_, ge_, gd_⟩, ⟨fc_, fa_, fe_, fd_⟩, ⟨ca_, ce_, cd_⟩, ⟨ae_, ad_⟩, ed_⟩ := hn
          exact ⟨⟨Ne.symm ba_, Ne.symm ca_, ad_, ae_, Ne.symm fa_, Ne.symm ga_⟩, ⟨bc_, bd_, be_, bf_, bg_⟩, ⟨cd_, ce_, Ne.symm fc_, Ne.symm gc_⟩, ⟨Ne.symm ed_, Ne.symm fd_, Ne.symm gd_⟩, ⟨Ne.symm fe_, Ne.symm ge_⟩, Ne.symm gf_⟩) HL117_.out.bel.size
        have HLT : Hid _ := HL117_.out.go (bel1 _ (.cells (tq0 srv x y sb eb nb g0 t0 g1 t1) 89))
        refine hK.out _ _ HLT.out (fun hHeld => ?_)
        clear hK K; refine norm_any' (fun K hK => ?_); go_simp; refine hK _ _ ?_; clear hK K
        refine wpAnyH_take (i := 19) rfl (by kernel_rfl) (by kernel_rfl) (by kernel_rfl) (fun _ _ _ h => h) (Or.inl ⟨by rfl, by intro w hs; go_simp; rfl⟩) hHeld ?_
        refine norm_any' (fun K hK => ?_); go_simp; refine hK _ _ ?_; clear hK K
        refine wpAnyH_done (by kernel_rfl) ?_ _
        go_wp2
        go_meet
        case rel => exact ⟨_, sb, eb, nb, g0, t0, g1, t1, rfl, HTQ.out.1, HLT.out, HTQ.out.2⟩
      ·go_simp
       refine Calls.mono (HK1.out Z107) ?_
       rintro e Z118 ⟨g1, t1, rfl, hga, hta, hlo, hlt, hhi, hbx⟩
       have HL118_ : Hid _ := HL107_.out.go hbx
       have HM118_ : Hid _ := HM107_.out.two HL107_.out.bel.size hbx hlo hlt hga hta
       clear hga hta hlo hlt hhi hbx
       clear HL107_ HM107_
       refine hK.out _ _ HL118_.out (fun hHeld => ?_)
       clear hK K
       refine norm_any' (fun K hK => ?_); go_simp; refine hK _ _ ?_; clear hK K
       refine wpAnyH_take (i := 16) (v := .agg #[.pointer (some ⟨g0, 0, none⟩), .int .i64 0, .pointer (some ⟨t0, 0, none⟩), .pointer (some ⟨g1, 0, none⟩), .int .i64 0, .pointer (some ⟨t1, 0, none⟩)]) rfl (by kernel_rfl) (by kernel_rfl) (by kernel_rfl) (fun _ _ _ h => h) (Or.inl ⟨by rfl, by intro w hs; go_simp⟩) hHeld ?_
       refine norm_any' (fun K hK => ?_); go_simp; refine hK _ _ ?_; clear hK K
       refine wpAnyH_ready (rs := [4, 5]) (by kernel_rfl) (by simp) (AllReadyH.cons rfl (fun K hK => ?_) (AllReadyH.cons rfl (fun K hK => ?_) AllReadyH.nil))
       ·go_simp
        have HL119_ : Hid _ := HL118_.out.go (bel1 Z118 (.map #[] 0))
        have HM119_ : Hid _ := HM118_.out.one HL118_.out.bel.size (bel1 Z118 (.map #[] 0)) (Nat.le_refl _) (heap_alloc_new Z118 (.map #[] 0))
        obtain ⟨eb, heeb⟩ : ∃ eb, Z118.heap.size = eb := ⟨_, rfl⟩
        rw [heeb] at HM119_
        generalize Z118.alloc (.map #[] 0) = Z119 at *
        rw [heeb]
        clear heeb
        clear HL118_ HM118_
        refine hK.out _ _ HL119_.out (fun hHeld => ?_)
        clear hK K
        refine norm_any' (fun K hK => ?_); go_simp; refine hK _ _ ?_; clear hK K
        refine wpAnyH_ready (rs := [5]) (by kernel_rfl) (by simp) (AllReadyH.cons rfl (fun K hK => ?_) AllReadyH.nil)
        go_simp
        have HL120_ : Hid _ := HL119_.out.go (bel1 Z119 (.map #[] 0))
        have HM120_ : Hid _ := HM119_.out.one HL119_.out.bel.size (bel1 Z119 (.map #[] 0)) (Nat.le_refl _) (heap_alloc_new Z119 (.map #[] 0))
        obtain ⟨nb, henb⟩ : ∃ nb, Z119.heap.size = nb := ⟨_, rfl⟩
        rw [henb] at HM120_
        generalize Z119.alloc (.map #[] 0) = Z120 at *
        rw [henb]
        clear henb
        clear HL119_ HM119_
        refine hK.out _ _ HL120_.out (fun hHeld => ?_)
        clear hK K
        refine norm_any' (fun K hK => ?_); go_simp; refine hK _ _ ?_; clear hK K
        refine wpAnyH_take (i := 17) (v := .agg (tq0 srv x y sb eb nb g0 t0 g1 t1)) rfl (by kernel_rfl) (by kernel_rfl) (by kernel_rfl) (fun _ _ _ h => h) (Or.inl ⟨by rfl, by intro w hs; kernel_rfl⟩) hHeld ?_
        refine norm_any' (fun K hK => ?_); go_simp; refine hK _ _ ?_; clear hK K
        refine wpAnyH_ready (rs := [18]) (by kernel_rfl) (by simp) (AllReadyH.cons rfl (fun K hK => ?_) AllReadyH.nil)
        go_simp
        have HTQ : Hid _ := HM120_.out.tq (srv := srv) (x := x) (y := y) (sb := sb) (eb := eb) (nb := nb) (g0 := g0) (t0 := t0) (g1 := g1) (t1 := t1) (List.Mem.tail _ (List.Mem.tail _ (List.Mem.tail _ (List.Mem.tail _ (List.Mem.head _))))) (List.Mem.tail _ (List.Mem.head _)) (List.Mem.head _) (List.Mem.tail _ (List.Mem.tail _ (List.Mem.tail _ (List.Mem.tail _ (List.Mem.tail _ (List.Mem.tail _ (List.Mem.head _))))))) (List.Mem.tail _ (List.Mem.tail _ (List.Mem.tail _ (List.Mem.tail _ (List.Mem.tail _ (List.Mem.head _)))))) (List.Mem.tail _ (List.Mem.tail _ (List.Mem.tail _ (List.Mem.head _)))) (List.Mem.tail _ (List.Mem.tail _ (List.Mem.head _))) (by
          have hn := HM120_.out.nd
          simp only [List.map_cons, List.map_nil, List.nodup_cons, List.mem_cons, List.not_mem_nil, not_or, or_false, not_false_eq_true, and_true, List.nodup_nil] at hn ⊢
          obtain ⟨⟨cb_, cg_, cf_, ca_, ce_, cd_⟩, ⟨bg_, bf_, ba_, be_, bd_⟩, ⟨gf_, ga_, ge_, gd_⟩, ⟨fa_, fe_, fd_⟩, ⟨ae_, ad_⟩, ed_⟩ := hn
          exact ⟨⟨Ne.symm ba_, Ne.symm ca_, ad_, ae_, Ne.symm fa_, Ne.symm ga_⟩, ⟨Ne.symm cb_, bd_, be_, bf_, bg_⟩, ⟨cd_, ce_, cf_, cg_⟩, ⟨Ne.symm ed_, Ne.symm fd_, Ne.symm gd_⟩, ⟨Ne.symm fe_, Ne.symm ge_⟩, Ne.symm gf_⟩) HL120_.out.bel.size
        have HLT : Hid _ := HL120_.out.go (bel1 _ (.cells (tq0 srv x y sb eb nb g0 t0 g1 t1) 89))
        refine hK.out _ _ HLT.out (fun hHeld => ?_)
        clear hK K; refine norm_any' (fun K hK => ?_); go_simp; refine hK _ _ ?_; clear hK K
        refine wpAnyH_take (i := 19) rfl (by kernel_rfl) (by kernel_rfl) (by kernel_rfl) (fun _ _ _ h => h) (Or.inl ⟨by rfl, by intro w hs; go_simp; rfl⟩) hHeld ?_
        refine norm_any' (fun K hK => ?_); go_simp; refine hK _ _ ?_; clear hK K
        refine wpAnyH_done (by kernel_rfl) ?_ _
        go_wp2
        go_meet
        case rel => exact ⟨_, sb, eb, nb, g0, t0, g1, t1, rfl, HTQ.out.1, HLT.out, HTQ.out.2⟩
       ·go_simp
        have HL121_ : Hid _ := HL118_.out.go (bel1 Z118 (.map #[] 0))
        have HM121_ : Hid _ := HM118_.out.one HL118_.out.bel.size (bel1 Z118 (.map #[] 0)) (Nat.le_refl _) (heap_alloc_new Z118 (.map #[] 0))
        obtain ⟨nb, henb⟩ : ∃ nb, Z118.heap.size = nb := ⟨_, rfl⟩
        rw [henb] at HM121_
        generalize Z118.alloc (.map #[] 0) = Z121 at *
        rw [henb]
        clear henb
        clear HL118_ HM118_
        refine hK.out _ _ HL121_.out (fun hHeld => ?_)
        clear hK K
        refine norm_any' (fun K hK => ?_); go_simp; refine hK _ _ ?_; clear hK K
        refine wpAnyH_ready (rs := [4]) (by kernel_rfl) (by simp) (AllReadyH.cons rfl (fun K hK => ?_) AllReadyH.nil)
        go_simp
        have HL122_ : Hid _ := HL121_.out.go (bel1 Z121 (.map #[] 0))
        have HM122_ : Hid _ := HM121_.out.one HL121_.out.bel.size (bel1 Z121 (.map #[] 0)) (Nat.le_refl _) (heap_alloc_new Z121 (.map #[] 0))
        obtain ⟨eb, heeb⟩ : ∃ eb, Z121.heap.size = eb := ⟨_, rfl⟩
        rw [heeb] at HM122_
        generalize Z121.alloc (.map #[] 0) = Z122 at *
        rw [heeb]
        clear heeb
        clear HL121_ HM121_
        refine hK.out _ _ HL122_.out (fun hHeld => ?_)
        clear hK K
        refine norm_any' (fun K hK => ?_); go_simp; refine hK _ _ ?_; clear hK K
        refine wpAnyH_take (i := 17) (v := .agg (tq0 srv x y sb eb nb g0 t0 g1 t1)) rfl (by kernel_rfl) (by kernel_rfl) (by kernel_rfl) (fun _ _ _ h => h) (Or.inl ⟨by rfl, by intro w hs; kernel_rfl⟩) hHeld ?_
        refine norm_any' (fun K hK => ?_); go_simp; refine hK _ _ ?_; clear hK K
        refine wpAnyH_ready (rs := [18]) (by kernel_rfl) (by simp) (AllReadyH.cons rfl (fun K hK => ?_) AllReadyH.nil)
        go_simp
        have HTQ : Hid _ := HM122_.out.tq (srv := srv) (x := x) (y := y) (sb := sb) (eb := eb) (nb := nb) (g0 := g0) (t0 := t0) (g1 := g1) (t1 := t1) (List.Mem.tail _ (List.Mem.tail _ (List.Mem.tail _ (List.Mem.tail _ (List.Mem.head _))))) (List.Mem.head _) (List.Mem.tail _ (List.Mem.head _)) (List.Mem.tail _ (List.Mem.tail _ (List.Mem.tail _ (List.Mem.tail _ (List.Mem.tail _ (List.Mem.tail _ (List.Mem.head _))))))) (List.Mem.tail _ (List.Mem.tail _ (List.Mem.tail _ (List.Mem.tail _ (List.Mem.tail _ (List.Mem.head _)))))) (List.Mem.tail _ (List.Mem.tail _ (List.Mem.tail _ (List.Mem.head _)))) (List.Mem.tail _ (List.Mem.tail _ (List.Mem.head _))) (by
          have hn := HM122_.out.nd
          simp only [List.map_cons, List.map_nil, List.nodup_cons, List.mem_cons, List.not_mem_nil, not_or, or_false, not_false_eq_true, and_true, List.nodup_nil] at hn ⊢
          obtain ⟨⟨bc_, bg_, bf_, ba_, be_, bd_⟩, ⟨cg_, cf_, ca_, ce_, cd_⟩, ⟨gf_, ga_, ge_, gd_⟩, ⟨fa_, fe_, fd_⟩, ⟨ae_, ad_⟩, ed_⟩ := hn
          exact ⟨⟨Ne.symm ba_, Ne.symm ca_, ad_, ae_, Ne.symm fa_, Ne.symm ga_⟩, ⟨bc_, bd_, be_, bf_, bg_⟩, ⟨cd_, ce_, cf_, cg_⟩, ⟨Ne.symm ed_, Ne.symm fd_, Ne.symm gd_⟩, ⟨Ne.symm fe_, Ne.symm ge_⟩, Ne.symm gf_⟩) HL122_.out.bel.size
        have HLT : Hid _ := HL122_.out.go (bel1 _ (.cells (tq0 srv x y sb eb nb g0 t0 g1 t1) 89))
        refine hK.out _ _ HLT.out (fun hHeld => ?_)
        clear hK K; refine norm_any' (fun K hK => ?_); go_simp; refine hK _ _ ?_; clear hK K
        refine wpAnyH_take (i := 19) rfl (by kernel_rfl) (by kernel_rfl) (by kernel_rfl) (fun _ _ _ h => h) (Or.inl ⟨by rfl, by intro w hs; go_simp; rfl⟩) hHeld ?_
        refine norm_any' (fun K hK => ?_); go_simp; refine hK _ _ ?_; clear hK K
        refine wpAnyH_done (by kernel_rfl) ?_ _
        go_wp2
        go_meet
        case rel => exact ⟨_, sb, eb, nb, g0, t0, g1, t1, rfl, HTQ.out.1, HLT.out, HTQ.out.2⟩
     ·go_simp
      have HL123_ : Hid _ := HL106_.out.go (bel1 Z106 (.map #[] 0))
      have HM123_ : Hid _ := HM106_.out.one HL106_.out.bel.size (bel1 Z106 (.map #[] 0)) (Nat.le_refl _) (heap_alloc_new Z106 (.map #[] 0))
      obtain ⟨eb, heeb⟩ : ∃ eb, Z106.heap.size = eb := ⟨_, rfl⟩
      rw [heeb] at HM123_
      generalize Z106.alloc (.map #[] 0) = Z123 at *
      rw [heeb]
      clear heeb
      clear HL106_ HM106_
      refine hK.out _ _ HL123_.out (fun hHeld => ?_)
      clear hK K
      refine norm_any' (fun K hK => ?_); go_simp; refine hK _ _ ?_; clear hK K
      refine wpAnyH_ready (rs := [3, 5, 15]) (by kernel_rfl) (by simp) (AllReadyH.cons rfl (fun K hK => ?_) (AllReadyH.cons rfl (fun K hK => ?_) (AllReadyH.cons rfl (fun K hK => ?_) AllReadyH.nil)))
      ·go_simp
       have HL124_ : Hid _ := HL123_.out.go (bel1 Z123 (.map #[] 0))
       have HM124_ : Hid _ := HM123_.out.one HL123_.out.bel.size (bel1 Z123 (.map #[] 0)) (Nat.le_refl _) (heap_alloc_new Z123 (.map #[] 0))
       obtain ⟨sb, hesb⟩ : ∃ sb, Z123.heap.size = sb := ⟨_, rfl⟩
       rw [hesb] at HM124_
       generalize Z123.alloc (.map #[] 0) = Z124 at *
       rw [hesb]
       clear hesb
       clear HL123_ HM123_
       refine hK.out _ _ HL124_.out (fun hHeld => ?_)
       clear hK K
       refine norm_any' (fun K hK => ?_); go_simp; refine hK _ _ ?_; clear hK K
       refine wpAnyH_ready (rs := [5, 15]) (by kernel_rfl) (by simp) (AllReadyH.cons rfl (fun K hK => ?_) (AllReadyH.cons rfl (fun K hK => ?_) AllReadyH.nil))
       ·go_simp
        have HL125_ : Hid _ := HL124_.out.go (bel1 Z124 (.map #[] 0))
        have HM125_ : Hid _ := HM124_.out.one HL124_.out.bel.size (bel1 Z124 (.map #[] 0)) (Nat.le_refl _) (heap_alloc_new Z124 (.map #[] 0))
        obtain ⟨nb, henb⟩ : ∃ nb, Z124.heap.size = nb := ⟨_, rfl⟩
        rw [henb] at HM125_
        generalize Z124.alloc (.map #[] 0) = Z125 at *
        rw [henb]
        clear henb
        clear HL124_ HM124_
        refine hK.out _ _ HL125_.out (fun hHeld => ?_)
        clear hK K
        refine norm_any' (fun K hK => ?_); go_simp; refine hK _ _ ?_; clear hK K
        refine wpAnyH_ready (rs := [15]) (by kernel_rfl) (by simp) (AllReadyH.cons rfl (fun K hK => ?_) AllReadyH.nil)
        go_simp
        refine Calls.mono (HK1.out Z125) ?_
        rintro e Z126 ⟨g1, t1, rfl, hga, hta, hlo, hlt, hhi, hbx⟩
        have HL126_ : Hid _ := HL125_.out.go hbx
        have HM126_ : Hid _ := HM125_.out.two HL125_.out.bel.size hbx hlo hlt hga hta
        clear hga hta hlo hlt hhi hbx
        clear HL125_ HM125_
        refine hK.out _ _ HL126_.out (fun hHeld => ?_)
        clear hK K
        refine norm_any' (fun K hK => ?_); go_simp; refine hK _ _ ?_; clear hK K
        refine wpAnyH_take (i := 16) (v := .agg #[.pointer (some ⟨g0, 0, none⟩), .int .i64 0, .pointer (some ⟨t0, 0, none⟩), .pointer (some ⟨g1, 0, none⟩), .int .i64 0, .pointer (some ⟨t1, 0, none⟩)]) rfl (by kernel_rfl) (by kernel_rfl) (by kernel_rfl) (fun _ _ _ h => h) (Or.inl ⟨by rfl, by intro w hs; go_simp⟩) hHeld ?_
        refine norm_any' (fun K hK => ?_); go_simp; refine hK _ _ ?_; clear hK K
        refine wpAnyH_take (i := 17) (v := .agg (tq0 srv x y sb eb nb g0 t0 g1 t1)) rfl (by kernel_rfl) (by kernel_rfl) (by kernel_rfl) (fun _ _ _ h => h) (Or.inl ⟨by rfl, by intro w hs; kernel_rfl⟩) hHeld ?_
        refine norm_any' (fun K hK => ?_); go_simp; refine hK _ _ ?_; clear hK K
        refine wpAnyH_ready (rs := [18]) (by kernel_rfl) (by simp) (AllReadyH.cons rfl (fun K hK => ?_) AllReadyH.nil)
        go_simp
        have HTQ : Hid _ := HM126_.out.tq (srv := srv) (x := x) (y := y) (sb := sb) (eb := eb) (nb := nb) (g0 := g0) (t0 := t0) (g1 := g1) (t1 := t1) (List.Mem.tail _ (List.Mem.tail _ (List.Mem.tail _ (List.Mem.head _)))) (List.Mem.tail _ (List.Mem.tail _ (List.Mem.tail _ (List.Mem.tail _ (List.Mem.head _))))) (List.Mem.tail _ (List.Mem.tail _ (List.Mem.head _))) (List.Mem.tail _ (List.Mem.tail _ (List.Mem.tail _ (List.Mem.tail _ (List.Mem.tail _ (List.Mem.tail _ (List.Mem.head _))))))) (List.Mem.tail _ (List.Mem.tail _ (List.Mem.tail _ (List.Mem.tail _ (List.Mem.tail _ (List.Mem.head _)))))) (List.Mem.tail _ (List.Mem.head _)) (List.Mem.head _) (by
          have hn := HM126_.out.nd
          simp only [List.map_cons, List.map_nil, List.nodup_cons, List.mem_cons, List.not_mem_nil, not_or, or_false, not_false_eq_true, and_true, List.nodup_nil] at hn ⊢
          obtain ⟨⟨gf_, gc_, ga_, gb_, ge_, gd_⟩, ⟨fc_, fa_, fb_, fe_, fd_⟩, ⟨ca_, cb_, ce_, cd_⟩, ⟨ab_, ae_, ad_⟩, ⟨be_, bd_⟩, ed_⟩ := hn
          exact ⟨⟨ab_, Ne.symm ca_, ad_, ae_, Ne.symm fa_, Ne.symm ga_⟩, ⟨Ne.symm cb_, bd_, be_, Ne.symm fb_, Ne.symm gb_⟩, ⟨cd_, ce_, Ne.symm fc_, Ne.symm gc_⟩, ⟨Ne.symm ed_, Ne.symm fd_, Ne.symm gd_⟩, ⟨Ne.symm fe_, Ne.symm ge_⟩, Ne.symm gf_⟩) HL126_.out.bel.size
        have HLT : Hid _ := HL126_.out.go (bel1 _ (.cells (tq0 srv x y sb eb nb g0 t0 g1 t1) 89))
        refine hK.out _ _ HLT.out (fun hHeld => ?_)
        clear hK K; refine norm_any' (fun K hK => ?_); go_simp; refine hK _ _ ?_; clear hK K
        refine wpAnyH_take (i := 19) rfl (by kernel_rfl) (by kernel_rfl) (by kernel_rfl) (fun _ _ _ h => h) (Or.inl ⟨by rfl, by intro w hs; go_simp; rfl⟩) hHeld ?_
        refine norm_any' (fun K hK => ?_); go_simp; refine hK _ _ ?_; clear hK K
        refine wpAnyH_done (by kernel_rfl) ?_ _
        go_wp2
        go_meet
        case rel => exact ⟨_, sb, eb, nb, g0, t0, g1, t1, rfl, HTQ.out.1, HLT.out, HTQ.out.2⟩
       ·go_simp
        refine Calls.mono (HK1.out Z124) ?_
        rintro e Z127 ⟨g1, t1, rfl, hga, hta, hlo, hlt, hhi, hbx⟩
        have HL127_ : Hid _ := HL124_.out.go hbx
        have HM127_ : Hid _ := HM124_.out.two HL124_.out.bel.size hbx hlo hlt hga hta
        clear hga hta hlo hlt hhi hbx
        clear HL124_ HM124_
        refine hK.out _ _ HL127_.out (fun hHeld => ?_)
        clear hK K
        refine norm_any' (fun K hK => ?_); go_simp; refine hK _ _ ?_; clear hK K
        refine wpAnyH_take (i := 16) (v := .agg #[.pointer (some ⟨g0, 0, none⟩), .int .i64 0, .pointer (some ⟨t0, 0, none⟩), .pointer (some ⟨g1, 0, none⟩), .int .i64 0, .pointer (some ⟨t1, 0, none⟩)]) rfl (by kernel_rfl) (by kernel_rfl) (by kernel_rfl) (fun _ _ _ h => h) (Or.inl ⟨by rfl, by intro w hs; go_simp⟩) hHeld ?_
        refine norm_any' (fun K hK => ?_); go_simp; refine hK _ _ ?_; clear hK K
        refine wpAnyH_ready (rs := [5]) (by kernel_rfl) (by simp) (AllReadyH.cons rfl (fun K hK => ?_) AllReadyH.nil)
        go_simp
        have HL128_ : Hid _ := HL127_.out.go (bel1 Z127 (.map #[] 0))
        have HM128_ : Hid _ := HM127_.out.one HL127_.out.bel.size (bel1 Z127 (.map #[] 0)) (Nat.le_refl _) (heap_alloc_new Z127 (.map #[] 0))
        obtain ⟨nb, henb⟩ : ∃ nb, Z127.heap.size = nb := ⟨_, rfl⟩
        rw [henb] at HM128_
        generalize Z127.alloc (.map #[] 0) = Z128 at *
        rw [henb]
        clear henb
        clear HL127_ HM127_
        refine hK.out _ _ HL128_.out (fun hHeld => ?_)
        clear hK K
        refine norm_any' (fun K hK => ?_); go_simp; refine hK _ _ ?_; clear hK K
        refine wpAnyH_take (i := 17) (v := .agg (tq0 srv x y sb eb nb g0 t0 g1 t1)) rfl (by kernel_rfl) (by kernel_rfl) (by kernel_rfl) (fun _ _ _ h => h) (Or.inl ⟨by rfl, by intro w hs; kernel_rfl⟩) hHeld ?_
        refine norm_any' (fun K hK => ?_); go_simp; refine hK _ _ ?_; clear hK K
        refine wpAnyH_ready (rs := [18]) (by kernel_rfl) (by simp) (AllReadyH.cons rfl (fun K hK => ?_) AllReadyH.nil)
        go_simp
        have HTQ : Hid _ := HM128_.out.tq (srv := srv) (x := x) (y := y) (sb := sb) (eb := eb) (nb := nb) (g0 := g0) (t0 := t0) (g1 := g1) (t1 := t1) (List.Mem.tail _ (List.Mem.tail _ (List.Mem.tail _ (List.Mem.head _)))) (List.Mem.tail _ (List.Mem.tail _ (List.Mem.tail _ (List.Mem.tail _ (List.Mem.head _))))) (List.Mem.head _) (List.Mem.tail _ (List.Mem.tail _ (List.Mem.tail _ (List.Mem.tail _ (List.Mem.tail _ (List.Mem.tail _ (List.Mem.head _))))))) (List.Mem.tail _ (List.Mem.tail _ (List.Mem.tail _ (List.Mem.tail _ (List.Mem.tail _ (List.Mem.head _)))))) (List.Mem.tail _ (List.Mem.tail _ (List.Mem.head _))) (List.Mem.tail _ (List.Mem.head _)) (by
          have hn := HM128_.out.nd
          simp only [List.map_cons, List.map_nil, List.nodup_cons, List.mem_cons, List.not_mem_nil, not_or, or_false, not_false_eq_true, and_true, List.nodup_nil] at hn ⊢
          obtain ⟨⟨cg_, cf_, ca_, cb_, ce_, cd_⟩, ⟨gf_, ga_, gb_, ge_, gd_⟩, ⟨fa_, fb_, fe_, fd_⟩, ⟨ab_, ae_, ad_⟩, ⟨be_, bd_⟩, ed_⟩ := hn
          exact ⟨⟨ab_, Ne.symm ca_, ad_, ae_, Ne.symm fa_, Ne.symm ga_⟩, ⟨Ne.symm cb_, bd_, be_, Ne.symm fb_, Ne.symm gb_⟩, ⟨cd_, ce_, cf_, cg_⟩, ⟨Ne.symm ed_, Ne.symm fd_, Ne.symm gd_⟩, ⟨Ne.symm fe_, Ne.symm ge_⟩, Ne.symm gf_⟩) HL128_.out.bel.size
        have HLT : Hid _ := HL128_.out.go (bel1 _ (.cells (tq0 srv x y sb eb nb g0 t0 g1 t1) 89))
        refine hK.out _ _ HLT.out (fun hHeld => ?_)
        clear hK K; refine norm_any' (fun K hK => ?_); go_simp; refine hK _ _ ?_; clear hK K
        refine wpAnyH_take (i := 19) rfl (by kernel_rfl) (by kernel_rfl) (by kernel_rfl) (fun _ _ _ h => h) (Or.inl ⟨by rfl, by intro w hs; go_simp; rfl⟩) hHeld ?_
        refine norm_any' (fun K hK => ?_); go_simp; refine hK _ _ ?_; clear hK K
        refine wpAnyH_done (by kernel_rfl) ?_ _
        go_wp2
        go_meet
        case rel => exact ⟨_, sb, eb, nb, g0, t0, g1, t1, rfl, HTQ.out.1, HLT.out, HTQ.out.2⟩
      ·go_simp
       have HL129_ : Hid _ := HL123_.out.go (bel1 Z123 (.map #[] 0))
       have HM129_ : Hid _ := HM123_.out.one HL123_.out.bel.size (bel1 Z123 (.map #[] 0)) (Nat.le_refl _) (heap_alloc_new Z123 (.map #[] 0))
       obtain ⟨nb, henb⟩ : ∃ nb, Z123.heap.size = nb := ⟨_, rfl⟩
       rw [henb] at HM129_
       generalize Z123.alloc (.map #[] 0) = Z129 at *
       rw [henb]
       clear henb
       clear HL123_ HM123_
       refine hK.out _ _ HL129_.out (fun hHeld => ?_)
       clear hK K
       refine norm_any' (fun K hK => ?_); go_simp; refine hK _ _ ?_; clear hK K
       refine wpAnyH_ready (rs := [3, 15]) (by kernel_rfl) (by simp) (AllReadyH.cons rfl (fun K hK => ?_) (AllReadyH.cons rfl (fun K hK => ?_) AllReadyH.nil))
       ·go_simp
        have HL130_ : Hid _ := HL129_.out.go (bel1 Z129 (.map #[] 0))
        have HM130_ : Hid _ := HM129_.out.one HL129_.out.bel.size (bel1 Z129 (.map #[] 0)) (Nat.le_refl _) (heap_alloc_new Z129 (.map #[] 0))
        obtain ⟨sb, hesb⟩ : ∃ sb, Z129.heap.size = sb := ⟨_, rfl⟩
        rw [hesb] at HM130_
        generalize Z129.alloc (.map #[] 0) = Z130 at *
        rw [hesb]
        clear hesb
        clear HL129_ HM129_
        refine hK.out _ _ HL130_.out (fun hHeld => ?_)
        clear hK K
        refine norm_any' (fun K hK => ?_); go_simp; refine hK _ _ ?_; clear hK K
        refine wpAnyH_ready (rs := [15]) (by kernel_rfl) (by simp) (AllReadyH.cons rfl (fun K hK => ?_) AllReadyH.nil)
        go_simp
        refine Calls.mono (HK1.out Z130) ?_
        rintro e Z131 ⟨g1, t1, rfl, hga, hta, hlo, hlt, hhi, hbx⟩
        have HL131_ : Hid _ := HL130_.out.go hbx
        have HM131_ : Hid _ := HM130_.out.two HL130_.out.bel.size hbx hlo hlt hga hta
        clear hga hta hlo hlt hhi hbx
        clear HL130_ HM130_
        refine hK.out _ _ HL131_.out (fun hHeld => ?_)
        clear hK K
        refine norm_any' (fun K hK => ?_); go_simp; refine hK _ _ ?_; clear hK K
        refine wpAnyH_take (i := 16) (v := .agg #[.pointer (some ⟨g0, 0, none⟩), .int .i64 0, .pointer (some ⟨t0, 0, none⟩), .pointer (some ⟨g1, 0, none⟩), .int .i64 0, .pointer (some ⟨t1, 0, none⟩)]) rfl (by kernel_rfl) (by kernel_rfl) (by kernel_rfl) (fun _ _ _ h => h) (Or.inl ⟨by rfl, by intro w hs; go_simp⟩) hHeld ?_
        refine norm_any' (fun K hK => ?_); go_simp; refine hK _ _ ?_; clear hK K
        refine wpAnyH_take (i := 17) (v := .agg (tq0 srv x y sb eb nb g0 t0 g1 t1)) rfl (by kernel_rfl) (by kernel_rfl) (by kernel_rfl) (fun _ _ _ h => h) (Or.inl ⟨by rfl, by intro w hs; kernel_rfl⟩) hHeld ?_
        refine norm_any' (fun K hK => ?_); go_simp; refine hK _ _ ?_; clear hK K
        refine wpAnyH_ready (rs := [18]) (by kernel_rfl) (by simp) (AllReadyH.cons rfl (fun K hK => ?_) AllReadyH.nil)
        go_simp
        have HTQ : Hid _ := HM131_.out.tq (srv := srv) (x := x) (y := y) (sb := sb) (eb := eb) (nb := nb) (g0 := g0) (t0 := t0) (g1 := g1) (t1 := t1) (List.Mem.tail _ (List.Mem.tail _ (List.Mem.head _))) (List.Mem.tail _ (List.Mem.tail _ (List.Mem.tail _ (List.Mem.tail _ (List.Mem.head _))))) (List.Mem.tail _ (List.Mem.tail _ (List.Mem.tail _ (List.Mem.head _)))) (List.Mem.tail _ (List.Mem.tail _ (List.Mem.tail _ (List.Mem.tail _ (List.Mem.tail _ (List.Mem.tail _ (List.Mem.head _))))))) (List.Mem.tail _ (List.Mem.tail _ (List.Mem.tail _ (List.Mem.tail _ (List.Mem.tail _ (List.Mem.head _)))))) (List.Mem.tail _ (List.Mem.head _)) (List.Mem.head _) (by
          have hn := HM131_.out.nd
          simp only [List.map_cons, List.map_nil, List.nodup_cons, List.mem_cons, List.not_mem_nil, not_or, or_false, not_false_eq_true, and_true, List.nodup_nil] at hn ⊢
          obtain ⟨⟨gf_, ga_, gc_, gb_, ge_, gd_⟩, ⟨fa_, fc_, fb_, fe_, fd_⟩, ⟨ac_, ab_, ae_, ad_⟩, ⟨cb_, ce_, cd_⟩, ⟨be_, bd_⟩, ed_⟩ := hn
          exact ⟨⟨ab_, ac_, ad_, ae_, Ne.symm fa_, Ne.symm ga_⟩, ⟨Ne.symm cb_, bd_, be_, Ne.symm fb_, Ne.symm gb_⟩, ⟨cd_, ce_, Ne.symm fc_, Ne.symm gc_⟩, ⟨Ne.symm ed_, Ne.symm fd_, Ne.symm gd_⟩, ⟨Ne.symm fe_, Ne.symm ge_⟩, Ne.symm gf_⟩) HL131_.out.bel.size
        have HLT : Hid _ := HL131_.out.go (bel1 _ (.cells (tq0 srv x y sb eb nb g0 t0 g1 t1) 89))
        refine hK.out _ _ HLT.out (fun hHeld => ?_)
        clear hK K; refine norm_any' (fun K hK => ?_); go_simp; refine hK _ _ ?_; clear hK K
        refine wpAnyH_take (i := 19) rfl (by kernel_rfl) (by kernel_rfl) (by kernel_rfl) (fun _ _ _ h => h) (Or.inl ⟨by rfl, by intro w hs; go_simp; rfl⟩) hHeld ?_
        refine norm_any' (fun K hK => ?_); go_simp; refine hK _ _ ?_; clear hK K
        refine wpAnyH_done (by kernel_rfl) ?_ _
        go_wp2
        go_meet
        case rel => exact ⟨_, sb, eb, nb, g0, t0, g1, t1, rfl, HTQ.out.1, HLT.out, HTQ.out.2⟩
       ·go_simp
        refine Calls.mono (HK1.out Z129) ?_
        rintro e Z132 ⟨g1, t1, rfl, hga, hta, hlo, hlt, hhi, hbx⟩
        have HL132_ : Hid _ := HL129_.out.go hbx
        have HM132_ : Hid _ := HM129_.out.two HL129_.out.bel.size hbx hlo hlt hga hta
        clear hga hta hlo hlt hhi hbx
        clear HL129_ HM129_
        refine hK.out _ _ HL132_.out (fun hHeld => ?_)
        clear hK K
        refine norm_any' (fun K hK => ?_); go_simp; refine hK _ _ ?_; clear hK K
        refine wpAnyH_take (i := 16) (v := .agg #[.pointer (some ⟨g0, 0, none⟩), .int .i64 0, .pointer (some ⟨t0, 0, none⟩), .pointer (some ⟨g1, 0, none⟩), .int .i64 0, .pointer (some ⟨t1, 0, none⟩)]) rfl (by kernel_rfl) (by kernel_rfl) (by kernel_rfl) (fun _ _ _ h => h) (Or.inl ⟨by rfl, by intro w hs; go_simp⟩) hHeld ?_
        refine norm_any' (fun K hK => ?_); go_simp; refine hK _ _ ?_; clear hK K
        refine wpAnyH_ready (rs := [3]) (by kernel_rfl) (by simp) (AllReadyH.cons rfl (fun K hK => ?_) AllReadyH.nil)
        go_simp
        have HL133_ : Hid _ := HL132_.out.go (bel1 Z132 (.map #[] 0))
        have HM133_ : Hid _ := HM132_.out.one HL132_.out.bel.size (bel1 Z132 (.map #[] 0)) (Nat.le_refl _) (heap_alloc_new Z132 (.map #[] 0))
        obtain ⟨sb, hesb⟩ : ∃ sb, Z132.heap.size = sb := ⟨_, rfl⟩
        rw [hesb] at HM133_
        generalize Z132.alloc (.map #[] 0) = Z133 at *
        rw [hesb]
        clear hesb
        clear HL132_ HM132_
        refine hK.out _ _ HL133_.out (fun hHeld => ?_)
        clear hK K
        refine norm_any' (fun K hK => ?_); go_simp; refine hK _ _ ?_; clear hK K
        refine wpAnyH_take (i := 17) (v := .agg (tq0 srv x y sb eb nb g0 t0 g1 t1)) rfl (by kernel_rfl) (by kernel_rfl) (by kernel_rfl) (fun _ _ _ h => h) (Or.inl ⟨by rfl, by intro w hs; kernel_rfl⟩) hHeld ?_
        refine norm_any' (fun K hK => ?_); go_simp; refine hK _ _ ?_; clear hK K
        refine wpAnyH_ready (rs := [18]) (by kernel_rfl) (by simp) (AllReadyH.cons rfl (fun K hK => ?_) AllReadyH.nil)
        go_simp
        have HTQ : Hid _ := HM133_.out.tq (srv := srv) (x := x) (y := y) (sb := sb) (eb := eb) (nb := nb) (g0 := g0) (t0 := t0) (g1 := g1) (t1 := t1) (List.Mem.head _) (List.Mem.tail _ (List.Mem.tail _ (List.Mem.tail _ (List.Mem.tail _ (List.Mem.head _))))) (List.Mem.tail _ (List.Mem.tail _ (List.Mem.tail _ (List.Mem.head _)))) (List.Mem.tail _ (List.Mem.tail _ (List.Mem.tail _ (List.Mem.tail _ (List.Mem.tail _ (List.Mem.tail _ (List.Mem.head _))))))) (List.Mem.tail _ (List.Mem.tail _ (List.Mem.tail _ (List.Mem.tail _ (List.Mem.tail _ (List.Mem.head _)))))) (List.Mem.tail _ (List.Mem.tail _ (List.Mem.head _))) (List.Mem.tail _ (List.Mem.head _)) (by
          have hn := HM133_.out.nd
          simp only [List.map_cons, List.map_nil, List.nodup_cons, List.mem_cons, List.not_mem_nil, not_or, or_false, not_false_eq_true, and_true, List.nodup_nil] at hn ⊢
          obtain ⟨⟨ag_, af_, ac_, ab_, ae_, ad_⟩, ⟨gf_, gc_, gb_, ge_, gd_⟩, ⟨fc_, fb_, fe_, fd_⟩, ⟨cb_, ce_, cd_⟩, ⟨be_, bd_⟩, ed_⟩ := hn
          exact ⟨⟨ab_, ac_, ad_, ae_, af_, ag_⟩, ⟨Ne.symm cb_, bd_, be_, Ne.symm fb_, Ne.symm gb_⟩, ⟨cd_, ce_, Ne.symm fc_, Ne.symm gc_⟩, ⟨Ne.symm ed_, Ne.symm fd_, Ne.symm gd_⟩, ⟨Ne.symm fe_, Ne.symm ge_⟩, Ne.symm gf_⟩) HL133_.out.bel.size
        have HLT : Hid _ := HL133_.out.go (bel1 _ (.cells (tq0 srv x y sb eb nb g0 t0 g1 t1) 89))
        refine hK.out _ _ HLT.out (fun hHeld => ?_)
        clear hK K; refine norm_any' (fun K hK => ?_); go_simp; refine hK _ _ ?_; clear hK K
        refine wpAnyH_take (i := 19) rfl (by kernel_rfl) (by kernel_rfl) (by kernel_rfl) (fun _ _ _ h => h) (Or.inl ⟨by rfl, by intro w hs; go_simp; rfl⟩) hHeld ?_
        refine norm_any' (fun K hK => ?_); go_simp; refine hK _ _ ?_; clear hK K
        refine wpAnyH_done (by kernel_rfl) ?_ _
        go_wp2
        go_meet
        case rel => exact ⟨_, sb, eb, nb, g0, t0, g1, t1, rfl, HTQ.out.1, HLT.out, HTQ.out.2⟩
      ·go_simp
       refine Calls.mono (HK1.out Z123) ?_
       rintro e Z134 ⟨g1, t1, rfl, hga, hta, hlo, hlt, hhi, hbx⟩
       have HL134_ : Hid _ := HL123_.out.go hbx
       have HM134_ : Hid _ := HM123_.out.two HL123_.out.bel.size hbx hlo hlt hga hta
       clear hga hta hlo hlt hhi hbx
       clear HL123_ HM123_
       refine hK.out _ _ HL134_.out (fun hHeld => ?_)
       clear hK K
       refine norm_any' (fun K hK => ?_); go_simp; refine hK _ _ ?_; clear hK K
       refine wpAnyH_take (i := 16) (v := .agg #[.pointer (some ⟨g0, 0, none⟩), .int .i64 0, .pointer (some ⟨t0, 0, none⟩), .pointer (some ⟨g1, 0, none⟩), .int .i64 0, .pointer (some ⟨t1, 0, none⟩)]) rfl (by kernel_rfl) (by kernel_rfl) (by kernel_rfl) (fun _ _ _ h => h) (Or.inl ⟨by rfl, by intro w hs; go_simp⟩) hHeld ?_
       refine norm_any' (fun K hK => ?_); go_simp; refine hK _ _ ?_; clear hK K
       refine wpAnyH_ready (rs := [3, 5]) (by kernel_rfl) (by simp) (AllReadyH.cons rfl (fun K hK => ?_) (AllReadyH.cons rfl (fun K hK => ?_) AllReadyH.nil))
       ·go_simp
        have HL135_ : Hid _ := HL134_.out.go (bel1 Z134 (.map #[] 0))
        have HM135_ : Hid _ := HM134_.out.one HL134_.out.bel.size (bel1 Z134 (.map #[] 0)) (Nat.le_refl _) (heap_alloc_new Z134 (.map #[] 0))
        obtain ⟨sb, hesb⟩ : ∃ sb, Z134.heap.size = sb := ⟨_, rfl⟩
        rw [hesb] at HM135_
        generalize Z134.alloc (.map #[] 0) = Z135 at *
        rw [hesb]
        clear hesb
        clear HL134_ HM134_
        refine hK.out _ _ HL135_.out (fun hHeld => ?_)
        clear hK K
        refine norm_any' (fun K hK => ?_); go_simp; refine hK _ _ ?_; clear hK K
        refine wpAnyH_ready (rs := [5]) (by kernel_rfl) (by simp) (AllReadyH.cons rfl (fun K hK => ?_) AllReadyH.nil)
        go_simp
        have HL136_ : Hid _ := HL135_.out.go (bel1 Z135 (.map #[] 0))
        have HM136_ : Hid _ := HM135_.out.one HL135_.out.bel.size (bel1 Z135 (.map #[] 0)) (Nat.le_refl _) (heap_alloc_new Z135 (.map #[] 0))
        obtain ⟨nb, henb⟩ : ∃ nb, Z135.heap.size = nb := ⟨_, rfl⟩
        rw [henb] at HM136_
        generalize Z135.alloc (.map #[] 0) = Z136 at *
        rw [henb]
        clear henb
        clear HL135_ HM135_
        refine hK.out _ _ HL136_.out (fun hHeld => ?_)
        clear hK K
        refine norm_any' (fun K hK => ?_); go_simp; refine hK _ _ ?_; clear hK K
        refine wpAnyH_take (i := 17) (v := .agg (tq0 srv x y sb eb nb g0 t0 g1 t1)) rfl (by kernel_rfl) (by kernel_rfl) (by kernel_rfl) (fun _ _ _ h => h) (Or.inl ⟨by rfl, by intro w hs; kernel_rfl⟩) hHeld ?_
        refine norm_any' (fun K hK => ?_); go_simp; refine hK _ _ ?_; clear hK K
        refine wpAnyH_ready (rs := [18]) (by kernel_rfl) (by simp) (AllReadyH.cons rfl (fun K hK => ?_) AllReadyH.nil)
        go_simp
        have HTQ : Hid _ := HM136_.out.tq (srv := srv) (x := x) (y := y) (sb := sb) (eb := eb) (nb := nb) (g0 := g0) (t0 := t0) (g1 := g1) (t1 := t1) (List.Mem.tail _ (List.Mem.head _)) (List.Mem.tail _ (List.Mem.tail _ (List.Mem.tail _ (List.Mem.tail _ (List.Mem.head _))))) (List.Mem.head _) (List.Mem.tail _ (List.Mem.tail _ (List.Mem.tail _ (List.Mem.tail _ (List.Mem.tail _ (List.Mem.tail _ (List.Mem.head _))))))) (List.Mem.tail _ (List.Mem.tail _ (List.Mem.tail _ (List.Mem.tail _ (List.Mem.tail _ (List.Mem.head _)))))) (List.Mem.tail _ (List.Mem.tail _ (List.Mem.tail _ (List.Mem.head _)))) (List.Mem.tail _ (List.Mem.tail _ (List.Mem.head _))) (by
          have hn := HM136_.out.nd
          simp only [List.map_cons, List.map_nil, List.nodup_cons, List.mem_cons, List.not_mem_nil, not_or, or_false, not_false_eq_true, and_true, List.nodup_nil] at hn ⊢
          obtain ⟨⟨ca_, cg_, cf_, cb_, ce_, cd_⟩, ⟨ag_, af_, ab_, ae_, ad_⟩, ⟨gf_, gb_, ge_, gd_⟩, ⟨fb_, fe_, fd_⟩, ⟨be_, bd_⟩, ed_⟩ := hn
          exact ⟨⟨ab_, Ne.symm ca_, ad_, ae_, af_, ag_⟩, ⟨Ne.symm cb_, bd_, be_, Ne.symm fb_, Ne.symm gb_⟩, ⟨cd_, ce_, cf_, cg_⟩, ⟨Ne.symm ed_, Ne.symm fd_, Ne.symm gd_⟩, ⟨Ne.symm fe_, Ne.symm ge_⟩, Ne.symm gf_⟩) HL136_.out.bel.size
        have HLT : Hid _ := HL136_.out.go (bel1 _ (.cells (tq0 srv x y sb eb nb g0 t0 g1 t1) 89))
        refine hK.out _ _ HLT.out (fun hHeld => ?_)
        clear hK K; refine norm_any' (fun K hK => ?_); go_simp; refine hK _ _ ?_; clear hK K
        refine wpAnyH_take (i := 19) rfl (by kernel_rfl) (by kernel_rfl) (by kernel_rfl) (fun _ _ _ h => h) (Or.inl ⟨by rfl, by intro w hs; go_simp; rfl⟩) hHeld ?_
        refine norm_any' (fun K hK => ?_); go_simp; refine hK _ _ ?_; clear hK K
        refine wpAnyH_done (by kernel_rfl) ?_ _
        go_wp2
        go_meet
        case rel => exact ⟨_, sb, eb, nb, g0, t0, g1, t1, rfl, HTQ.out.1, HLT.out, HTQ.out.2⟩
       ·go_simp
        have HL137_ : Hid _ := HL134_.out.go (bel1 Z134 (.map #[] 0))
        have HM137_ : Hid _ := HM134_.out.one HL134_.out.bel.size (bel1 Z134 (.map #[] 0)) (Nat.le_refl _) (heap_alloc_new Z134 (.map #[] 0))
        obtain ⟨nb, henb⟩ : ∃ nb, Z134.heap.size = nb := ⟨_, rfl⟩
        rw [henb] at HM137_
        generalize Z134.alloc (.map #[] 0) = Z137 at *
        rw [henb]
        clear henb
        clear HL134_ HM134_
        refine hK.out _ _ HL137_.out (fun hHeld => ?_)
        clear hK K
        refine norm_any' (fun K hK => ?_); go_simp; refine hK _ _ ?_; clear hK K
        refine wpAnyH_ready (rs := [3]) (by kernel_rfl) (by simp) (AllReadyH.cons rfl (fun K hK => ?_) AllReadyH.nil)
        go_simp
        have HL138_ : Hid _ := HL137_.out.go (bel1 Z137 (.map #[] 0))
        have HM138_ : Hid _ := HM137_.out.one HL137_.out.bel.size (bel1 Z137 (.map #[] 0)) (Nat.le_refl _) (heap_alloc_new Z137 (.map #[] 0))
        obtain ⟨sb, hesb⟩ : ∃ sb, Z137.heap.size = sb := ⟨_, rfl⟩
        rw [hesb] at HM138_
        generalize Z137.alloc (.map #[] 0) = Z138 at *
        rw [hesb]
        clear hesb
        clear HL137_ HM137_
        refine hK.out _ _ HL138_.out (fun hHeld => ?_)
        clear hK K
        refine norm_any' (fun K hK => ?_); go_simp; refine hK _ _ ?_; clear hK K
        refine wpAnyH_take (i := 17) (v := .agg (tq0 srv x y sb eb nb g0 t0 g1 t1)) rfl (by kernel_rfl) (by kernel_rfl) (by kernel_rfl) (fun _ _ _ h => h) (Or.inl ⟨by rfl, by intro w hs; kernel_rfl⟩) hHeld ?_
        refine norm_any' (fun K hK => ?_); go_simp; refine hK _ _ ?_; clear hK K
        refine wpAnyH_ready (rs := [18]) (by kernel_rfl) (by simp) (AllReadyH.cons rfl (fun K hK => ?_) AllReadyH.nil)
        go_simp
        have HTQ : Hid _ := HM138_.out.tq (srv := srv) (x := x) (y := y) (sb := sb) (eb := eb) (nb := nb) (g0 := g0) (t0 := t0) (g1 := g1) (t1 := t1) (List.Mem.head _) (List.Mem.tail _ (List.Mem.tail _ (List.Mem.tail _ (List.Mem.tail _ (List.Mem.head _))))) (List.Mem.tail _ (List.Mem.head _)) (List.Mem.tail _ (List.Mem.tail _ (List.Mem.tail _ (List.Mem.tail _ (List.Mem.tail _ (List.Mem.tail _ (List.Mem.head _))))))) (List.Mem.tail _ (List.Mem.tail _ (List.Mem.tail _ (List.Mem.tail _ (List.Mem.tail _ (List.Mem.head _)))))) (List.Mem.tail _ (List.Mem.tail _ (List.Mem.tail _ (List.Mem.head _)))) (List.Mem.tail _ (List.Mem.tail _ (List.Mem.head _))) (by
          have hn := HM138_.out.nd
          simp only [List.map_cons, List.map_nil, List.nodup_cons, List.mem_cons, List.not_mem_nil, not_or, or_false, not_false_eq_true, and_true, List.nodup_nil] at hn ⊢
          obtain ⟨⟨ac_, ag_, af_, ab_, ae_, ad_⟩, ⟨cg_, cf_, cb_, ce_, cd_⟩, ⟨gf_, gb_, ge_, gd_⟩, ⟨fb_, fe_, fd_⟩, ⟨be_, bd_⟩, ed_⟩ := hn
          exact ⟨⟨ab_, ac_, ad_, ae_, af_, ag_⟩, ⟨Ne.symm cb_, bd_, be_, Ne.symm fb_, Ne.symm gb_⟩, ⟨cd_, ce_, cf_, cg_⟩, ⟨Ne.symm ed_, Ne.symm fd_, Ne.symm gd_⟩, ⟨Ne.symm fe_, Ne.symm ge_⟩, Ne.symm gf_⟩) HL138_.out.bel.size
        have HLT : Hid _ := HL138_.out.go (bel1 _ (.cells (tq0 srv x y sb eb nb g0 t0 g1 t1) 89))
        refine hK.out _ _ HLT.out (fun hHeld => ?_)
        clear hK K; refine norm_any' (fun K hK => ?_); go_simp; refine hK _ _ ?_; clear hK K
        refine wpAnyH_take (i := 19) rfl (by kernel_rfl) (by kernel_rfl) (by kernel_rfl) (fun _ _ _ h => h) (Or.inl ⟨by rfl, by intro w hs; go_simp; rfl⟩) hHeld ?_
        refine norm_any' (fun K hK => ?_); go_simp; refine hK _ _ ?_; clear hK K
        refine wpAnyH_done (by kernel_rfl) ?_ _
        go_wp2
        go_meet
        case rel => exact ⟨_, sb, eb, nb, g0, t0, g1, t1, rfl, HTQ.out.1, HLT.out, HTQ.out.2⟩
     ·go_simp
      have HL139_ : Hid _ := HL106_.out.go (bel1 Z106 (.map #[] 0))
      have HM139_ : Hid _ := HM106_.out.one HL106_.out.bel.size (bel1 Z106 (.map #[] 0)) (Nat.le_refl _) (heap_alloc_new Z106 (.map #[] 0))
      obtain ⟨nb, henb⟩ : ∃ nb, Z106.heap.size = nb := ⟨_, rfl⟩
      rw [henb] at HM139_
      generalize Z106.alloc (.map #[] 0) = Z139 at *
      rw [henb]
      clear henb
      clear HL106_ HM106_
      refine hK.out _ _ HL139_.out (fun hHeld => ?_)
      clear hK K
      refine norm_any' (fun K hK => ?_); go_simp; refine hK _ _ ?_; clear hK K
      refine wpAnyH_ready (rs := [3, 4, 15]) (by kernel_rfl) (by simp) (AllReadyH.cons rfl (fun K hK => ?_) (AllReadyH.cons rfl (fun K hK => ?_) (AllReadyH.cons rfl (fun K hK => ?_) AllReadyH.nil)))
      ·go_simp
       have HL140_ : Hid _ := HL139_.out.go (bel1 Z139 (.map #[] 0))
       have HM140_ : Hid _ := HM139_.out.one HL139_.out.bel.size (bel1 Z139 (.map #[] 0)) (Nat.le_refl _) (heap_alloc_new Z139 (.map #[] 0))
       obtain ⟨sb, hesb⟩ : ∃ sb, Z139.heap.size = sb := ⟨_, rfl⟩
       rw [hesb] at HM140_
       generalize Z139.alloc (.map #[] 0) = Z140 at *
       rw [hesb]
       clear hesb
       clear HL139_ HM139_
       refine hK.out _ _ HL140_.out (fun hHeld => ?_)
       clear hK K
       refine norm_any' (fun K hK => ?_); go_simp; refine hK _ _ ?_; clear hK K
       refine wpAnyH_ready (rs := [4, 15]) (by kernel_rfl) (by simp) (AllReadyH.cons rfl (fun K hK => ?_) (AllReadyH.cons rfl (fun K hK => ?_) AllReadyH.nil))
       ·go_simp
        have HL141_ : Hid _ := HL140_.out.go (bel1 Z140 (.map #[] 0))
        have HM141_ : Hid _ := HM140_.out.one HL140_.out.bel.size (bel1 Z140 (.map #[] 0)) (Nat.le_refl _) (heap_alloc_new Z140 (.map #[] 0))
        obtain ⟨eb, heeb⟩ : ∃ eb, Z140.heap.size = eb := ⟨_, rfl⟩
        rw [heeb] at HM141_
        generalize Z140.alloc (.map #[] 0) = Z141 at *
        rw [heeb]
        clear heeb
        clear HL140_ HM140_
        refine hK.out _ _ HL141_.out (fun hHeld => ?_)
        clear hK K
        refine norm_any' (fun K hK => ?_); go_simp; refine hK _ _ ?_; clear hK K
        refine wpAnyH_ready (rs := [15]) (by kernel_rfl) (by simp) (AllReadyH.cons rfl (fun K hK => ?_) AllReadyH.nil)
        go_simp
        refine Calls.mono (HK1.out Z141) ?_
        rintro e Z142 ⟨g1, t1, rfl, hga, hta, hlo, hlt, hhi, hbx⟩
        have HL142_ : Hid _ := HL141_.out.go hbx
        have HM142_ : Hid _ := HM141_.out.two HL141_.out.bel.size hbx hlo hlt hga hta
        clear hga hta hlo hlt hhi hbx
        clear HL141_ HM141_
        refine hK.out _ _ HL142_.out (fun hHeld => ?_)
        clear hK K
        refine norm_any' (fun K hK => ?_); go_simp; refine hK _ _ ?_; clear hK K
        refine wpAnyH_take (i := 16) (v := .agg #[.pointer (some ⟨g0, 0, none⟩), .int .i64 0, .pointer (some ⟨t0, 0, none⟩), .pointer (some ⟨g1, 0, none⟩), .int .i64 0, .pointer (some ⟨t1, 0, none⟩)]) rfl (by kernel_rfl) (by kernel_rfl) (by kernel_rfl) (fun _ _ _ h => h) (Or.inl ⟨by rfl, by intro w hs; go_simp⟩) hHeld ?_
        refine norm_any' (fun K hK => ?_); go_simp; refine hK _ _ ?_; clear hK K
        refine wpAnyH_take (i := 17) (v := .agg (tq0 srv x y sb eb nb g0 t0 g1 t1)) rfl (by kernel_rfl) (by kernel_rfl) (by kernel_rfl) (fun _ _ _ h => h) (Or.inl ⟨by rfl, by intro w hs; kernel_rfl⟩) hHeld ?_
        refine norm_any' (fun K hK => ?_); go_simp; refine hK _ _ ?_; clear hK K
        refine wpAnyH_ready (rs := [18]) (by kernel_rfl) (by simp) (AllReadyH.cons rfl (fun K hK => ?_) AllReadyH.nil)
        go_simp
        have HTQ : Hid _ := HM142_.out.tq (srv := srv) (x := x) (y := y) (sb := sb) (eb := eb) (nb := nb) (g0 := g0) (t0 := t0) (g1 := g1) (t1 := t1) (List.Mem.tail _ (List.Mem.tail _ (List.Mem.tail _ (List.Mem.head _)))) (List.Mem.tail _ (List.Mem.tail _ (List.Mem.head _))) (List.Mem.tail _ (List.Mem.tail _ (List.Mem.tail _ (List.Mem.tail _ (List.Mem.head _))))) (List.Mem.tail _ (List.Mem.tail _ (List.Mem.tail _ (List.Mem.tail _ (List.Mem.tail _ (List.Mem.tail _ (List.Mem.head _))))))) (List.Mem.tail _ (List.Mem.tail _ (List.Mem.tail _ (List.Mem.tail _ (List.Mem.tail _ (List.Mem.head _)))))) (List.Mem.tail _ (List.Mem.head _)) (List.Mem.head _) (by
          have hn := HM142_.out.nd
          simp only [List.map_cons, List.map_nil, List.nodup_cons, List.mem_cons, List.not_mem_nil, not_or, or_false, not_false_eq_true, and_true, List.nodup_nil] at hn ⊢
          obtain ⟨⟨gf_, gb_, ga_, gc_, ge_, gd_⟩, ⟨fb_, fa_, fc_, fe_, fd_⟩, ⟨ba_, bc_, be_, bd_⟩, ⟨ac_, ae_, ad_⟩, ⟨ce_, cd_⟩, ed_⟩ := hn
          exact ⟨⟨Ne.symm ba_, ac_, ad_, ae_, Ne.symm fa_, Ne.symm ga_⟩, ⟨bc_, bd_, be_, Ne.symm fb_, Ne.symm gb_⟩, ⟨cd_, ce_, Ne.symm fc_, Ne.symm gc_⟩, ⟨Ne.symm ed_, Ne.symm fd_, Ne.symm gd_⟩, ⟨Ne.symm fe_, Ne.symm ge_⟩, Ne.symm gf_⟩) HL142_.out.bel.size
        have HLT : Hid _ := HL142_.out.go (bel1 _ (.cells (tq0 srv x y sb eb nb g0 t0 g1 t1) 89))
        refine hK.out _ _ HLT.out (fun hHeld => ?_)
        clear hK K; refine norm_any' (fun K hK => ?_); go_simp; refine hK _ _ ?_; clear hK K
        refine wpAnyH_take (i := 19) rfl (by kernel_rfl) (by kernel_rfl) (by kernel_rfl) (fun _ _ _ h => h) (Or.inl ⟨by rfl, by intro w hs; go_simp; rfl⟩) hHeld ?_
        refine norm_any' (fun K hK => ?_); go_simp; refine hK _ _ ?_; clear hK K
        refine wpAnyH_done (by kernel_rfl) ?_ _
        go_wp2
        go_meet
        case rel => exact ⟨_, sb, eb, nb, g0, t0, g1, t1, rfl, HTQ.out.1, HLT.out, HTQ.out.2⟩
       ·go_simp
        refine Calls.mono (HK1.out Z140) ?_
        rintro e Z143 ⟨g1, t1, rfl, hga, hta, hlo, hlt, hhi, hbx⟩
        have HL143_ : Hid _ := HL140_.out.go hbx
        have HM143_ : Hid _ := HM140_.out.two HL140_.out.bel.size hbx hlo hlt hga hta
        clear hga hta hlo hlt hhi hbx
        clear HL140_ HM140_
        refine hK.out _ _ HL143_.out (fun hHeld => ?_)
        clear hK K
        refine norm_any' (fun K hK => ?_); go_simp; refine hK _ _ ?_; clear hK K
        refine wpAnyH_take (i := 16) (v := .agg #[.pointer (some ⟨g0, 0, none⟩), .int .i64 0, .pointer (some ⟨t0, 0, none⟩), .pointer (some ⟨g1, 0, none⟩), .int .i64 0, .pointer (some ⟨t1, 0, none⟩)]) rfl (by kernel_rfl) (by kernel_rfl) (by kernel_rfl) (fun _ _ _ h => h) (Or.inl ⟨by rfl, by intro w hs; go_simp⟩) hHeld ?_
        refine norm_any' (fun K hK => ?_); go_simp; refine hK _ _ ?_; clear hK K
        refine wpAnyH_ready (rs := [4]) (by kernel_rfl) (by simp) (AllReadyH.cons rfl (fun K hK => ?_) AllReadyH.nil)
        go_simp
        have HL144_ : Hid _ := HL143_.out.go (bel1 Z143 (.map #[] 0))
        have HM144_ : Hid _ := HM143_.out.one HL143_.out.bel.size (bel1 Z143 (.map #[] 0)) (Nat.le_refl _) (heap_alloc_new Z143 (.map #[] 0))
        obtain ⟨eb, heeb⟩ : ∃ eb, Z143.heap.size = eb := ⟨_, rfl⟩
        rw [heeb] at HM144_
        generalize Z143.alloc (.map #[] 0) = Z144 at *
        rw [heeb]
        clear heeb
        clear HL143_ HM143_
        refine hK.out _ _ HL144_.out (fun hHeld => ?_)
        clear hK K
        refine norm_any' (fun K hK => ?_); go_simp; refine hK _ _ ?_; clear hK K
        refine wpAnyH_take (i := 17) (v := .agg (tq0 srv x y sb eb nb g0 t0 g1 t1)) rfl (by kernel_rfl) (by kernel_rfl) (by kernel_rfl) (fun _ _ _ h => h) (Or.inl ⟨by rfl, by intro w hs; kernel_rfl⟩) hHeld ?_
        refine norm_any' (fun K hK => ?_); go_simp; refine hK _ _ ?_; clear hK K
        refine wpAnyH_ready (rs := [18]) (by kernel_rfl) (by simp) (AllReadyH.cons rfl (fun K hK => ?_) AllReadyH.nil)
        go_simp
        have HTQ : Hid _ := HM144_.out.tq (srv := srv) (x := x) (y := y) (sb := sb) (eb := eb) (nb := nb) (g0 := g0) (t0 := t0) (g1 := g1) (t1 := t1) (List.Mem.tail _ (List.Mem.tail _ (List.Mem.tail _ (List.Mem.head _)))) (List.Mem.head _) (List.Mem.tail _ (List.Mem.tail _ (List.Mem.tail _ (List.Mem.tail _ (List.Mem.head _))))) (List.Mem.tail _ (List.Mem.tail _ (List.Mem.tail _ (List.Mem.tail _ (List.Mem.tail _ (List.Mem.tail _ (List.Mem.head _))))))) (List.Mem.tail _ (List.Mem.tail _ (List.Mem.tail _ (List.Mem.tail _ (List.Mem.tail _ (List.Mem.head _)))))) (List.Mem.tail _ (List.Mem.tail _ (List.Mem.head _))) (List.Mem.tail _ (List.Mem.head _)) (by
          have hn := HM144_.out.nd
          simp only [List.map_cons, List.map_nil, List.nodup_cons, List.mem_cons, List.not_mem_nil, not_or, or_false, not_false_eq_true, and_true, List.nodup_nil] at hn ⊢
          obtain ⟨⟨bg_, bf_, ba_, bc_, be_, bd_⟩, ⟨gf_, ga_, gc_, ge_, gd_⟩, ⟨fa_, fc_, fe_, fd_⟩, ⟨ac_, ae_, ad_⟩, ⟨ce_, cd_⟩, ed_⟩ := hn
          exact ⟨⟨Ne.symm ba_, ac_, ad_, ae_, Ne.symm fa_, Ne.symm ga_⟩, ⟨bc_, bd_, be_, bf_, bg_⟩, ⟨cd_, ce_, Ne.symm fc_, Ne.symm gc_⟩, ⟨Ne.symm ed_, Ne.symm fd_, Ne.symm gd_⟩, ⟨Ne.symm fe_, Ne.symm ge_⟩, Ne.symm gf_⟩) HL144_.out.bel.size
        have HLT : Hid _ := HL144_.out.go (bel1 _ (.cells (tq0 srv x y sb eb nb g0 t0 g1 t1) 89))
        refine hK.out _ _ HLT.out (fun hHeld => ?_)
        clear hK K; refine norm_any' (fun K hK => ?_); go_simp; refine hK _ _ ?_; clear hK K
        refine wpAnyH_take (i := 19) rfl (by kernel_rfl) (by kernel_rfl) (by kernel_rfl) (fun _ _ _ h => h) (Or.inl ⟨by rfl, by intro w hs; go_simp; rfl⟩) hHeld ?_
        refine norm_any' (fun K hK => ?_); go_simp; refine hK _ _ ?_; clear hK K
        refine wpAnyH_done (by kernel_rfl) ?_ _
        go_wp2
        go_meet
        case rel => exact ⟨_, sb, eb, nb, g0, t0, g1, t1, rfl, HTQ.out.1, HLT.out, HTQ.out.2⟩
      ·go_simp
       have HL145_ : Hid _ := HL139_.out.go (bel1 Z139 (.map #[] 0))
       have HM145_ : Hid _ := HM139_.out.one HL139_.out.bel.size (bel1 Z139 (.map #[] 0)) (Nat.le_refl _) (heap_alloc_new Z139 (.map #[] 0))
       obtain ⟨eb, heeb⟩ : ∃ eb, Z139.heap.size = eb := ⟨_, rfl⟩
       rw [heeb] at HM145_
       generalize Z139.alloc (.map #[] 0) = Z145 at *
       rw [heeb]
       clear heeb
       clear HL139_ HM139_
       refine hK.out _ _ HL145_.out (fun hHeld => ?_)
       clear hK K
       refine norm_any' (fun K hK => ?_); go_simp; refine hK _ _ ?_; clear hK K
       refine wpAnyH_ready (rs := [3, 15]) (by kernel_rfl) (by simp) (AllReadyH.cons rfl (fun K hK => ?_) (AllReadyH.cons rfl (fun K hK => ?_) AllReadyH.nil))
       ·go_simp
        have HL146_ : Hid _ := HL145_.out.go (bel1 Z145 (.map #[] 0))
        have HM146_ : Hid _ := HM145_.out.one HL145_.out.bel.size (bel1 Z145 (.map #[] 0)) (Nat.le_refl _) (heap_alloc_new Z145 (.map #[] 0))
        obtain ⟨sb, hesb⟩ : ∃ sb, Z145.heap.size = sb := ⟨_, rfl⟩
        rw [hesb] at HM146_
        generalize Z145.alloc (.map #[] 0) = Z146 at *
        rw [hesb]
        clear hesb
        clear HL145_ HM145_
        refine hK.out _ _ HL146_.out (fun hHeld => ?_)
        clear hK K
        refine norm_any' (fun K hK => ?_); go_simp; refine hK _ _ ?_; clear hK K
        refine wpAnyH_ready (rs := [15]) (by kernel_rfl) (by simp) (AllReadyH.cons rfl (fun K hK => ?_) AllReadyH.nil)
        go_simp
        refine Calls.mono (HK1.out Z146) ?_
        rintro e Z147 ⟨g1, t1, rfl, hga, hta, hlo, hlt, hhi, hbx⟩
        have HL147_ : Hid _ := HL146_.out.go hbx
        have HM147_ : Hid _ := HM146_.out.two HL146_.out.bel.size hbx hlo hlt hga hta
        clear hga hta hlo hlt hhi hbx
        clear HL146_ HM146_
        refine hK.out _ _ HL147_.out (fun hHeld => ?_)
        clear hK K
        refine norm_any' (fun K hK => ?_); go_simp; refine hK _ _ ?_; clear hK K
        refine wpAnyH_take (i := 16) (v := .agg #[.pointer (some ⟨g0, 0, none⟩), .int .i64 0, .pointer (some ⟨t0, 0, none⟩), .pointer (some ⟨g1, 0, none⟩), .int .i64 0, .pointer (some ⟨t1, 0, none⟩)]) rfl (by kernel_rfl) (by kernel_rfl) (by kernel_rfl) (fun _ _ _ h => h) (Or.inl ⟨by rfl, by intro w hs; go_simp⟩) hHeld ?_
        refine norm_any' (fun K hK => ?_); go_simp; refine hK _ _ ?_; clear hK K
        refine wpAnyH_take (i := 17) (v := .agg (tq0 srv x y sb eb nb g0 t0 g1 t1)) rfl (by kernel_rfl) (by kernel_rfl) (by kernel_rfl) (fun _ _ _ h => h) (Or.inl ⟨by rfl, by intro w hs; kernel_rfl⟩) hHeld ?_
        refine norm_any' (fun K hK => ?_); go_simp; refine hK _ _ ?_; clear hK K
        refine wpAnyH_ready (rs := [18]) (by kernel_rfl) (by simp) (AllReadyH.cons rfl (fun K hK => ?_) AllReadyH.nil)
        go_simp
        have HTQ : Hid _ := HM147_.out.tq (srv := srv) (x := x) (y := y) (sb := sb) (eb := eb) (nb := nb) (g0 := g0) (t0 := t0) (g1 := g1) (t1 := t1) (List.Mem.tail _ (List.Mem.tail _ (List.Mem.head _))) (List.Mem.tail _ (List.Mem.tail _ (List.Mem.tail _ (List.Mem.head _)))) (List.Mem.tail _ (List.Mem.tail _ (List.Mem.tail _ (List.Mem.tail _ (List.Mem.head _))))) (List.Mem.tail _ (List.Mem.tail _ (List.Mem.tail _ (List.Mem.tail _ (List.Mem.tail _ (List.Mem.tail _ (List.Mem.head _))))))) (List.Mem.tail _ (List.Mem.tail _ (List.Mem.tail _ (List.Mem.tail _ (List.Mem.tail _ (List.Mem.head _)))))) (List.Mem.tail _ (List.Mem.head _)) (List.Mem.head _) (by
          have hn := HM147_.out.nd
          simp only [List.map_cons, List.map_nil, List.nodup_cons, List.mem_cons, List.not_mem_nil, not_or, or_false, not_false_eq_true, and_true, List.nodup_nil] at hn ⊢
          obtain ⟨⟨gf_, ga_, gb_, gc_, ge_, gd_⟩, ⟨fa_, fb_, fc_, fe_, fd_⟩, ⟨ab_, ac_, ae_, ad_⟩, ⟨bc_, be_, bd_⟩, ⟨ce_, cd_⟩, ed_⟩ := hn
          exact ⟨⟨ab_, ac_, ad_, ae_, Ne.symm fa_, Ne.symm ga_⟩, ⟨bc_, bd_, be_, Ne.symm fb_, Ne.symm gb_⟩, ⟨cd_, ce_, Ne.symm fc_, Ne.symm gc_⟩, ⟨Ne.symm ed_, Ne.symm fd_, Ne.symm gd_⟩, ⟨Ne.symm fe_, Ne.symm ge_⟩, Ne.symm gf_⟩) HL147_.out.bel.size
        have HLT : Hid _ := HL147_.out.go (bel1 _ (.cells (tq0 srv x y sb eb nb g0 t0 g1 t1) 89))
        refine hK.out _ _ HLT.out (fun hHeld => ?_)
        clear hK K; refine norm_any' (fun K hK => ?_); go_simp; refine hK _ _ ?_; clear hK K
        refine wpAnyH_take (i := 19) rfl (by kernel_rfl) (by kernel_rfl) (by kernel_rfl) (fun _ _ _ h => h) (Or.inl ⟨by rfl, by intro w hs; go_simp; rfl⟩) hHeld ?_
        refine norm_any' (fun K hK => ?_); go_simp; refine hK _ _ ?_; clear hK K
        refine wpAnyH_done (by kernel_rfl) ?_ _
        go_wp2
        go_meet
        case rel => exact ⟨_, sb, eb, nb, g0, t0, g1, t1, rfl, HTQ.out.1, HLT.out, HTQ.out.2⟩
       ·go_simp
        refine Calls.mono (HK1.out Z145) ?_
        rintro e Z148 ⟨g1, t1, rfl, hga, hta, hlo, hlt, hhi, hbx⟩
        have HL148_ : Hid _ := HL145_.out.go hbx
        have HM148_ : Hid _ := HM145_.out.two HL145_.out.bel.size hbx hlo hlt hga hta
        clear hga hta hlo hlt hhi hbx
        clear HL145_ HM145_
        refine hK.out _ _ HL148_.out (fun hHeld => ?_)
        clear hK K
        refine norm_any' (fun K hK => ?_); go_simp; refine hK _ _ ?_; clear hK K
        refine wpAnyH_take (i := 16) (v := .agg #[.pointer (some ⟨g0, 0, none⟩), .int .i64 0, .pointer (some ⟨t0, 0, none⟩), .pointer (some ⟨g1, 0, none⟩), .int .i64 0, .pointer (some ⟨t1, 0, none⟩)]) rfl (by kernel_rfl) (by kernel_rfl) (by kernel_rfl) (fun _ _ _ h => h) (Or.inl ⟨by rfl, by intro w hs; go_simp⟩) hHeld ?_
        refine norm_any' (fun K hK => ?_); go_simp; refine hK _ _ ?_; clear hK K
        refine wpAnyH_ready (rs := [3]) (by kernel_rfl) (by simp) (AllReadyH.cons rfl (fun K hK => ?_) AllReadyH.nil)
        go_simp
        have HL149_ : Hid _ := HL148_.out.go (bel1 Z148 (.map #[] 0))
        have HM149_ : Hid _ := HM148_.out.one HL148_.out.bel.size (bel1 Z148 (.map #[] 0)) (Nat.le_refl _) (heap_alloc_new Z148 (.map #[] 0))
        obtain ⟨sb, hesb⟩ : ∃ sb, Z148.heap.size = sb := ⟨_, rfl⟩
        rw [hesb] at HM149_
        generalize Z148.alloc (.map #[] 0) = Z149 at *
        rw [hesb]
        clear hesb
        clear HL148_ HM148_
        refine hK.out _ _ HL149_.out (fun hHeld => ?_)
        clear hK K
        refine norm_any' (fun K hK => ?_); go_simp; refine hK _ _ ?_; clear hK K
        refine wpAnyH_take (i := 17) (v := .agg (tq0 srv x y sb eb nb g0 t0 g1 t1)) rfl (by kernel_rfl) (by kernel_rfl) (by kernel_rfl) (fun _ _ _ h => h) (Or.inl ⟨by rfl, by intro w hs; kernel_rfl⟩) hHeld ?_
        refine norm_any' (fun K hK => ?_); go_simp; refine hK _ _ ?_; clear hK K
        refine wpAnyH_ready (rs := [18]) (by kernel_rfl) (by simp) (AllReadyH.cons rfl (fun K hK => ?_) AllReadyH.nil)
        go_simp
        have HTQ : Hid _ := HM149_.out.tq (srv := srv) (x := x) (y := y) (sb := sb) (eb := eb) (nb := nb) (g0 := g0) (t0 := t0) (g1 := g1) (t1 := t1) (List.Mem.head _) (List.Mem.tail _ (List.Mem.tail _ (List.Mem.tail _ (List.Mem.head _)))) (List.Mem.tail _ (List.Mem.tail _ (List.Mem.tail _ (List.Mem.tail _ (List.Mem.head _))))) (List.Mem.tail _ (List.Mem.tail _ (List.Mem.tail _ (List.Mem.tail _ (List.Mem.tail _ (List.Mem.tail _ (List.Mem.head _))))))) (List.Mem.tail _ (List.Mem.tail _ (List.Mem.tail _ (List.Mem.tail _ (List.Mem.tail _ (List.Mem.head _)))))) (List.Mem.tail _ (List.Mem.tail _ (List.Mem.head _))) (List.Mem.tail _ (List.Mem.head _)) (by
          have hn := HM149_.out.nd
          simp only [List.map_cons, List.map_nil, List.nodup_cons, List.mem_cons, List.not_mem_nil, not_or, or_false, not_false_eq_true, and_true, List.nodup_nil] at hn ⊢
          obtain ⟨⟨ag_, af_, ab_, ac_, ae_, ad_⟩, ⟨gf_, gb_, gc_, ge_, gd_⟩, ⟨fb_, fc_, fe_, fd_⟩, ⟨bc_, be_, bd_⟩, ⟨ce_, cd_⟩, ed_⟩ := hn
          exact ⟨⟨ab_, ac_, ad_, ae_, af_, ag_⟩, ⟨bc_, bd_, be_, Ne.symm fb_, Ne.symm gb_⟩, ⟨cd_, ce_, Ne.symm fc_, Ne.symm gc_⟩, ⟨Ne.symm ed_, Ne.symm fd_, Ne.symm gd_⟩, ⟨Ne.symm fe_, Ne.symm ge_⟩, Ne.symm gf_⟩) HL149_.out.bel.size
        have HLT : Hid _ := HL149_.out.go (bel1 _ (.cells (tq0 srv x y sb eb nb g0 t0 g1 t1) 89))
        refine hK.out _ _ HLT.out (fun hHeld => ?_)
        clear hK K; refine norm_any' (fun K hK => ?_); go_simp; refine hK _ _ ?_; clear hK K
        refine wpAnyH_take (i := 19) rfl (by kernel_rfl) (by kernel_rfl) (by kernel_rfl) (fun _ _ _ h => h) (Or.inl ⟨by rfl, by intro w hs; go_simp; rfl⟩) hHeld ?_
        refine norm_any' (fun K hK => ?_); go_simp; refine hK _ _ ?_; clear hK K
        refine wpAnyH_done (by kernel_rfl) ?_ _
        go_wp2
        go_meet
        case rel => exact ⟨_, sb, eb, nb, g0, t0, g1, t1, rfl, HTQ.out.1, HLT.out, HTQ.out.2⟩
      ·go_simp
       refine Calls.mono (HK1.out Z139) ?_
       rintro e Z150 ⟨g1, t1, rfl, hga, hta, hlo, hlt, hhi, hbx⟩
       have HL150_ : Hid _ := HL139_.out.go hbx
       have HM150_ : Hid _ := HM139_.out.two HL139_.out.bel.size hbx hlo hlt hga hta
       clear hga hta hlo hlt hhi hbx
       clear HL139_ HM139_
       refine hK.out _ _ HL150_.out (fun hHeld => ?_)
       clear hK K
       refine norm_any' (fun K hK => ?_); go_simp; refine hK _ _ ?_; clear hK K
       refine wpAnyH_take (i := 16) (v := .agg #[.pointer (some ⟨g0, 0, none⟩), .int .i64 0, .pointer (some ⟨t0, 0, none⟩), .pointer (some ⟨g1, 0, none⟩), .int .i64 0, .pointer (some ⟨t1, 0, none⟩)]) rfl (by kernel_rfl) (by kernel_rfl) (by kernel_rfl) (fun _ _ _ h => h) (Or.inl ⟨by rfl, by intro w hs; go_simp⟩) hHeld ?_
       refine norm_any' (fun K hK => ?_); go_simp; refine hK _ _ ?_; clear hK K
       refine wpAnyH_ready (rs := [3, 4]) (by kernel_rfl) (by simp) (AllReadyH.cons rfl (fun K hK => ?_) (AllReadyH.cons rfl (fun K hK => ?_) AllReadyH.nil))
       ·go_simp
        have HL151_ : Hid _ := HL150_.out.go (bel1 Z150 (.map #[] 0))
        have HM151_ : Hid _ := HM150_.out.one HL150_.out.bel.size (bel1 Z150 (.map #[] 0)) (Nat.le_refl _) (heap_alloc_new Z150 (.map #[] 0))
        obtain ⟨sb, hesb⟩ : ∃ sb, Z150.heap.size = sb := ⟨_, rfl⟩
        rw [hesb] at HM151_
        generalize Z150.alloc (.map #[] 0) = Z151 at *
        rw [hesb]
        clear hesb
        clear HL150_ HM150_
        refine hK.out _ _ HL151_.out (fun hHeld => ?_)
        clear hK K
        refine norm_any' (fun K hK => ?_); go_simp; refine hK _ _ ?_; clear hK K
        refine wpAnyH_ready (rs := [4]) (by kernel_rfl) (by simp) (AllReadyH.cons rfl (fun K hK => ?_) AllReadyH.nil)
        go_simp
        have HL152_ : Hid _ := HL151_.out.go (bel1 Z151 (.map #[] 0))
        have HM152_ : Hid _ := HM151_.out.one HL151_.out.bel.size (bel1 Z151 (.map #[] 0)) (Nat.le_refl _) (heap_alloc_new Z151 (.map #[] 0))
        obtain ⟨eb, heeb⟩ : ∃ eb, Z151.heap.size = eb := ⟨_, rfl⟩
        rw [heeb] at HM152_
        generalize Z151.alloc (.map #[] 0) = Z152 at *
        rw [heeb]
        clear heeb
        clear HL151_ HM151_
        refine hK.out _ _ HL152_.out (fun hHeld => ?_)
        clear hK K
        refine norm_any' (fun K hK => ?_); go_simp; refine hK _ _ ?_; clear hK K
        refine wpAnyH_take (i := 17) (v := .agg (tq0 srv x y sb eb nb g0 t0 g1 t1)) rfl (by kernel_rfl) (by kernel_rfl) (by kernel_rfl) (fun _ _ _ h => h) (Or.inl ⟨by rfl, by intro w hs; kernel_rfl⟩) hHeld ?_
        refine norm_any' (fun K hK => ?_); go_simp; refine hK _ _ ?_; clear hK K
        refine wpAnyH_ready (rs := [18]) (by kernel_rfl) (by simp) (AllReadyH.cons rfl (fun K hK => ?_) AllReadyH.nil)
        go_simp
        have HTQ : Hid _ := HM152_.out.tq (srv := srv) (x := x) (y := y) (sb := sb) (eb := eb) (nb := nb) (g0 := g0) (t0 := t0) (g1 := g1) (t1 := t1) (List.Mem.tail _ (List.Mem.head _)) (List.Mem.head _) (List.Mem.tail _ (List.Mem.tail _ (List.Mem.tail _ (List.Mem.tail _ (List.Mem.head _))))) (List.Mem.tail _ (List.Mem.tail _ (List.Mem.tail _ (List.Mem.tail _ (List.Mem.tail _ (List.Mem.tail _ (List.Mem.head _))))))) (List.Mem.tail _ (List.Mem.tail _ (List.Mem.tail _ (List.Mem.tail _ (List.Mem.tail _ (List.Mem.head _)))))) (List.Mem.tail _ (List.Mem.tail _ (List.Mem.tail _ (List.Mem.head _)))) (List.Mem.tail _ (List.Mem.tail _ (List.Mem.head _))) (by
          have hn := HM152_.out.nd
          simp only [List.map_cons, List.map_nil, List.nodup_cons, List.mem_cons, List.not_mem_nil, not_or, or_false, not_false_eq_true, and_true, List.nodup_nil] at hn ⊢
          obtain ⟨⟨ba_, bg_, bf_, bc_, be_, bd_⟩, ⟨ag_, af_, ac_, ae_, ad_⟩, ⟨gf_, gc_, ge_, gd_⟩, ⟨fc_, fe_, fd_⟩, ⟨ce_, cd_⟩, ed_⟩ := hn
          exact ⟨⟨Ne.symm ba_, ac_, ad_, ae_, af_, ag_⟩, ⟨bc_, bd_, be_, bf_, bg_⟩, ⟨cd_, ce_, Ne.symm fc_, Ne.symm gc_⟩, ⟨Ne.symm ed_, Ne.symm fd_, Ne.symm gd_⟩, ⟨Ne.symm fe_, Ne.symm ge_⟩, Ne.symm gf_⟩) HL152_.out.bel.size
        have HLT : Hid _ := HL152_.out.go (bel1 _ (.cells (tq0 srv x y sb eb nb g0 t0 g1 t1) 89))
        refine hK.out _ _ HLT.out (fun hHeld => ?_)
        clear hK K; refine norm_any' (fun K hK => ?_); go_simp; refine hK _ _ ?_; clear hK K
        refine wpAnyH_take (i := 19) rfl (by kernel_rfl) (by kernel_rfl) (by kernel_rfl) (fun _ _ _ h => h) (Or.inl ⟨by rfl, by intro w hs; go_simp; rfl⟩) hHeld ?_
        refine norm_any' (fun K hK => ?_); go_simp; refine hK _ _ ?_; clear hK K
        refine wpAnyH_done (by kernel_rfl) ?_ _
        go_wp2
        go_meet
        case rel => exact ⟨_, sb, eb, nb, g0, t0, g1, t1, rfl, HTQ.out.1, HLT.out, HTQ.out.2⟩
       ·go_simp
        have HL153_ : Hid _ := HL150_.out.go (bel1 Z150 (.map #[] 0))
        have HM153_ : Hid _ := HM150_.out.one HL150_.out.bel.size (bel1 Z150 (.map #[] 0)) (Nat.le_refl _) (heap_alloc_new Z150 (.map #[] 0))
        obtain ⟨eb, heeb⟩ : ∃ eb, Z150.heap.size = eb := ⟨_, rfl⟩
        rw [heeb] at HM153_
        generalize Z150.alloc (.map #[] 0) = Z153 at *
        rw [heeb]
        clear heeb
        clear HL150_ HM150_
        refine hK.out _ _ HL153_.out (fun hHeld => ?_)
        clear hK K
        refine norm_any' (fun K hK => ?_); go_simp; refine hK _ _ ?_; clear hK K
        refine wpAnyH_ready (rs := [3]) (by kernel_rfl) (by simp) (AllReadyH.cons rfl (fun K hK => ?_) AllReadyH.nil)
        go_simp
        have HL154_ : Hid _ := HL153_.out.go (bel1 Z153 (.map #[] 0))
        have HM154_ : Hid _ := HM153_.out.one HL153_.out.bel.size (bel1 Z153 (.map #[] 0)) (Nat.le_refl _) (heap_alloc_new Z153 (.map #[] 0))
        obtain ⟨sb, hesb⟩ : ∃ sb, Z153.heap.size = sb := ⟨_, rfl⟩
        rw [hesb] at HM154_
        generalize Z153.alloc (.map #[] 0) = Z154 at *
        rw [hesb]
        clear hesb
        clear HL153_ HM153_
        refine hK.out _ _ HL154_.out (fun hHeld => ?_)
        clear hK K
        refine norm_any' (fun K hK => ?_); go_simp; refine hK _ _ ?_; clear hK K
        refine wpAnyH_take (i := 17) (v := .agg (tq0 srv x y sb eb nb g0 t0 g1 t1)) rfl (by kernel_rfl) (by kernel_rfl) (by kernel_rfl) (fun _ _ _ h => h) (Or.inl ⟨by rfl, by intro w hs; kernel_rfl⟩) hHeld ?_
        refine norm_any' (fun K hK => ?_); go_simp; refine hK _ _ ?_; clear hK K
        refine wpAnyH_ready (rs := [18]) (by kernel_rfl) (by simp) (AllReadyH.cons rfl (fun K hK => ?_) AllReadyH.nil)
        go_simp
        have HTQ : Hid _ := HM154_.out.tq (srv := srv) (x := x) (y := y) (sb := sb) (eb := eb) (nb := nb) (g0 := g0) (t0 := t0) (g1 := g1) (t1 := t1) (List.Mem.head _) (List.Mem.tail _ (List.Mem.head _)) (List.Mem.tail _ (List.Mem.tail _ (List.Mem.tail _ (List.Mem.tail _ (List.Mem.head _))))) (List.Mem.tail _ (List.Mem.tail _ (List.Mem.tail _ (List.Mem.tail _ (List.Mem.tail _ (List.Mem.tail _ (List.Mem.head _))))))) (List.Mem.tail _ (List.Mem.tail _ (List.Mem.tail _ (List.Mem.tail _ (List.Mem.tail _ (List.Mem.head _)))))) (List.Mem.tail _ (List.Mem.tail _ (List.Mem.tail _ (List.Mem.head _)))) (List.Mem.tail _ (List.Mem.tail _ (List.Mem.head _))) (by
          have hn := HM154_.out.nd
          simp only [List.map_cons, List.map_nil, List.nodup_cons, List.mem_cons, List.not_mem_nil, not_or, or_false, not_false_eq_true, and_true, List.nodup_nil] at hn ⊢
          obtain ⟨⟨ab_, ag_, af_, ac_, ae_, ad_⟩, ⟨bg_, bf_, bc_, be_, bd_⟩, ⟨gf_, gc_, ge_, gd_⟩, ⟨fc_, fe_, fd_⟩, ⟨ce_, cd_⟩, ed_⟩ := hn
          exact ⟨⟨ab_, ac_, ad_, ae_, af_, ag_⟩, ⟨bc_, bd_, be_, bf_, bg_⟩, ⟨cd_, ce_, Ne.symm fc_, Ne.symm gc_⟩, ⟨Ne.symm ed_, Ne.symm fd_, Ne.symm gd_⟩, ⟨Ne.symm fe_, Ne.symm ge_⟩, Ne.symm gf_⟩) HL154_.out.bel.size
        have HLT : Hid _ := HL154_.out.go (bel1 _ (.cells (tq0 srv x y sb eb nb g0 t0 g1 t1) 89))
        refine hK.out _ _ HLT.out (fun hHeld => ?_)
        clear hK K; refine norm_any' (fun K hK => ?_); go_simp; refine hK _ _ ?_; clear hK K
        refine wpAnyH_take (i := 19) rfl (by kernel_rfl) (by kernel_rfl) (by kernel_rfl) (fun _ _ _ h => h) (Or.inl ⟨by rfl, by intro w hs; go_simp; rfl⟩) hHeld ?_
        refine norm_any' (fun K hK => ?_); go_simp; refine hK _ _ ?_; clear hK K
        refine wpAnyH_done (by kernel_rfl) ?_ _
        go_wp2
        go_meet
        case rel => exact ⟨_, sb, eb, nb, g0, t0, g1, t1, rfl, HTQ.out.1, HLT.out, HTQ.out.2⟩
     ·go_simp
      refine Calls.mono (HK1.out Z106) ?_
      rintro e Z155 ⟨g1, t1, rfl, hga, hta, hlo, hlt, hhi, hbx⟩
      have HL155_ : Hid _ := HL106_.out.go hbx
      have HM155_ : Hid _ := HM106_.out.two HL106_.out.bel.size hbx hlo hlt hga hta
      clear hga hta hlo hlt hhi hbx
      clear HL106_ HM106_
      refine hK.out _ _ HL155_.out (fun hHeld => ?_)
      clear hK K
      refine norm_any' (fun K hK => ?_); go_simp; refine hK _ _ ?_; clear hK K
      refine wpAnyH_take (i := 16) (v := .agg #[.pointer (some ⟨g0, 0, none⟩), .int .i64 0, .pointer (some ⟨t0, 0, none⟩), .pointer (some ⟨g1, 0, none⟩), .int .i64 0, .pointer (some ⟨t1, 0, none⟩)]) rfl (by kernel_rfl) (by kernel_rfl) (by kernel_rfl) (fun _ _ _ h => h) (Or.inl ⟨by rfl, by intro w hs; go_simp⟩) hHeld ?_
      refine norm_any' (fun K hK => ?_); go_simp; refine hK _ _ ?_; clear hK K
      refine wpAnyH_ready (rs := [3, 4, 5]) (by kernel_rfl) (by simp) (AllReadyH.cons rfl (fun K hK => ?_) (AllReadyH.cons rfl (fun K hK => ?_) (AllReadyH.cons rfl (fun K hK => ?_) AllReadyH.nil)))
      ·go_simp
       have HL156_ : Hid _ := HL155_.out.go (bel1 Z155 (.map #[] 0))
       have HM156_ : Hid _ := HM155_.out.one HL155_.out.bel.size (bel1 Z155 (.map #[] 0)) (Nat.le_refl _) (heap_alloc_new Z155 (.map #[] 0))
       obtain ⟨sb, hesb⟩ : ∃ sb, Z155.heap.size = sb := ⟨_, rfl⟩
       rw [hesb] at HM156_
       generalize Z155.alloc (.map #[] 0) = Z156 at *
       rw [hesb]
       clear hesb
       clear HL155_ HM155_
       refine hK.out _ _ HL156_.out (fun hHeld => ?_)
       clear hK K
       refine norm_any' (fun K hK => ?_); go_simp; refine hK _ _ ?_; clear hK K
       refine wpAnyH_ready (rs := [4, 5]) (by kernel_rfl) (by simp) (AllReadyH.cons rfl (fun K hK => ?_) (AllReadyH.cons rfl (fun K hK => ?_) AllReadyH.nil))
       ·go_simp
        have HL157_ : Hid _ := HL156_.out.go (bel1 Z156 (.map #[] 0))
        have HM157_ : Hid _ := HM156_.out.one HL156_.out.bel.size (bel1 Z156 (.map #[] 0)) (Nat.le_refl _) (heap_alloc_new Z156 (.map #[] 0))
        obtain ⟨eb, heeb⟩ : ∃ eb, Z156.heap.size = eb := ⟨_, rfl⟩
        rw [heeb] at HM157_
        generalize Z156.alloc (.map #[] 0) = Z157 at *
        rw [heeb]
        clear heeb
        clear HL156_ HM156_
        refine hK.out _ _ HL157_.out (fun hHeld => ?_)
        clear hK K
        refine norm_any' (fun K hK => ?_); go_simp; refine hK _ _ ?_; clear hK K
        refine wpAnyH_ready (rs := [5]) (by kernel_rfl) (by simp) (AllReadyH.cons rfl (fun K hK => ?_) AllReadyH.nil)
        go_simp
        have HL158_ : Hid _ := HL157_.out.go (bel1 Z157 (.map #[] 0))
        have HM158_ : Hid _ := HM157_.out.one HL157_.out.bel.size (bel1 Z157 (.map #[] 0)) (Nat.le_refl _) (heap_alloc_new Z157 (.map #[] 0))
        obtain ⟨nb, henb⟩ : ∃ nb, Z157.heap.size = nb := ⟨_, rfl⟩
        rw [henb] at HM158_
        generalize Z157.alloc (.map #[] 0) = Z158 at *
        rw [henb]
        clear henb
        clear HL157_ HM157_
        refine hK.out _ _ HL158_.out (fun hHeld => ?_)
        clear hK K
        refine norm_any' (fun K hK => ?_); go_simp; refine hK _ _ ?_; clear hK K
        refine wpAnyH_take (i := 17) (v := .agg (tq0 srv x y sb eb nb g0 t0 g1 t1)) rfl (by kernel_rfl) (by kernel_rfl) (by kernel_rfl) (fun _ _ _ h => h) (Or.inl ⟨by rfl, by intro w hs; kernel_rfl⟩) hHeld ?_
        refine norm_any' (fun K hK => ?_); go_simp; refine hK _ _ ?_; clear hK K
        refine wpAnyH_ready (rs := [18]) (by kernel_rfl) (by simp) (AllReadyH.cons rfl (fun K hK => ?_) AllReadyH.nil)
        go_simp
        have HTQ : Hid _ := HM158_.out.tq (srv := srv) (x := x) (y := y) (sb := sb) (eb := eb) (nb := nb) (g0 := g0) (t0 := t0) (g1 := g1) (t1 := t1) (List.Mem.tail _ (List.Mem.tail _ (List.Mem.head _))) (List.Mem.tail _ (List.Mem.head _)) (List.Mem.head _) (List.Mem.tail _ (List.Mem.tail _ (List.Mem.tail _ (List.Mem.tail _ (List.Mem.tail _ (List.Mem.tail _ (List.Mem.head _))))))) (List.Mem.tail _ (List.Mem.tail _ (List.Mem.tail _ (List.Mem.tail _ (List.Mem.tail _ (List.Mem.head _)))))) (List.Mem.tail _ (List.Mem.tail _ (List.Mem.tail _ (List.Mem.tail _ (List.Mem.head _))))) (List.Mem.tail _ (List.Mem.tail _ (List.Mem.tail _ (List.Mem.head _)))) (by
          have hn := HM158_.out.nd
          simp only [List.map_cons, List.map_nil, List.nodup_cons, List.mem_cons, List.not_mem_nil, not_or, or_false, not_false_eq_true, and_true, List.nodup_nil] at hn ⊢
          obtain ⟨⟨cb_, ca_, cg_, cf_, ce_, cd_⟩, ⟨ba_, bg_, bf_, be_, bd_⟩, ⟨ag_, af_, ae_, ad_⟩, ⟨gf_, ge_, gd_⟩, ⟨fe_, fd_⟩, ed_⟩ := hn
          exact ⟨⟨Ne.symm ba_, Ne.symm ca_, ad_, ae_, af_, ag_⟩, ⟨Ne.symm cb_, bd_, be_, bf_, bg_⟩, ⟨cd_, ce_, cf_, cg_⟩, ⟨Ne.symm ed_, Ne.symm fd_, Ne.symm gd_⟩, ⟨Ne.symm fe_, Ne.symm ge_⟩, Ne.symm gf_⟩) HL158_.out.bel.size
        have HLT : Hid _ := HL158_.out.go (bel1 _ (.cells (tq0 srv x y sb eb nb g0 t0 g1 t1) 89))
        refine hK.out _ _ HLT.out (fun hHeld => ?_)
        clear hK K; refine norm_any' (fun K hK => ?_); go_simp; refine hK _ _ ?_; clear hK K
        refine wpAnyH_take (i := 19) rfl (by kernel_rfl) (by kernel_rfl) (by kernel_rfl) (fun _ _ _ h => h) (Or.inl ⟨by rfl, by intro w hs; go_simp; rfl⟩) hHeld ?_
        refine norm_any' (fun K hK => ?_); go_simp; refine hK _ _ ?_; clear hK K
        refine wpAnyH_done (by kernel_rfl) ?_ _
        go_wp2
        go_meet
        case rel => exact ⟨_, sb, eb, nb, g0, t0, g1, t1, rfl, HTQ.out.1, HLT.out, HTQ.out.2⟩
       ·go_simp
        have HL159_ : Hid _ := HL156_.out.go (bel1 Z156 (.map #[] 0))
        have HM159_ : Hid _ := HM156_.out.one HL156_.out.bel.size (bel1 Z156 (.map #[] 0)) (Nat.le_refl _) (heap_alloc_new Z156 (.map #[] 0))
        obtain ⟨nb, henb⟩ : ∃ nb, Z156.heap.size = nb := ⟨_, rfl⟩
        rw [henb] at HM159_
        generalize Z156.alloc (.map #[] 0) = Z159 at *
        rw [henb]
        clear henb
        clear HL156_ HM156_
        refine hK.out _ _ HL159_.out (fun hHeld => ?_)
        clear hK K
        refine norm_any' (fun K hK => ?_); go_simp; refine hK _ _ ?_; clear hK K
        refine wpAnyH_ready (rs := [4]) (by kernel_rfl) (by simp) (AllReadyH.cons rfl (fun K hK => ?_) AllReadyH.nil)
        go_simp
        have HL160_ : Hid _ := HL159_.out.go (bel1 Z159 (.map #[] 0))
        have HM160_ : Hid _ := HM159_.out.one HL159_.out.bel.size (bel1 Z159 (.map #[] 0)) (Nat.le_refl _) (heap_alloc_new Z159 (.map #[] 0))
        obtain ⟨eb, heeb⟩ : ∃ eb, Z159.heap.size = eb := ⟨_, rfl⟩
        rw [heeb] at HM160_
        generalize Z159.alloc (.map #[] 0) = Z160 at *
        rw [heeb]
        clear heeb
        clear HL159_ HM159_
        refine hK.out _ _ HL160_.out (fun hHeld => ?_)
        clear hK K
        refine norm_any' (fun K hK => ?_); go_simp; refine hK _ _ ?_; clear hK K
        refine wpAnyH_take (i := 17) (v := .agg (tq0 srv x y sb eb nb g0 t0 g1 t1)) rfl (by kernel_rfl) (by kernel_rfl) (by kernel_rfl) (fun _ _ _ h => h) (Or.inl ⟨by rfl, by intro w hs; kernel_rfl⟩) hHeld ?_
        refine norm_any' (fun K hK => ?_); go_simp; refine hK _ _ ?_; clear hK K
        refine wpAnyH_ready (rs := [18]) (by kernel_rfl) (by simp) (AllReadyH.cons rfl (fun K hK => ?_) AllReadyH.nil)
        go_simp
        have HTQ : Hid _ := HM160_.out.tq (srv := srv) (x := x) (y := y) (sb := sb) (eb := eb) (nb := nb) (g0 := g0) (t0 := t0) (g1 := g1) (t1 := t1) (List.Mem.tail _ (List.Mem.tail _ (List.Mem.head _))) (List.Mem.head _) (List.Mem.tail _ (List.Mem.head _)) (List.Mem.tail _ (List.Mem.tail _ (List.Mem.tail _ (List.Mem.tail _ (List.Mem.tail _ (List.Mem.tail _ (List.Mem.head _))))))) (List.Mem.tail _ (List.Mem.tail _ (List.Mem.tail _ (List.Mem.tail _ (List.Mem.tail _ (List.Mem.head _)))))) (List.Mem.tail _ (List.Mem.tail _ (List.Mem.tail _ (List.Mem.tail _ (List.Mem.head _))))) (List.Mem.tail _ (List.Mem.tail _ (List.Mem.tail _ (List.Mem.head _)))) (by
          have hn := HM160_.out.nd
          simp only [List.map_cons, List.map_nil, List.nodup_cons, List.mem_cons, List.not_mem_nil, not_or, or_false, not_false_eq_true, and_true, List.nodup_nil] at hn ⊢
          obtain ⟨⟨bc_, ba_, bg_, bf_, be_, bd_⟩, ⟨ca_, cg_, cf_, ce_, cd_⟩, ⟨ag_, af_, ae_, ad_⟩, ⟨gf_, ge_, gd_⟩, ⟨fe_, fd_⟩, ed_⟩ := hn
          exact ⟨⟨Ne.symm ba_, Ne.symm ca_, ad_, ae_, af_, ag_⟩, ⟨bc_, bd_, be_, bf_, bg_⟩, ⟨cd_, ce_, cf_, cg_⟩, ⟨Ne.symm ed_, Ne.symm fd_, Ne.symm gd_⟩, ⟨Ne.symm fe_, Ne.symm ge_⟩, Ne.symm gf_⟩) HL160_.out.bel.size
        have HLT : Hid _ := HL160_.out.go (bel1 _ (.cells (tq0 srv x y sb eb nb g0 t0 g1 t1) 89))
        refine hK.out _ _ HLT.out (fun hHeld => ?_)
        clear hK K; refine norm_any' (fun K hK => ?_); go_simp; refine hK _ _ ?_; clear hK K
        refine wpAnyH_take (i := 19) rfl (by kernel_rfl) (by kernel_rfl) (by kernel_rfl) (fun _ _ _ h => h) (Or.inl ⟨by rfl, by intro w hs; go_simp; rfl⟩) hHeld ?_
        refine norm_any' (fun K hK => ?_); go_simp; refine hK _ _ ?_; clear hK K
        refine wpAnyH_done (by kernel_rfl) ?_ _
        go_wp2
        go_meet
        case rel => exact ⟨_, sb, eb, nb, g0, t0, g1, t1, rfl, HTQ.out.1, HLT.out, HTQ.out.2⟩
      ·go_simp
       have HL161_ : Hid _ := HL155_.out.go (bel1 Z155 (.map #[] 0))
       have HM161_ : Hid _ := HM155_.out.one HL155_.out.bel.size (bel1 Z155 (.map #[] 0)) (Nat.le_refl _) (heap_alloc_new Z155 (.map #[] 0))
       obtain ⟨eb, heeb⟩ : ∃ eb, Z155.heap.size = eb := ⟨_, rfl⟩
       rw [heeb] at HM161_
       generalize Z155.alloc (.map #[] 0) = Z161 at *
       rw [heeb]
       clear heeb
       clear HL155_ HM155_
       refine hK.out _ _ HL161_.out (fun hHeld => ?_)
       clear hK K
       refine norm_any' (fun K hK => ?_); go_simp; refine hK _ _ ?_; clear hK K
       refine wpAnyH_ready (rs := [3, 5]) (by kernel_rfl) (by simp) (AllReadyH.cons rfl (fun K hK => ?_) (AllReadyH.cons rfl (fun K hK => ?_) AllReadyH.nil))
       ·go_simp
        have HL162_ : Hid _ := HL161_.out.go (bel1 Z161 (.map #[] 0))
        have HM162_ : Hid _ := HM161_.out.one HL161_.out.bel.size (bel1 Z161 (.map #[] 0)) (Nat.le_refl _) (heap_alloc_new Z161 (.map #[] 0))
        obtain ⟨sb, hesb⟩ : ∃ sb, Z161.heap.size = sb := ⟨_, rfl⟩
        rw [hesb] at HM162_
        generalize Z161.alloc (.map #[] 0) = Z162 at *
        rw [hesb]
        clear hesb
        clear HL161_ HM161_
        refine hK.out _ _ HL162_.out (fun hHeld => ?_)
        clear hK K
        refine norm_any' (fun K hK => ?_); go_simp; refine hK _ _ ?_; clear hK K
        refine wpAnyH_ready (rs := [5]) (by kernel_rfl) (by simp) (AllReadyH.cons rfl (fun K hK => ?_) AllReadyH.nil)
        go_simp
        have HL163_ : Hid _ := HL162_.out.go (bel1 Z162 (.map #[] 0))
        have HM163_ : Hid _ := HM162_.out.one HL162_.out.bel.size (bel1 Z162 (.map #[] 0)) (Nat.le_refl _) (heap_alloc_new Z162 (.map #[] 0))
        obtain ⟨nb, henb⟩ : ∃ nb, Z162.heap.size = nb := ⟨_, rfl⟩
        rw [henb] at HM163_
        generalize Z162.alloc (.map #[] 0) = Z163 at *
        rw [henb]
        clear henb
        clear HL162_ HM162_
        refine hK.out _ _ HL163_.out (fun hHeld => ?_)
        clear hK K
        refine norm_any' (fun K hK => ?_); go_simp; refine hK _ _ ?_; clear hK K
        refine wpAnyH_take (i := 17) (v := .agg (tq0 srv x y sb eb nb g0 t0 g1 t1)) rfl (by kernel_rfl) (by kernel_rfl) (by kernel_rfl) (fun _ _ _ h => h) (Or.inl ⟨by rfl, by intro w hs; kernel_rfl⟩) hHeld ?_
        refine norm_any' (fun K hK => ?_); go_simp; refine hK _ _ ?_; clear hK K
        refine wpAnyH_ready (rs := [18]) (by kernel_rfl) (by simp) (AllReadyH.cons rfl (fun K hK => ?_) AllReadyH.nil)
        go_simp
        have HTQ : Hid _ := HM163_.out.tq (srv := srv) (x := x) (y := y) (sb := sb) (eb := eb) (nb := nb) (g0 := g0) (t0 := t0) (g1 := g1) (t1 := t1) (List.Mem.tail _ (List.Mem.head _)) (List.Mem.tail _ (List.Mem.tail _ (List.Mem.head _))) (List.Mem.head _) (List.Mem.tail _ (List.Mem.tail _ (List.Mem.tail _ (List.Mem.tail _ (List.Mem.tail _ (List.Mem.tail _ (List.Mem.head _))))))) (List.Mem.tail _ (List.Mem.tail _ (List.Mem.tail _ (List.Mem.tail _ (List.Mem.tail _ (List.Mem.head _)))))) (List.Mem.tail _ (List.Mem.tail _ (List.Mem.tail _ (List.Mem.tail _ (List.Mem.head _))))) (List.Mem.tail _ (List.Mem.tail _ (List.Mem.tail _ (List.Mem.head _)))) (by
          have hn := HM163_.out.nd
          simp only [List.map_cons, List.map_nil, List.nodup_cons, List.mem_cons, List.not_mem_nil, not_or, or_false, not_false_eq_true, and_true, List.nodup_nil] at hn ⊢
          obtain ⟨⟨ca_, cb_, cg_, cf_, ce_, cd_⟩, ⟨ab_, ag_, af_, ae_, ad_⟩, ⟨bg_, bf_, be_, bd_⟩, ⟨gf_, ge_, gd_⟩, ⟨fe_, fd_⟩, ed_⟩ := hn
          exact ⟨⟨ab_, Ne.symm ca_, ad_, ae_, af_, ag_⟩, ⟨Ne.symm cb_, bd_, be_, bf_, bg_⟩, ⟨cd_, ce_, cf_, cg_⟩, ⟨Ne.symm ed_, Ne.symm fd_, Ne.symm gd_⟩, ⟨Ne.symm fe_, Ne.symm ge_⟩, Ne.symm gf_⟩) HL163_.out.bel.size
        have HLT : Hid _ := HL163_.out.go (bel1 _ (.cells (tq0 srv x y sb eb nb g0 t0 g1 t1) 89))
        refine hK.out _ _ HLT.out (fun hHeld => ?_)
        clear hK K; refine norm_any' (fun K hK => ?_); go_simp; refine hK _ _ ?_; clear hK K
        refine wpAnyH_take (i := 19) rfl (by kernel_rfl) (by kernel_rfl) (by kernel_rfl) (fun _ _ _ h => h) (Or.inl ⟨by rfl, by intro w hs; go_simp; rfl⟩) hHeld ?_
        refine norm_any' (fun K hK => ?_); go_simp; refine hK _ _ ?_; clear hK K
        refine wpAnyH_done (by kernel_rfl) ?_ _
        go_wp2
        go_meet
        case rel => exact ⟨_, sb, eb, nb, g0, t0, g1, t1, rfl, HTQ.out.1, HLT.out, HTQ.out.2⟩
       ·go_simp
        have HL164_ : Hid _ := HL161_.out.go (bel1 Z161 (.map #[] 0))
        have HM164_ : Hid _ := HM161_.out.one HL161_.out.bel.size (bel1 Z161 (.map #[] 0)) (Nat.le_refl _) (heap_alloc_new Z161 (.map #[] 0))
        obtain ⟨nb, henb⟩ : ∃ nb, Z161.heap.size = nb := ⟨_, rfl⟩
        rw [henb] at HM164_
        generalize Z161.alloc (.map #[] 0) = Z164 at *
        rw [henb]
        clear henb
        clear HL161_ HM161_
        refine hK.out _ _ HL164_.out (fun hHeld => ?_)
        clear hK K
        refine norm_any' (fun K hK => ?_); go_simp; refine hK _ _ ?_; clear hK K
        refine wpAnyH_ready (rs := [3]) (by kernel_rfl) (by simp) (AllReadyH.cons rfl (fun K hK => ?_) AllReadyH.nil)
        go_simp
        have HL165_ : Hid _ := HL164_.out.go (bel1 Z164 (.map #[] 0))
        have HM165_ : Hid _ := HM164_.out.one HL164_.out.bel.size (bel1 Z164 (.map #[] 0)) (Nat.le_refl _) (heap_alloc_new Z164 (.map #[] 0))
        obtain ⟨sb, hesb⟩ : ∃ sb, Z164.heap.size = sb := ⟨_, rfl⟩
        rw [hesb] at HM165_
        generalize Z164.alloc (.map #[] 0) = Z165 at *
        rw [hesb]
        clear hesb
        clear HL164_ HM164_
        refine hK.out _ _ HL165_.out (fun hHeld => ?_)
        clear hK K
        refine norm_any' (fun K hK => ?_); go_simp; refine hK _ _ ?_; clear hK K
        refine wpAnyH_take (i := 17) (v := .agg (tq0 srv x y sb eb nb g0 t0 g1 t1)) rfl (by kernel_rfl) (by kernel_rfl) (by kernel_rfl) (fun _ _ _ h => h) (Or.inl ⟨by rfl, by intro w hs; kernel_rfl⟩) hHeld ?_
        refine norm_any' (fun K hK => ?_); go_simp; refine hK _ _ ?_; clear hK K
        refine wpAnyH_ready (rs := [18]) (by kernel_rfl) (by simp) (AllReadyH.cons rfl (fun K hK => ?_) AllReadyH.nil)
        go_simp
        have HTQ : Hid _ := HM165_.out.tq (srv := srv) (x := x) (y := y) (sb := sb) (eb := eb) (nb := nb) (g0 := g0) (t0 := t0) (g1 := g1) (t1 := t1) (List.Mem.head _) (List.Mem.tail _ (List.Mem.tail _ (List.Mem.head _))) (List.Mem.tail _ (List.Mem.head _)) (List.Mem.tail _ (List.Mem.tail _ (List.Mem.tail _ (List.Mem.tail _ (List.Mem.tail _ (List.Mem.tail _ (List.Mem.head _))))))) (List.Mem.tail _ (List.Mem.tail _ (List.Mem.tail _ (List.Mem.tail _ (List.Mem.tail _ (List.Mem.head _)))))) (List.Mem.tail _ (List.Mem.tail _ (List.Mem.tail _ (List.Mem.tail _ (List.Mem.head _))))) (List.Mem.tail _ (List.Mem.tail _ (List.Mem.tail _ (List.Mem.head _)))) (by
          have hn := HM165_.out.nd
          simp only [List.map_cons, List.map_nil, List.nodup_cons, List.mem_cons, List.not_mem_nil, not_or, or_false, not_false_eq_true, and_true, List.nodup_nil] at hn ⊢
          obtain ⟨⟨ac_, ab_, ag_, af_, ae_, ad_⟩, ⟨cb_, cg_, cf_, ce_, cd_⟩, ⟨bg_, bf_, be_, bd_⟩, ⟨gf_, ge_, gd_⟩, ⟨fe_, fd_⟩, ed_⟩ := hn
          exact ⟨⟨ab_, ac_, ad_, ae_, af_, ag_⟩, ⟨Ne.symm cb_, bd_, be_, bf_, bg_⟩, ⟨cd_, ce_, cf_, cg_⟩, ⟨Ne.symm ed_, Ne.symm fd_, Ne.symm gd_⟩, ⟨Ne.symm fe_, Ne.symm ge_⟩, Ne.symm gf_⟩) HL165_.out.bel.size
        have HLT : Hid _ := HL165_.out.go (bel1 _ (.cells (tq0 srv x y sb eb nb g0 t0 g1 t1) 89))
        refine hK.out _ _ HLT.out (fun hHeld => ?_)
        clear hK K; refine norm_any' (fun K hK => ?_); go_simp; refine hK _ _ ?_; clear hK K
        refine wpAnyH_take (i := 19) rfl (by kernel_rfl) (by kernel_rfl) (by kernel_rfl) (fun _ _ _ h => h) (Or.inl ⟨by rfl, by intro w hs; go_simp; rfl⟩) hHeld ?_
        refine norm_any' (fun K hK => ?_); go_simp; refine hK _ _ ?_; clear hK K
        refine wpAnyH_done (by kernel_rfl) ?_ _
        go_wp2
        go_meet
        case rel => exact ⟨_, sb, eb, nb, g0, t0, g1, t1, rfl, HTQ.out.1, HLT.out, HTQ.out.2⟩
      ·go_simp
       have HL166_ : Hid _ := HL155_.out.go (bel1 Z155 (.map #[] 0))
       have HM166_ : Hid _ := HM155_.out.one HL155_.out.bel.size (bel1 Z155 (.map #[] 0)) (Nat.le_refl _) (heap_alloc_new Z155 (.map #[] 0))
       obtain ⟨nb, henb⟩ : ∃ nb, Z155.heap.size = nb := ⟨_, rfl⟩
       rw [henb] at HM166_
       generalize Z155.alloc (.map #[] 0) = Z166 at *
       rw [henb]
       clear henb
       clear HL155_ HM155_
       refine hK.out _ _ HL166_.out (fun hHeld => ?_)
       clear hK K
       refine norm_any' (fun K hK => ?_); go_simp; refine hK _ _ ?_; clear hK K
       refine wpAnyH_ready (rs := [3, 4]) (by kernel_rfl) (by simp) (AllReadyH.cons rfl (fun K hK => ?_) (AllReadyH.cons rfl (fun K hK => ?_) AllReadyH.nil))
       ·go_simp
        have HL167_ : Hid _ := HL166_.out.go (bel1 Z166 (.map #[] 0))
        have HM167_ : Hid _ := HM166_.out.one HL166_.out.bel.size (bel1 Z166 (.map #[] 0)) (Nat.le_refl _) (heap_alloc_new Z166 (.map #[] 0))
        obtain ⟨sb, hesb⟩ : ∃ sb, Z166.heap.size = sb := ⟨_, rfl⟩
        rw [hesb] at HM167_
        generalize Z166.alloc (.map #[] 0) = Z167 at *
        rw [hesb]
        clear hesb
        clear HL166_ HM166_
        refine hK.out _ _ HL167_.out (fun hHeld => ?_)
        clear hK K
        refine norm_any' (fun K hK => ?_); go_simp; refine hK _ _ ?_; clear hK K
        refine wpAnyH_ready (rs := [4]) (by kernel_rfl) (by simp) (AllReadyH.cons rfl (fun K hK => ?_) AllReadyH.nil)
        go_simp
        have HL168_ : Hid _ := HL167_.out.go (bel1 Z167 (.map #[] 0))
        have HM168_ : Hid _ := HM167_.out.one HL167_.out.bel.size (bel1 Z167 (.map #[] 0)) (Nat.le_refl _) (heap_alloc_new Z167 (.map #[] 0))
        obtain ⟨eb, heeb⟩ : ∃ eb, Z167.heap.size = eb := ⟨_, rfl⟩
        rw [heeb] at HM168_
        generalize Z167.alloc (.map #[] 0) = Z168 at *
        rw [heeb]
        clear heeb
        clear HL167_ HM167_
        refine hK.out _ _ HL168_.out (fun hHeld => ?_)
        clear hK K
        refine norm_any' (fun K hK => ?_); go_simp; refine hK _ _ ?_; clear hK K
        refine wpAnyH_take (i := 17) (v := .agg (tq0 srv x y sb eb nb g0 t0 g1 t1)) rfl (by kernel_rfl) (by kernel_rfl) (by kernel_rfl) (fun _ _ _ h => h) (Or.inl ⟨by rfl, by intro w hs; kernel_rfl⟩) hHeld ?_
        refine norm_any' (fun K hK => ?_); go_simp; refine hK _ _ ?_; clear hK K
        refine wpAnyH_ready (rs := [18]) (by kernel_rfl) (by simp) (AllReadyH.cons rfl (fun K hK => ?_) AllReadyH.nil)
        go_simp
        have HTQ : Hid _ := HM168_.out.tq (srv := srv) (x := x) (y := y) (sb := sb) (eb := eb) (nb := nb) (g0 := g0) (t0 := t0) (g1 := g1) (t1 := t1) (List.Mem.tail _ (List.Mem.head _)) (List.Mem.head _) (List.Mem.tail _ (List.Mem.tail _ (List.Mem.head _))) (List.Mem.tail _ (List.Mem.tail _ (List.Mem.tail _ (List.Mem.tail _ (List.Mem.tail _ (List.Mem.tail _ (List.Mem.head _))))))) (List.Mem.tail _ (List.Mem.tail _ (List.Mem.tail _ (List.Mem.tail _ (List.Mem.tail _ (List.Mem.head _)))))) (List.Mem.tail _ (List.Mem.tail _ (List.Mem.tail _ (List.Mem.tail _ (List.Mem.head _))))) (List.Mem.tail _ (List.Mem.tail _ (List.Mem.tail _ (List.Mem.head _)))) (by
          have hn := HM168_.out.nd
          simp only [List.map_cons, List.map_nil, List.nodup_cons, List.mem_cons, List.not_mem_nil, not_or, or_false, not_false_eq_true, and_true, List.nodup_nil] at hn ⊢
          obtain ⟨⟨ba_, bc_, bg_, bf_, be_, bd_⟩, ⟨ac_, ag_, af_, ae_, ad_⟩, ⟨cg_, cf_, ce_, cd_⟩, ⟨gf_, ge_, gd_⟩, ⟨fe_, fd_⟩, ed_⟩ := hn
          exact ⟨⟨Ne.symm ba_, ac_, ad_, ae_, af_, ag_⟩, ⟨bc_, bd_, be_, bf_, bg_⟩, ⟨cd_, ce_, cf_, cg_⟩, ⟨Ne.symm ed_, Ne.symm fd_, Ne.symm gd_⟩, ⟨Ne.symm fe_, Ne.symm ge_⟩, Ne.symm gf_⟩) HL168_.out.bel.size
        have HLT : Hid _ := HL168_.out.go (bel1 _ (.cells (tq0 srv x y sb eb nb g0 t0 g1 t1) 89))
        refine hK.out _ _ HLT.out (fun hHeld => ?_)
        clear hK K; refine norm_any' (fun K hK => ?_); go_simp; refine hK _ _ ?_; clear hK K
        refine wpAnyH_take (i := 19) rfl (by kernel_rfl) (by kernel_rfl) (by kernel_rfl) (fun _ _ _ h => h) (Or.inl ⟨by rfl, by intro w hs; go_simp; rfl⟩) hHeld ?_
        refine norm_any' (fun K hK => ?_); go_simp; refine hK _ _ ?_; clear hK K
        refine wpAnyH_done (by kernel_rfl) ?_ _
        go_wp2
        go_meet
        case rel => exact ⟨_, sb, eb, nb, g0, t0, g1, t1, rfl, HTQ.out.1, HLT.out, HTQ.out.2⟩
       ·go_simp
        have HL169_ : Hid _ := HL166_.out.go (bel1 Z166 (.map #[] 0))
        have HM169_ : Hid _ := HM166_.out.one HL166_.out.bel.size (bel1 Z166 (.map #[] 0)) (Nat.le_refl _) (heap_alloc_new Z166 (.map #[] 0))
        obtain ⟨eb, heeb⟩ : ∃ eb, Z166.heap.size = eb := ⟨_, rfl⟩
        rw [heeb] at HM169_
        generalize Z166.alloc (.map #[] 0) = Z169 at *
        rw [heeb]
        clear heeb
        clear HL166_ HM166_
        refine hK.out _ _ HL169_.out (fun hHeld => ?_)
        clear hK K
        refine norm_any' (fun K hK => ?_); go_simp; refine hK _ _ ?_; clear hK K
        refine wpAnyH_ready (rs := [3]) (by kernel_rfl) (by simp) (AllReadyH.cons rfl (fun K hK => ?_) AllReadyH.nil)
        go_simp
        have HL170_ : Hid _ := HL169_.out.go (bel1 Z169 (.map #[] 0))
        have HM170_ : Hid _ := HM169_.out.one HL169_.out.bel.size (bel1 Z169 (.map #[] 0)) (Nat.le_refl _) (heap_alloc_new Z169 (.map #[] 0))
        obtain ⟨sb, hesb⟩ : ∃ sb, Z169.heap.size = sb := ⟨_, rfl⟩
        rw [hesb] at HM170_
        generalize Z169.alloc (.map #[] 0) = Z170 at *
        rw [hesb]
        clear hesb
        clear HL169_ HM169_
        refine hK.out _ _ HL170_.out (fun hHeld => ?_)
        clear hK K
        refine norm_any' (fun K hK => ?_); go_simp; refine hK _ _ ?_; clear hK K
        refine wpAnyH_take (i := 17) (v := .agg (tq0 srv x y sb eb nb g0 t0 g1 t1)) rfl (by kernel_rfl) (by kernel_rfl) (by kernel_rfl) (fun _ _ _ h => h) (Or.inl ⟨by rfl, by intro w hs; kernel_rfl⟩) hHeld ?_
        refine norm_any' (fun K hK => ?_); go_simp; refine hK _ _ ?_; clear hK K
        refine wpAnyH_ready (rs := [18]) (by kernel_rfl) (by simp) (AllReadyH.cons rfl (fun K hK => ?_) AllReadyH.nil)
        go_simp
        have HTQ : Hid _ := HM170_.out.tq (srv := srv) (x := x) (y := y) (sb := sb) (eb := eb) (nb := nb) (g0 := g0) (t0 := t0) (g1 := g1) (t1 := t1) (List.Mem.head _) (List.Mem.tail _ (List.Mem.head _)) (List.Mem.tail _ (List.Mem.tail _ (List.Mem.head _))) (List.Mem.tail _ (List.Mem.tail _ (List.Mem.tail _ (List.Mem.tail _ (List.Mem.tail _ (List.Mem.tail _ (List.Mem.head _))))))) (List.Mem.tail _ (List.Mem.tail _ (List.Mem.tail _ (List.Mem.tail _ (List.Mem.tail _ (List.Mem.head _)))))) (List.Mem.tail _ (List.Mem.tail _ (List.Mem.tail _ (List.Mem.tail _ (List.Mem.head _))))) (List.Mem.tail _ (List.Mem.tail _ (List.Mem.tail _ (List.Mem.head _)))) (by
          have hn := HM170_.out.nd
          simp only [List.map_cons, List.map_nil, List.nodup_cons, List.mem_cons, List.not_mem_nil, not_or, or_false, not_false_eq_true, and_true, List.nodup_nil] at hn ⊢
          obtain ⟨⟨ab_, ac_, ag_, af_, ae_, ad_⟩, ⟨bc_, bg_, bf_, be_, bd_⟩, ⟨cg_, cf_, ce_, cd_⟩, ⟨gf_, ge_, gd_⟩, ⟨fe_, fd_⟩, ed_⟩ := hn
          exact ⟨⟨ab_, ac_, ad_, ae_, af_, ag_⟩, ⟨bc_, bd_, be_, bf_, bg_⟩, ⟨cd_, ce_, cf_, cg_⟩, ⟨Ne.symm ed_, Ne.symm fd_, Ne.symm gd_⟩, ⟨Ne.symm fe_, Ne.symm ge_⟩, Ne.symm gf_⟩) HL170_.out.bel.size
        have HLT : Hid _ := HL170_.out.go (bel1 _ (.cells (tq0 srv x y sb eb nb g0 t0 g1 t1) 89))
        refine hK.out _ _ HLT.out (fun hHeld => ?_)
        clear hK K; refine norm_any' (fun K hK => ?_); go_simp; refine hK _ _ ?_; clear hK K
        refine wpAnyH_take (i := 19) rfl (by kernel_rfl) (by kernel_rfl) (by kernel_rfl) (fun _ _ _ h => h) (Or.inl ⟨by rfl, by intro w hs; go_simp; rfl⟩) hHeld ?_
        refine norm_any' (fun K hK => ?_); go_simp; refine hK _ _ ?_; clear hK K
        refine wpAnyH_done (by kernel_rfl) ?_ _
        go_wp2
        go_meet
        case rel => exact ⟨_, sb, eb, nb, g0, t0, g1, t1, rfl, HTQ.out.1, HLT.out, HTQ.out.2⟩
end Go.Proofs.YtijndpjdmiljkaaGreatDoor
