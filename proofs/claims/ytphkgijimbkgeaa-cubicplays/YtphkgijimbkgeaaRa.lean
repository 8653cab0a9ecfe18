/- cubic's reference: New, Acked, Lost, Collapse. -/
import Derived.Test.YtphkgijimbkgeaaRc
import Derived.Test.YtphkgijimbkgeaaAk
import Derived.Deep.CutBlock
namespace Go.Proofs.Ytphkgijimbkgeaa
open Go.RowKit
set_option linter.unusedVariables false

set_option maxRecDepth 100000 in
theorem rtime_c (n : Int) (w : World) : Calls Try.prog 25 #[.int .i64 n] w fun e w' => e = .returned (.bool (decide (0 ≤ n ∧ n ≤ 1125899906842624))) ∧ w' = w := by
  by_cases h0 : 0 ≤ n
  · by_cases h1 : n ≤ 1125899906842624
    · rw [decide_eq_true ⟨h0, h1⟩]
      go_enter Try.func25, Try.ntmps25
      go_wp2
      go_ret
      exact ⟨rfl, rfl⟩
    · rw [decide_eq_false (fun h => h1 h.2)]
      go_enter Try.func25, Try.ntmps25
      go_wp2
      go_ret
      exact ⟨rfl, rfl⟩
  · rw [decide_eq_false (fun h => h0 h.1)]
    go_enter Try.func25, Try.ntmps25
    go_wp2
    go_ret
    exact ⟨rfl, rfl⟩
set_option maxRecDepth 100000 in
theorem names_c (w : World) : Calls Try.prog 10 #[] w fun e w' => e = .returned (.bool true) ∧ w' = w := by
  go_enter Try.func10, Try.ntmps10
  go_wp2
  go_ret
  exact ⟨rfl, rfl⟩
set_option maxRecDepth 100000 in
theorem rnew_no (k z : Int) (w : World) (h : ¬ ((k = 0 ∨ k = 1) ∧ 1200 ≤ z ∧ z ≤ 65535)) : Calls Try.prog 9 #[.int .i64 k, .int .i64 z] w fun e w' => e = .returned (.tuple #[.pointer none, .int .i64 2]) ∧ w' = w := by
  by_cases h0 : k < 0
  · clear h
    go_enter Try.func9, Try.ntmps9
    go_wp2
    go_ret2
    exact ⟨rfl, rfl⟩
  by_cases h1 : 1 < k
  · clear h
    go_enter Try.func9, Try.ntmps9
    go_wp2
    go_ret2
    exact ⟨rfl, rfl⟩
  by_cases h2 : z < 1200
  · clear h
    go_enter Try.func9, Try.ntmps9
    go_wp2
    go_ret2
    exact ⟨rfl, rfl⟩
  have h3 : 65535 < z := by omega
  clear h
  go_enter Try.func9, Try.ntmps9
  go_wp2
  go_ret2
  exact ⟨rfl, rfl⟩
set_option maxRecDepth 100000 in
theorem rnew_c (k z : Int) (w : World) (hk : k = 0 ∨ k = 1) (h0 : 1200 ≤ z) (h1 : z ≤ 65535) : Calls Try.prog 9 #[.int .i64 k, .int .i64 z] w fun e w' => e = .returned (.tuple #[.pointer (some ⟨w.heap.size, 0, none⟩), .int .i64 0]) ∧ Rt 34 w' w.heap.size (wv0 k z) ∧ Below w.heap.size w w' := by
  have i1 : IntKind.i64.wrap (10 * z) = 10 * z := wrp _ (by omega) (by omega)
  have i2 : IntKind.i64.wrap (2 * z) = 2 * z := wrp _ (by omega) (by omega)
  have n0 : ¬ k < 0 := by omega
  have n1 : ¬ 1 < k := by omega
  have n2 : ¬ z < 1200 := by omega
  have n3 : ¬ 65535 < z := by omega
  have HN : Aside (∀ x, min (10 * z) (max (2 * z) 14720) = x → Rt 34 (w.alloc (.cells #[.int .i64 k, .int .i64 z, .int .i64 x, .int .i64 (-1), .int .i64 (-1), .int .i64 0, .int .i64 (-1), .int .i64 0, .int .i64 0] 34)) w.heap.size (wv0 k z)) := fun x hx => by
    have : wv0 k z = ⟨k, z, x, -1, -1, 0, -1, 0, 0⟩ := by unfold wv0; rw [hx]
    rw [this]
    exact heap_alloc_new w _
  by_cases q1 : 14720 < 2 * z
  · have q2 : ¬ 10 * z < 2 * z := by omega
    have HX : Aside _ := HN.out (2 * z) (by omega)
    clear HN hk
    go_enter Try.func9, Try.ntmps9
    go_wp2
    go_ret2
    exact ⟨rfl, HX.out, bel1 w _⟩
  · by_cases q2 : 10 * z < 14720
    · have HX : Aside _ := HN.out (10 * z) (by omega)
      clear HN hk
      go_enter Try.func9, Try.ntmps9
      go_wp2
      go_ret2
      exact ⟨rfl, HX.out, bel1 w _⟩
    · have HX : Aside _ := HN.out 14720 (by omega)
      clear HN hk
      go_enter Try.func9, Try.ntmps9
      go_wp2
      go_ret2
      exact ⟨rfl, HX.out, bel1 w _⟩
set_option maxRecDepth 100000 in
theorem rcollapse_c (b : Nat) (v : Wv) (w : World) (h : Rt 34 w b v) (ho : v.ok) : Calls Try.prog 17 #[.pointer (some ⟨b, 0, none⟩)] w fun e w' => e = .returned (.tuple #[]) ∧ Rt 34 w' b v.coll ∧ Tn b w w' := by
  obtain ⟨c0, c1, c2, c3, c4, c5, c6, c7, c8⟩ := h.cells
  obtain ⟨k0, z0, z1, b0, b1, s0, e0⟩ := ho
  have i1 : IntKind.i64.wrap (2 * v.z) = 2 * v.z := wrp _ (by omega) (by omega)
  have f2 := h.frozen 2
  have f4 := h.frozen 4
  have f6 := h.frozen 6
  have hv : v.coll = { v with b := 2 * v.z, r := -1, e := -1 } := by
    simp only [Wv.coll, Wv.become, cl, Wv.mk.injEq, true_and, and_true]
    omega
  have r1 := h.set 2 (.int .i64 (2 * v.z)) { v with b := 2 * v.z } rfl
  have r2 := r1.set 4 (.int .i64 (-1)) { v with b := 2 * v.z, r := -1 } rfl
  have r3 := r2.set 6 (.int .i64 (-1)) { v with b := 2 * v.z, r := -1, e := -1 } rfl
  rw [← hv] at r3
  have HR : Aside _ := r3
  have HT : Aside _ := ((Tn.set h 2 (.int .i64 (2 * v.z))).trans (Tn.set r1 4 (.int .i64 (-1)))).trans (Tn.set r2 6 (.int .i64 (-1)))
  clear r1 r2 r3 h hv
  go_enter Try.func17, Try.ntmps17
  go_wp2
  go_end0
  exact ⟨rfl, HR.out, HT.out⟩
theorem Wv.become_hi (V : Wv) (x : Int) (hz : 2 * V.z ≤ 1073741824) (h : 1073741824 < x) : V.become x = { V with b := 1073741824 } := by
  simp only [Wv.become, cl, Wv.mk.injEq, true_and, and_true]
  omega
theorem Wv.become_lo (V : Wv) (x : Int) (hz : 2 * V.z ≤ x) (h : ¬ 1073741824 < x) : V.become x = { V with b := x } := by
  simp only [Wv.become, cl, Wv.mk.injEq, true_and, and_true]
  omega
set_option maxRecDepth 100000 in
set_option maxHeartbeats 1000000 in
theorem rgrow_c (b : Nat) (v : Wv) (n s t r : Int) (w : World) (h : Rt 34 w b v) (ho : v.ok) (q0 : 0 ≤ n ∧ n ≤ 1048576) (q1 : 0 ≤ s ∧ s ≤ 1125899906842624) (q2 : 0 ≤ t ∧ t ≤ 1125899906842624) (q3 : 0 ≤ r ∧ r ≤ 1125899906842624) (q4 : s ≤ t) (q5 : ¬ s ≤ v.r) : Calls Try.prog 13 #[.pointer (some ⟨b, 0, none⟩), .int .i64 n, .int .i64 s, .int .i64 t, .int .i64 r, .bool true] w fun e w' => e = .returned (.int .i64 0) ∧ Rt 34 w' b (v.grow n t r) ∧ Tn b w w' := by
  have hs := rtime_c s w
  rw [decide_eq_true q1] at hs
  have ht := rtime_c t w
  rw [decide_eq_true q2] at ht
  have hr := rtime_c r w
  rw [decide_eq_true q3] at hr
  have n1 : ¬ n < 0 := by omega
  have n2 : ¬ 1048576 < n := by omega
  have n4 : ¬ t < s := by omega
  obtain ⟨c0, c1, c2, c3, c4, c5, c6, c7, c8⟩ := h.cells
  have HG : Aside (v.grow n t r = if v.s = -1 ∨ v.b < v.s then v.become (v.b + n) else if v.k = 0 then v.become (v.b + v.z * n / v.b) else v.follow n t r) := rfl
  generalize v.grow n t r = R at *
  have HH : Aside (Rt 34 w b v) := h
  have HOK : Aside (v.ok) := ho
  obtain ⟨k0, z0, z1, b0, b1, s0, e0⟩ := ho
  have d2 : w.drew.cell? ⟨b, 2, none⟩ = some (.int .i64 v.b) := c2
  have d3 : w.drew.cell? ⟨b, 3, none⟩ = some (.int .i64 v.s) := c3
  have d0 : w.drew.cell? ⟨b, 0, none⟩ = some (.int .i64 v.k) := c0
  have fd2 : w.drew.frozen? ⟨b, 2, none⟩ = false := h.frozen 2
  have HHd : Aside (Rt 34 w.drew b v) := h.below (Below.refl _ w).drew
  have HTd : Aside (Tn b w w.drew) := Tn.below (Below.refl _ w).drew
  clear h e0
  go_enter Try.func13, Try.ntmps13
  go_wp2_with fail
  refine hs.mono ?_
  rintro e w' ⟨rfl, hw⟩
  subst w'
  go_wp2_with fail
  refine ht.mono ?_
  rintro e w' ⟨rfl, hw⟩
  subst w'
  go_wp2_with fail
  refine hr.mono ?_
  rintro e w' ⟨rfl, hw⟩
  subst w'
  clear hs ht hr
  go_upto_block 0 with fail
  go_cut [] from 13 (fun wx => ∃ (V : Wv) (x : Int), Aside (Rt 34 wx b { V with b := x } ∧ Tn b w wx ∧ R = V.become x ∧ 2 * V.z ≤ x ∧ V.z ≤ 65535))
  case first =>
    by_cases p1 : v.s = -1
    · have p1' : v.s < 0 := by omega
      have i1 : IntKind.i64.wrap (v.b + n) = v.b + n := wrp _ (by omega) (by omega)
      have HR : Aside (R = v.become (v.b + n)) := by show R = _; rw [HG.out, if_pos (.inl p1)]
      clear p1 s0
      go_wp2_with fail
      refine wp_region_held_drew (S := fun X => X.cell? ⟨b, 3, none⟩ = some (.int .i64 v.s) ∧ X.cell? ⟨b, 2, none⟩ = some (.int .i64 v.b)) (by kernel_rfl) ⟨d3, d2⟩ (fun hHeld => ?_)
      refine wpAnyH_take (i := 0) (v := .pointer (some ⟨b, 0, none⟩)) rfl (by kernel_rfl) (by kernel_rfl) (by kernel_rfl) (fun _ _ _ h => h) (Or.inl ⟨by rfl, by intro w hs; go_simp⟩) hHeld ?_
      refine norm_any' (fun K hK => ?_)
      go_simp
      refine hK _ _ ?_
      clear hK K
      refine wpAnyH_take (i := 1) (v := .pointer (some ⟨b, 0, none⟩)) rfl (by kernel_rfl) (by kernel_rfl) (by kernel_rfl) (fun _ _ _ h => h) (Or.inl ⟨by rfl, by intro w hs; go_simp⟩) hHeld ?_
      refine norm_any' (fun K hK => ?_)
      go_simp
      refine hK _ _ ?_
      clear hK K
      refine wpAnyH_take (i := 2) (v := .pointer (some ⟨b, 3, none⟩)) rfl (by kernel_rfl) (by kernel_rfl) (by kernel_rfl) (fun _ _ _ h => h) (Or.inl ⟨by rfl, by intro w hs; go_simp⟩) hHeld ?_
      refine norm_any' (fun K hK => ?_)
      go_simp
      refine hK _ _ ?_
      clear hK K
      refine wpAnyH_take (i := 3) (v := .int .i64 v.s) rfl (by kernel_rfl) (by kernel_rfl) (by kernel_rfl) (fun _ _ _ h => h) (Or.inl ⟨by rfl, by rintro w ⟨s0, s1⟩; go_simp⟩) hHeld ?_
      refine norm_any' (fun K hK => ?_)
      go_simp
      refine hK _ _ ?_
      clear hK K
      refine wpAnyH_take (i := 4) (v := .bool true) rfl (by kernel_rfl) (by kernel_rfl) (by kernel_rfl) (fun _ _ _ h => h) (Or.inl ⟨by rfl, by intro w hs; go_simp⟩) hHeld ?_
      refine norm_any' (fun K hK => ?_)
      go_simp
      refine hK _ _ ?_
      clear hK K
      refine wpAnyH_take (i := 5) (v := .bool true) rfl (by kernel_rfl) (by kernel_rfl) (by kernel_rfl) (fun _ _ _ h => h) (Or.inl ⟨by rfl, by intro w hs; go_simp⟩) hHeld ?_
      refine norm_any' (fun K hK => ?_)
      go_simp
      refine hK _ _ ?_
      clear hK K
      refine wpAnyH_take (i := 6) (v := undef) rfl (by kernel_rfl) (by kernel_rfl) (by kernel_rfl) (fun _ _ _ h => h) (Or.inr ⟨by rfl, rfl⟩) hHeld ?_
      refine norm_any' (fun K hK => ?_)
      go_simp
      refine hK _ _ ?_
      clear hK K
      refine wpAnyH_take (i := 7) (v := undef) rfl (by kernel_rfl) (by kernel_rfl) (by kernel_rfl) (fun _ _ _ h => h) (Or.inr ⟨by rfl, rfl⟩) hHeld ?_
      refine norm_any' (fun K hK => ?_)
      go_simp
      refine hK _ _ ?_
      clear hK K
      refine wpAnyH_take (i := 8) (v := undef) rfl (by kernel_rfl) (by kernel_rfl) (by kernel_rfl) (fun _ _ _ h => h) (Or.inr ⟨by rfl, rfl⟩) hHeld ?_
      refine norm_any' (fun K hK => ?_)
      go_simp
      refine hK _ _ ?_
      clear hK K
      refine wpAnyH_take (i := 9) (v := undef) rfl (by kernel_rfl) (by kernel_rfl) (by kernel_rfl) (fun _ _ _ h => h) (Or.inr ⟨by rfl, rfl⟩) hHeld ?_
      refine norm_any' (fun K hK => ?_)
      go_simp
      refine hK _ _ ?_
      clear hK K
      refine wpAnyH_take (i := 10) (v := undef) rfl (by kernel_rfl) (by kernel_rfl) (by kernel_rfl) (fun _ _ _ h => h) (Or.inr ⟨by rfl, rfl⟩) hHeld ?_
      refine norm_any' (fun K hK => ?_)
      go_simp
      refine hK _ _ ?_
      clear hK K
      refine wpAnyH_take (i := 11) (v := undef) rfl (by kernel_rfl) (by kernel_rfl) (by kernel_rfl) (fun _ _ _ h => h) (Or.inr ⟨by rfl, rfl⟩) hHeld ?_
      refine norm_any' (fun K hK => ?_)
      go_simp
      refine hK _ _ ?_
      clear hK K
      refine wpAnyH_take (i := 12) (v := undef) rfl (by kernel_rfl) (by kernel_rfl) (by kernel_rfl) (fun _ _ _ h => h) (Or.inr ⟨by rfl, rfl⟩) hHeld ?_
      refine norm_any' (fun K hK => ?_)
      go_simp
      refine hK _ _ ?_
      clear hK K
      refine wpAnyH_take (i := 13) (v := undef) rfl (by kernel_rfl) (by kernel_rfl) (by kernel_rfl) (fun _ _ _ h => h) (Or.inr ⟨by rfl, rfl⟩) hHeld ?_
      refine norm_any' (fun K hK => ?_)
      go_simp
      refine hK _ _ ?_
      clear hK K
      refine wpAnyH_take (i := 14) (v := undef) rfl (by kernel_rfl) (by kernel_rfl) (by kernel_rfl) (fun _ _ _ h => h) (Or.inr ⟨by rfl, rfl⟩) hHeld ?_
      refine norm_any' (fun K hK => ?_)
      go_simp
      refine hK _ _ ?_
      clear hK K
      refine wpAnyH_take (i := 15) (v := .bool true) rfl (by kernel_rfl) (by kernel_rfl) (by kernel_rfl) (fun _ _ _ h => h) (Or.inl ⟨by rfl, by intro w hs; go_simp⟩) hHeld ?_
      refine norm_any' (fun K hK => ?_)
      go_simp
      refine hK _ _ ?_
      clear hK K
      refine wpAnyH_take (i := 16) (v := .bool true) rfl (by kernel_rfl) (by kernel_rfl) (by kernel_rfl) (fun _ _ _ h => h) (Or.inl ⟨by rfl, by intro w hs; go_simp⟩) hHeld ?_
      refine norm_any' (fun K hK => ?_)
      go_simp
      refine hK _ _ ?_
      clear hK K
      refine wpAnyH_done (by kernel_rfl) ?_ _
      clear hHeld
      go_wp2
      go_meet
      case rel => exact ⟨v, v.b + n, HHd.out.set 2 (.int .i64 (v.b + n)) _ rfl, HTd.out.trans (Tn.set HHd.out 2 (.int .i64 (v.b + n))), HR.out, by omega, z1⟩
    have p1' : ¬ v.s < 0 := by omega
    clear s0
    by_cases p2 : v.b < v.s
    · skip
      have i1 : IntKind.i64.wrap (v.b + n) = v.b + n := wrp _ (by omega) (by omega)
      have HR : Aside (R = v.become (v.b + n)) := by show R = _; rw [HG.out, if_pos (.inr p2)]
      go_wp2_with fail
      refine wp_region_held_drew (S := fun X => X.cell? ⟨b, 3, none⟩ = some (.int .i64 v.s) ∧ X.cell? ⟨b, 2, none⟩ = some (.int .i64 v.b)) (by kernel_rfl) ⟨d3, d2⟩ (fun hHeld => ?_)
      refine wpAnyH_take (i := 0) (v := .pointer (some ⟨b, 0, none⟩)) rfl (by kernel_rfl) (by kernel_rfl) (by kernel_rfl) (fun _ _ _ h => h) (Or.inl ⟨by rfl, by intro w hs; go_simp⟩) hHeld ?_
      refine norm_any' (fun K hK => ?_)
      go_simp
      refine hK _ _ ?_
      clear hK K
      refine wpAnyH_take (i := 1) (v := .pointer (some ⟨b, 0, none⟩)) rfl (by kernel_rfl) (by kernel_rfl) (by kernel_rfl) (fun _ _ _ h => h) (Or.inl ⟨by rfl, by intro w hs; go_simp⟩) hHeld ?_
      refine norm_any' (fun K hK => ?_)
      go_simp
      refine hK _ _ ?_
      clear hK K
      refine wpAnyH_take (i := 2) (v := .pointer (some ⟨b, 3, none⟩)) rfl (by kernel_rfl) (by kernel_rfl) (by kernel_rfl) (fun _ _ _ h => h) (Or.inl ⟨by rfl, by intro w hs; go_simp⟩) hHeld ?_
      refine norm_any' (fun K hK => ?_)
      go_simp
      refine hK _ _ ?_
      clear hK K
      refine wpAnyH_take (i := 3) (v := .int .i64 v.s) rfl (by kernel_rfl) (by kernel_rfl) (by kernel_rfl) (fun _ _ _ h => h) (Or.inl ⟨by rfl, by rintro w ⟨s0, s1⟩; go_simp⟩) hHeld ?_
      refine norm_any' (fun K hK => ?_)
      go_simp
      refine hK _ _ ?_
      clear hK K
      refine wpAnyH_take (i := 4) (v := .bool false) rfl (by kernel_rfl) (by kernel_rfl) (by kernel_rfl) (fun _ _ _ h => h) (Or.inl ⟨by rfl, by intro w hs; go_simp⟩) hHeld ?_
      refine norm_any' (fun K hK => ?_)
      go_simp
      refine hK _ _ ?_
      clear hK K
      refine wpAnyH_take (i := 5) (v := .bool false) rfl (by kernel_rfl) (by kernel_rfl) (by kernel_rfl) (fun _ _ _ h => h) (Or.inl ⟨by rfl, by intro w hs; go_simp⟩) hHeld ?_
      refine norm_any' (fun K hK => ?_)
      go_simp
      refine hK _ _ ?_
      clear hK K
      refine wpAnyH_take (i := 6) (v := .pointer (some ⟨b, 0, none⟩)) rfl (by kernel_rfl) (by kernel_rfl) (by kernel_rfl) (fun _ _ _ h => h) (Or.inl ⟨by rfl, by intro w hs; go_simp⟩) hHeld ?_
      refine norm_any' (fun K hK => ?_)
      go_simp
      refine hK _ _ ?_
      clear hK K
      refine wpAnyH_take (i := 7) (v := .pointer (some ⟨b, 0, none⟩)) rfl (by kernel_rfl) (by kernel_rfl) (by kernel_rfl) (fun _ _ _ h => h) (Or.inl ⟨by rfl, by intro w hs; go_simp⟩) hHeld ?_
      refine norm_any' (fun K hK => ?_)
      go_simp
      refine hK _ _ ?_
      clear hK K
      refine wpAnyH_take (i := 8) (v := .pointer (some ⟨b, 2, none⟩)) rfl (by kernel_rfl) (by kernel_rfl) (by kernel_rfl) (fun _ _ _ h => h) (Or.inl ⟨by rfl, by intro w hs; go_simp⟩) hHeld ?_
      refine norm_any' (fun K hK => ?_)
      go_simp
      refine hK _ _ ?_
      clear hK K
      refine wpAnyH_take (i := 9) (v := .int .i64 v.b) rfl (by kernel_rfl) (by kernel_rfl) (by kernel_rfl) (fun _ _ _ h => h) (Or.inl ⟨by rfl, by rintro w ⟨s0, s1⟩; go_simp⟩) hHeld ?_
      refine norm_any' (fun K hK => ?_)
      go_simp
      refine hK _ _ ?_
      clear hK K
      refine wpAnyH_take (i := 10) (v := .pointer (some ⟨b, 0, none⟩)) rfl (by kernel_rfl) (by kernel_rfl) (by kernel_rfl) (fun _ _ _ h => h) (Or.inl ⟨by rfl, by intro w hs; go_simp⟩) hHeld ?_
      refine norm_any' (fun K hK => ?_)
      go_simp
      refine hK _ _ ?_
      clear hK K
      refine wpAnyH_take (i := 11) (v := .pointer (some ⟨b, 0, none⟩)) rfl (by kernel_rfl) (by kernel_rfl) (by kernel_rfl) (fun _ _ _ h => h) (Or.inl ⟨by rfl, by intro w hs; go_simp⟩) hHeld ?_
      refine norm_any' (fun K hK => ?_)
      go_simp
      refine hK _ _ ?_
      clear hK K
      refine wpAnyH_take (i := 12) (v := .pointer (some ⟨b, 3, none⟩)) rfl (by kernel_rfl) (by kernel_rfl) (by kernel_rfl) (fun _ _ _ h => h) (Or.inl ⟨by rfl, by intro w hs; go_simp⟩) hHeld ?_
      refine norm_any' (fun K hK => ?_)
      go_simp
      refine hK _ _ ?_
      clear hK K
      refine wpAnyH_take (i := 13) (v := .int .i64 v.s) rfl (by kernel_rfl) (by kernel_rfl) (by kernel_rfl) (fun _ _ _ h => h) (Or.inl ⟨by rfl, by rintro w ⟨s0, s1⟩; go_simp⟩) hHeld ?_
      refine norm_any' (fun K hK => ?_)
      go_simp
      refine hK _ _ ?_
      clear hK K
      refine wpAnyH_take (i := 14) (v := .bool true) rfl (by kernel_rfl) (by kernel_rfl) (by kernel_rfl) (fun _ _ _ h => h) (Or.inl ⟨by rfl, by intro w hs; go_simp⟩) hHeld ?_
      refine norm_any' (fun K hK => ?_)
      go_simp
      refine hK _ _ ?_
      clear hK K
      refine wpAnyH_take (i := 15) (v := .bool true) rfl (by kernel_rfl) (by kernel_rfl) (by kernel_rfl) (fun _ _ _ h => h) (Or.inl ⟨by rfl, by intro w hs; go_simp⟩) hHeld ?_
      refine norm_any' (fun K hK => ?_)
      go_simp
      refine hK _ _ ?_
      clear hK K
      refine wpAnyH_take (i := 16) (v := .bool true) rfl (by kernel_rfl) (by kernel_rfl) (by kernel_rfl) (fun _ _ _ h => h) (Or.inl ⟨by rfl, by intro w hs; go_simp⟩) hHeld ?_
      refine norm_any' (fun K hK => ?_)
      go_simp
      refine hK _ _ ?_
      clear hK K
      refine wpAnyH_done (by kernel_rfl) ?_ _
      clear hHeld
      go_wp2
      go_meet
      case rel => exact ⟨v, v.b + n, HHd.out.set 2 (.int .i64 (v.b + n)) _ rfl, HTd.out.trans (Tn.set HHd.out 2 (.int .i64 (v.b + n))), HR.out, by omega, z1⟩
    by_cases p3 : v.k = 0
    · skip
      obtain ⟨m1, m2, -, -⟩ := mulzn v.z n (by omega) z1 q0.1 q0.2
      have i1 : IntKind.i64.wrap (v.z * n) = v.z * n := wrp _ (by omega) (by omega)
      have hR : R = v.become (v.b + v.z * n / v.b) := by rw [HG.out, if_neg (by rintro (h | h) <;> contradiction), if_pos p3]
      obtain ⟨H, hH⟩ : ∃ x, v.z * n / v.b = x := ⟨_, rfl⟩
      rw [hH] at hR
      have HR : Aside (R = v.become (v.b + H)) := hR
      have hH1 : 0 ≤ H ∧ H ≤ 68718428160 := by
        rw [← hH]
        exact ⟨Int.ediv_nonneg m1 (by omega), Int.le_trans (Int.ediv_le_self _ m1) m2⟩
      have i2 : (v.z * n).tdiv v.b = H := by rw [Int.tdiv_eq_ediv_of_nonneg m1, hH]
      have i3 : IntKind.i64.wrap H = H := wrp _ (by omega) (by omega)
      have i4 : IntKind.i64.wrap (v.b + H) = v.b + H := wrp _ (by omega) (by omega)
      have i5 : v.b ≠ 0 := by omega
      clear hH m1 m2 hR
      go_wp2_with fail
      refine wp_region_held_drew (S := fun X => X.cell? ⟨b, 3, none⟩ = some (.int .i64 v.s) ∧ X.cell? ⟨b, 2, none⟩ = some (.int .i64 v.b)) (by kernel_rfl) ⟨d3, d2⟩ (fun hHeld => ?_)
      refine wpAnyH_take (i := 0) (v := .pointer (some ⟨b, 0, none⟩)) rfl (by kernel_rfl) (by kernel_rfl) (by kernel_rfl) (fun _ _ _ h => h) (Or.inl ⟨by rfl, by intro w hs; go_simp⟩) hHeld ?_
      refine norm_any' (fun K hK => ?_)
      go_simp
      refine hK _ _ ?_
      clear hK K
      refine wpAnyH_take (i := 1) (v := .pointer (some ⟨b, 0, none⟩)) rfl (by kernel_rfl) (by kernel_rfl) (by kernel_rfl) (fun _ _ _ h => h) (Or.inl ⟨by rfl, by intro w hs; go_simp⟩) hHeld ?_
      refine norm_any' (fun K hK => ?_)
      go_simp
      refine hK _ _ ?_
      clear hK K
      refine wpAnyH_take (i := 2) (v := .pointer (some ⟨b, 3, none⟩)) rfl (by kernel_rfl) (by kernel_rfl) (by kernel_rfl) (fun _ _ _ h => h) (Or.inl ⟨by rfl, by intro w hs; go_simp⟩) hHeld ?_
      refine norm_any' (fun K hK => ?_)
      go_simp
      refine hK _ _ ?_
      clear hK K
      refine wpAnyH_take (i := 3) (v := .int .i64 v.s) rfl (by kernel_rfl) (by kernel_rfl) (by kernel_rfl) (fun _ _ _ h => h) (Or.inl ⟨by rfl, by rintro w ⟨s0, s1⟩; go_simp⟩) hHeld ?_
      refine norm_any' (fun K hK => ?_)
      go_simp
      refine hK _ _ ?_
      clear hK K
      refine wpAnyH_take (i := 4) (v := .bool false) rfl (by kernel_rfl) (by kernel_rfl) (by kernel_rfl) (fun _ _ _ h => h) (Or.inl ⟨by rfl, by intro w hs; go_simp⟩) hHeld ?_
      refine norm_any' (fun K hK => ?_)
      go_simp
      refine hK _ _ ?_
      clear hK K
      refine wpAnyH_take (i := 5) (v := .bool false) rfl (by kernel_rfl) (by kernel_rfl) (by kernel_rfl) (fun _ _ _ h => h) (Or.inl ⟨by rfl, by intro w hs; go_simp⟩) hHeld ?_
      refine norm_any' (fun K hK => ?_)
      go_simp
      refine hK _ _ ?_
      clear hK K
      refine wpAnyH_take (i := 6) (v := .pointer (some ⟨b, 0, none⟩)) rfl (by kernel_rfl) (by kernel_rfl) (by kernel_rfl) (fun _ _ _ h => h) (Or.inl ⟨by rfl, by intro w hs; go_simp⟩) hHeld ?_
      refine norm_any' (fun K hK => ?_)
      go_simp
      refine hK _ _ ?_
      clear hK K
      refine wpAnyH_take (i := 7) (v := .pointer (some ⟨b, 0, none⟩)) rfl (by kernel_rfl) (by kernel_rfl) (by kernel_rfl) (fun _ _ _ h => h) (Or.inl ⟨by rfl, by intro w hs; go_simp⟩) hHeld ?_
      refine norm_any' (fun K hK => ?_)
      go_simp
      refine hK _ _ ?_
      clear hK K
      refine wpAnyH_take (i := 8) (v := .pointer (some ⟨b, 2, none⟩)) rfl (by kernel_rfl) (by kernel_rfl) (by kernel_rfl) (fun _ _ _ h => h) (Or.inl ⟨by rfl, by intro w hs; go_simp⟩) hHeld ?_
      refine norm_any' (fun K hK => ?_)
      go_simp
      refine hK _ _ ?_
      clear hK K
      refine wpAnyH_take (i := 9) (v := .int .i64 v.b) rfl (by kernel_rfl) (by kernel_rfl) (by kernel_rfl) (fun _ _ _ h => h) (Or.inl ⟨by rfl, by rintro w ⟨s0, s1⟩; go_simp⟩) hHeld ?_
      refine norm_any' (fun K hK => ?_)
      go_simp
      refine hK _ _ ?_
      clear hK K
      refine wpAnyH_take (i := 10) (v := .pointer (some ⟨b, 0, none⟩)) rfl (by kernel_rfl) (by kernel_rfl) (by kernel_rfl) (fun _ _ _ h => h) (Or.inl ⟨by rfl, by intro w hs; go_simp⟩) hHeld ?_
      refine norm_any' (fun K hK => ?_)
      go_simp
      refine hK _ _ ?_
      clear hK K
      refine wpAnyH_take (i := 11) (v := .pointer (some ⟨b, 0, none⟩)) rfl (by kernel_rfl) (by kernel_rfl) (by kernel_rfl) (fun _ _ _ h => h) (Or.inl ⟨by rfl, by intro w hs; go_simp⟩) hHeld ?_
      refine norm_any' (fun K hK => ?_)
      go_simp
      refine hK _ _ ?_
      clear hK K
      refine wpAnyH_take (i := 12) (v := .pointer (some ⟨b, 3, none⟩)) rfl (by kernel_rfl) (by kernel_rfl) (by kernel_rfl) (fun _ _ _ h => h) (Or.inl ⟨by rfl, by intro w hs; go_simp⟩) hHeld ?_
      refine norm_any' (fun K hK => ?_)
      go_simp
      refine hK _ _ ?_
      clear hK K
      refine wpAnyH_take (i := 13) (v := .int .i64 v.s) rfl (by kernel_rfl) (by kernel_rfl) (by kernel_rfl) (fun _ _ _ h => h) (Or.inl ⟨by rfl, by rintro w ⟨s0, s1⟩; go_simp⟩) hHeld ?_
      refine norm_any' (fun K hK => ?_)
      go_simp
      refine hK _ _ ?_
      clear hK K
      refine wpAnyH_take (i := 14) (v := .bool false) rfl (by kernel_rfl) (by kernel_rfl) (by kernel_rfl) (fun _ _ _ h => h) (Or.inl ⟨by rfl, by intro w hs; go_simp⟩) hHeld ?_
      refine norm_any' (fun K hK => ?_)
      go_simp
      refine hK _ _ ?_
      clear hK K
      refine wpAnyH_take (i := 15) (v := .bool false) rfl (by kernel_rfl) (by kernel_rfl) (by kernel_rfl) (fun _ _ _ h => h) (Or.inl ⟨by rfl, by intro w hs; go_simp⟩) hHeld ?_
      refine norm_any' (fun K hK => ?_)
      go_simp
      refine hK _ _ ?_
      clear hK K
      refine wpAnyH_take (i := 16) (v := .bool false) rfl (by kernel_rfl) (by kernel_rfl) (by kernel_rfl) (fun _ _ _ h => h) (Or.inl ⟨by rfl, by intro w hs; go_simp⟩) hHeld ?_
      refine norm_any' (fun K hK => ?_)
      go_simp
      refine hK _ _ ?_
      clear hK K
      refine wpAnyH_done (by kernel_rfl) ?_ _
      clear hHeld
      have x2 : w.drew.drew.cell? ⟨b, 2, none⟩ = some (.int .i64 v.b) := c2
      have x1 : w.drew.drew.cell? ⟨b, 1, none⟩ = some (.int .i64 v.z) := c1
      have xf : w.drew.drew.frozen? ⟨b, 2, none⟩ = false := fd2
      have HR2 : Aside (Rt 34 (w.setCell ⟨b, 2, none⟩ (.int .i64 (v.b + H))).drew.drew b { v with b := v.b + H }) := ((HH.out.set 2 (.int .i64 (v.b + H)) { v with b := v.b + H } rfl).below (Below.refl _ _).drew).below (Below.refl _ _).drew
      have HT2 : Aside (Tn b w (w.setCell ⟨b, 2, none⟩ (.int .i64 (v.b + H))).drew.drew) := ((Tn.set HH.out 2 (.int .i64 (v.b + H))).trans (Tn.below (Below.refl _ _).drew)).trans (Tn.below (Below.refl _ _).drew)
      go_wp2_with fail
      refine wp_region_w 19 (fun X => X.cell? ⟨b, 2, none⟩ = some (.int .i64 v.b) ∧ X.cell? ⟨b, 1, none⟩ = some (.int .i64 v.z)) (by kernel_rfl) ⟨x2, x1⟩ (fun hHeld => ?_)
      refine wpAnyW_take (i := 0) (v := .pointer (some ⟨b, 0, none⟩)) [] rfl (by kernel_rfl) (by kernel_rfl) (by kernel_rfl) (by kernel_rfl) (by kernel_rfl) (fun _ _ _ h => h) (Or.inl ⟨by rfl, by intro w hs; go_simp⟩) hHeld ?_
      refine norm_any' (fun K hK => ?_)
      go_simp
      refine hK _ _ ?_
      clear hK K
      refine wpAnyW_take (i := 1) (v := .pointer (some ⟨b, 0, none⟩)) [] rfl (by kernel_rfl) (by kernel_rfl) (by kernel_rfl) (by kernel_rfl) (by kernel_rfl) (fun _ _ _ h => h) (Or.inl ⟨by rfl, by intro w hs; go_simp⟩) hHeld ?_
      refine norm_any' (fun K hK => ?_)
      go_simp
      refine hK _ _ ?_
      clear hK K
      refine wpAnyW_take (i := 2) (v := .pointer (some ⟨b, 0, none⟩)) [] rfl (by kernel_rfl) (by kernel_rfl) (by kernel_rfl) (by kernel_rfl) (by kernel_rfl) (fun _ _ _ h => h) (Or.inl ⟨by rfl, by intro w hs; go_simp⟩) hHeld ?_
      refine norm_any' (fun K hK => ?_)
      go_simp
      refine hK _ _ ?_
      clear hK K
      refine wpAnyW_take (i := 3) (v := .pointer (some ⟨b, 2, none⟩)) [] rfl (by kernel_rfl) (by kernel_rfl) (by kernel_rfl) (by kernel_rfl) (by kernel_rfl) (fun _ _ _ h => h) (Or.inl ⟨by rfl, by intro w hs; go_simp⟩) hHeld ?_
      refine norm_any' (fun K hK => ?_)
      go_simp
      refine hK _ _ ?_
      clear hK K
      refine wpAnyW_take (i := 4) (v := .int .i64 v.b) [] rfl (by kernel_rfl) (by kernel_rfl) (by kernel_rfl) (by kernel_rfl) (by kernel_rfl) (fun _ _ _ h => h) (Or.inl ⟨by rfl, by rintro w ⟨s0, s1⟩; go_simp⟩) hHeld ?_
      refine norm_any' (fun K hK => ?_)
      go_simp
      refine hK _ _ ?_
      clear hK K
      refine wpAnyW_take (i := 5) (v := .pointer (some ⟨b, 0, none⟩)) [] rfl (by kernel_rfl) (by kernel_rfl) (by kernel_rfl) (by kernel_rfl) (by kernel_rfl) (fun _ _ _ h => h) (Or.inl ⟨by rfl, by intro w hs; go_simp⟩) hHeld ?_
      refine norm_any' (fun K hK => ?_)
      go_simp
      refine hK _ _ ?_
      clear hK K
      refine wpAnyW_take (i := 6) (v := .pointer (some ⟨b, 0, none⟩)) [] rfl (by kernel_rfl) (by kernel_rfl) (by kernel_rfl) (by kernel_rfl) (by kernel_rfl) (fun _ _ _ h => h) (Or.inl ⟨by rfl, by intro w hs; go_simp⟩) hHeld ?_
      refine norm_any' (fun K hK => ?_)
      go_simp
      refine hK _ _ ?_
      clear hK K
      refine wpAnyW_take (i := 7) (v := .pointer (some ⟨b, 1, none⟩)) [] rfl (by kernel_rfl) (by kernel_rfl) (by kernel_rfl) (by kernel_rfl) (by kernel_rfl) (fun _ _ _ h => h) (Or.inl ⟨by rfl, by intro w hs; go_simp⟩) hHeld ?_
      refine norm_any' (fun K hK => ?_)
      go_simp
      refine hK _ _ ?_
      clear hK K
      refine wpAnyW_take (i := 8) (v := .int .i64 v.z) [] rfl (by kernel_rfl) (by kernel_rfl) (by kernel_rfl) (by kernel_rfl) (by kernel_rfl) (fun _ _ _ h => h) (Or.inl ⟨by rfl, by rintro w ⟨s0, s1⟩; go_simp⟩) hHeld ?_
      refine norm_any' (fun K hK => ?_)
      go_simp
      refine hK _ _ ?_
      clear hK K
      refine wpAnyW_take (i := 9) (v := .int .i64 n) [] rfl (by kernel_rfl) (by kernel_rfl) (by kernel_rfl) (by kernel_rfl) (by kernel_rfl) (fun _ _ _ h => h) (Or.inl ⟨by rfl, by intro w hs; go_simp⟩) hHeld ?_
      refine norm_any' (fun K hK => ?_)
      go_simp
      refine hK _ _ ?_
      clear hK K
      refine wpAnyW_take (i := 10) (v := .int .i64 (v.z * n)) [] rfl (by kernel_rfl) (by kernel_rfl) (by kernel_rfl) (by kernel_rfl) (by kernel_rfl) (fun _ _ _ h => h) (Or.inl ⟨by rfl, by intro w hs; go_simp⟩) hHeld ?_
      refine norm_any' (fun K hK => ?_)
      go_simp
      refine hK _ _ ?_
      clear hK K
      refine wpAnyW_take (i := 11) (v := .pointer (some ⟨b, 0, none⟩)) [] rfl (by kernel_rfl) (by kernel_rfl) (by kernel_rfl) (by kernel_rfl) (by kernel_rfl) (fun _ _ _ h => h) (Or.inl ⟨by rfl, by intro w hs; go_simp⟩) hHeld ?_
      refine norm_any' (fun K hK => ?_)
      go_simp
      refine hK _ _ ?_
      clear hK K
      refine wpAnyW_take (i := 12) (v := .pointer (some ⟨b, 0, none⟩)) [] rfl (by kernel_rfl) (by kernel_rfl) (by kernel_rfl) (by kernel_rfl) (by kernel_rfl) (fun _ _ _ h => h) (Or.inl ⟨by rfl, by intro w hs; go_simp⟩) hHeld ?_
      refine norm_any' (fun K hK => ?_)
      go_simp
      refine hK _ _ ?_
      clear hK K
      refine wpAnyW_take (i := 13) (v := .pointer (some ⟨b, 2, none⟩)) [] rfl (by kernel_rfl) (by kernel_rfl) (by kernel_rfl) (by kernel_rfl) (by kernel_rfl) (fun _ _ _ h => h) (Or.inl ⟨by rfl, by intro w hs; go_simp⟩) hHeld ?_
      refine norm_any' (fun K hK => ?_)
      go_simp
      refine hK _ _ ?_
      clear hK K
      refine wpAnyW_take (i := 14) (v := .int .i64 v.b) [] rfl (by kernel_rfl) (by kernel_rfl) (by kernel_rfl) (by kernel_rfl) (by kernel_rfl) (fun _ _ _ h => h) (Or.inl ⟨by rfl, by rintro w ⟨s0, s1⟩; go_simp⟩) hHeld ?_
      refine norm_any' (fun K hK => ?_)
      go_simp
      refine hK _ _ ?_
      clear hK K
      refine wpAnyW_take (i := 15) (v := .int .i64 H) [] rfl (by kernel_rfl) (by kernel_rfl) (by kernel_rfl) (by kernel_rfl) (by kernel_rfl) (fun _ _ _ h => h) (Or.inl ⟨by rfl, by intro w hs; go_simp⟩) hHeld ?_
      refine norm_any' (fun K hK => ?_)
      go_simp
      refine hK _ _ ?_
      clear hK K
      refine wpAnyW_take (i := 16) (v := .int .i64 (v.b + H)) [] rfl (by kernel_rfl) (by kernel_rfl) (by kernel_rfl) (by kernel_rfl) (by kernel_rfl) (fun _ _ _ h => h) (Or.inl ⟨by rfl, by intro w hs; go_simp⟩) hHeld ?_
      refine norm_any' (fun K hK => ?_)
      go_simp
      refine hK _ _ ?_
      clear hK K
      refine wpAnyW_take (i := 17) (v := .pointer (some ⟨b, 0, none⟩)) [18] rfl (by kernel_rfl) (by kernel_rfl) (by kernel_rfl) (by kernel_rfl) (by kernel_rfl) (fun _ _ _ h => h) (Or.inl ⟨by rfl, by intro w hs; go_simp⟩) hHeld ?_
      refine norm_any' (fun K hK => ?_)
      go_simp
      refine hK _ _ ?_
      clear hK K
      refine wpAnyW_take (i := 18) (v := .pointer (some ⟨b, 2, none⟩)) [] rfl (by kernel_rfl) (by kernel_rfl) (by kernel_rfl) (by kernel_rfl) (by kernel_rfl) (fun _ _ _ h => h) (Or.inl ⟨by rfl, by intro w hs; go_simp⟩) hHeld ?_
      refine norm_any' (fun K hK => ?_)
      go_simp
      refine hK _ _ ?_
      clear hK K
      refine wpAnyW_last (by kernel_rfl) rfl (by kernel_rfl) (fun K hK => ?_)
      go_simp
      refine hK.out _ _ ?_
      clear hK K hHeld
      go_wp2
      go_meet
      case rel => exact ⟨v, v.b + H, HR2.out, HT2.out, HR.out, by omega, z1⟩
    · skip
      have HR : Aside (R = (v.begin t).fol n t r) := by
        show R = _
        rw [HG.out, if_neg (by rintro (h | h) <;> contradiction), if_neg p3]
        rfl
      have hbc := rcubic_c b v n t r w.drew HHd.out HOK.out q0.1 q0.2 q2.1
      go_wp2_with fail
      refine wp_region_held_drew (S := fun X => X.cell? ⟨b, 3, none⟩ = some (.int .i64 v.s) ∧ X.cell? ⟨b, 2, none⟩ = some (.int .i64 v.b)) (by kernel_rfl) ⟨d3, d2⟩ (fun hHeld => ?_)
      refine wpAnyH_take (i := 0) (v := .pointer (some ⟨b, 0, none⟩)) rfl (by kernel_rfl) (by kernel_rfl) (by kernel_rfl) (fun _ _ _ h => h) (Or.inl ⟨by rfl, by intro w hs; go_simp⟩) hHeld ?_
      refine norm_any' (fun K hK => ?_)
      go_simp
      refine hK _ _ ?_
      clear hK K
      refine wpAnyH_take (i := 1) (v := .pointer (some ⟨b, 0, none⟩)) rfl (by kernel_rfl) (by kernel_rfl) (by kernel_rfl) (fun _ _ _ h => h) (Or.inl ⟨by rfl, by intro w hs; go_simp⟩) hHeld ?_
      refine norm_any' (fun K hK => ?_)
      go_simp
      refine hK _ _ ?_
      clear hK K
      refine wpAnyH_take (i := 2) (v := .pointer (some ⟨b, 3, none⟩)) rfl (by kernel_rfl) (by kernel_rfl) (by kernel_rfl) (fun _ _ _ h => h) (Or.inl ⟨by rfl, by intro w hs; go_simp⟩) hHeld ?_
      refine norm_any' (fun K hK => ?_)
      go_simp
      refine hK _ _ ?_
      clear hK K
      refine wpAnyH_take (i := 3) (v := .int .i64 v.s) rfl (by kernel_rfl) (by kernel_rfl) (by kernel_rfl) (fun _ _ _ h => h) (Or.inl ⟨by rfl, by rintro w ⟨s0, s1⟩; go_simp⟩) hHeld ?_
      refine norm_any' (fun K hK => ?_)
      go_simp
      refine hK _ _ ?_
      clear hK K
      refine wpAnyH_take (i := 4) (v := .bool false) rfl (by kernel_rfl) (by kernel_rfl) (by kernel_rfl) (fun _ _ _ h => h) (Or.inl ⟨by rfl, by intro w hs; go_simp⟩) hHeld ?_
      refine norm_any' (fun K hK => ?_)
      go_simp
      refine hK _ _ ?_
      clear hK K
      refine wpAnyH_take (i := 5) (v := .bool false) rfl (by kernel_rfl) (by kernel_rfl) (by kernel_rfl) (fun _ _ _ h => h) (Or.inl ⟨by rfl, by intro w hs; go_simp⟩) hHeld ?_
      refine norm_any' (fun K hK => ?_)
      go_simp
      refine hK _ _ ?_
      clear hK K
      refine wpAnyH_take (i := 6) (v := .pointer (some ⟨b, 0, none⟩)) rfl (by kernel_rfl) (by kernel_rfl) (by kernel_rfl) (fun _ _ _ h => h) (Or.inl ⟨by rfl, by intro w hs; go_simp⟩) hHeld ?_
      refine norm_any' (fun K hK => ?_)
      go_simp
      refine hK _ _ ?_
      clear hK K
      refine wpAnyH_take (i := 7) (v := .pointer (some ⟨b, 0, none⟩)) rfl (by kernel_rfl) (by kernel_rfl) (by kernel_rfl) (fun _ _ _ h => h) (Or.inl ⟨by rfl, by intro w hs; go_simp⟩) hHeld ?_
      refine norm_any' (fun K hK => ?_)
      go_simp
      refine hK _ _ ?_
      clear hK K
      refine wpAnyH_take (i := 8) (v := .pointer (some ⟨b, 2, none⟩)) rfl (by kernel_rfl) (by kernel_rfl) (by kernel_rfl) (fun _ _ _ h => h) (Or.inl ⟨by rfl, by intro w hs; go_simp⟩) hHeld ?_
      refine norm_any' (fun K hK => ?_)
      go_simp
      refine hK _ _ ?_
      clear hK K
      refine wpAnyH_take (i := 9) (v := .int .i64 v.b) rfl (by kernel_rfl) (by kernel_rfl) (by kernel_rfl) (fun _ _ _ h => h) (Or.inl ⟨by rfl, by rintro w ⟨s0, s1⟩; go_simp⟩) hHeld ?_
      refine norm_any' (fun K hK => ?_)
      go_simp
      refine hK _ _ ?_
      clear hK K
      refine wpAnyH_take (i := 10) (v := .pointer (some ⟨b, 0, none⟩)) rfl (by kernel_rfl) (by kernel_rfl) (by kernel_rfl) (fun _ _ _ h => h) (Or.inl ⟨by rfl, by intro w hs; go_simp⟩) hHeld ?_
      refine norm_any' (fun K hK => ?_)
      go_simp
      refine hK _ _ ?_
      clear hK K
      refine wpAnyH_take (i := 11) (v := .pointer (some ⟨b, 0, none⟩)) rfl (by kernel_rfl) (by kernel_rfl) (by kernel_rfl) (fun _ _ _ h => h) (Or.inl ⟨by rfl, by intro w hs; go_simp⟩) hHeld ?_
      refine norm_any' (fun K hK => ?_)
      go_simp
      refine hK _ _ ?_
      clear hK K
      refine wpAnyH_take (i := 12) (v := .pointer (some ⟨b, 3, none⟩)) rfl (by kernel_rfl) (by kernel_rfl) (by kernel_rfl) (fun _ _ _ h => h) (Or.inl ⟨by rfl, by intro w hs; go_simp⟩) hHeld ?_
      refine norm_any' (fun K hK => ?_)
      go_simp
      refine hK _ _ ?_
      clear hK K
      refine wpAnyH_take (i := 13) (v := .int .i64 v.s) rfl (by kernel_rfl) (by kernel_rfl) (by kernel_rfl) (fun _ _ _ h => h) (Or.inl ⟨by rfl, by rintro w ⟨s0, s1⟩; go_simp⟩) hHeld ?_
      refine norm_any' (fun K hK => ?_)
      go_simp
      refine hK _ _ ?_
      clear hK K
      refine wpAnyH_take (i := 14) (v := .bool false) rfl (by kernel_rfl) (by kernel_rfl) (by kernel_rfl) (fun _ _ _ h => h) (Or.inl ⟨by rfl, by intro w hs; go_simp⟩) hHeld ?_
      refine norm_any' (fun K hK => ?_)
      go_simp
      refine hK _ _ ?_
      clear hK K
      refine wpAnyH_take (i := 15) (v := .bool false) rfl (by kernel_rfl) (by kernel_rfl) (by kernel_rfl) (fun _ _ _ h => h) (Or.inl ⟨by rfl, by intro w hs; go_simp⟩) hHeld ?_
      refine norm_any' (fun K hK => ?_)
      go_simp
      refine hK _ _ ?_
      clear hK K
      refine wpAnyH_take (i := 16) (v := .bool false) rfl (by kernel_rfl) (by kernel_rfl) (by kernel_rfl) (fun _ _ _ h => h) (Or.inl ⟨by rfl, by intro w hs; go_simp⟩) hHeld ?_
      refine norm_any' (fun K hK => ?_)
      go_simp
      refine hK _ _ ?_
      clear hK K
      refine wpAnyH_done (by kernel_rfl) ?_ _
      clear hHeld
      go_wp2_with fail
      refine hbc.mono ?_
      rintro e w1 ⟨rfl, hr1, ht1⟩
      have HF : Aside (Rt 34 w1 b ((v.begin t).rfol n t r) ∧ Tn b w w1) := ⟨hr1, HTd.out.trans ht1⟩
      clear hr1 ht1 hbc
      go_wp2
      go_meet
      case rel =>
        refine ⟨{ v.begin t with m := (v.begin t).est n }, _, HF.out.1, HF.out.2, HR.out, ?hz2, ?hz3⟩
        case hz2 =>
          obtain ⟨hk1, hk2, hk3⟩ := v.begin_ok t HOK.out q2.1
          have hge : 0 ≤ ((v.begin t).tgt t r - (v.begin t).b) * n / (v.begin t).b := Int.ediv_nonneg ((v.begin t).gain n t r hk1 q0.1 q0.2).2.2.1 (by have := hk1.b0; have := hk1.z0; omega)
          have := hk1.b0
          show 2 * (v.begin t).z ≤ max ((v.begin t).b + ((v.begin t).tgt t r - (v.begin t).b) * n / (v.begin t).b) ((v.begin t).est n)
          omega
        case hz3 => exact (v.begin_ok t HOK.out q2.1).1.z1
  case rest =>
    obtain ⟨V, x, HC⟩ := hcut
    obtain ⟨hr1, ht1, hR, hz2, hz3⟩ := HC.out
    have x2 := hr1.cells.2.2.1
    dsimp only at x2
    have xf := hr1.frozen 2
    have HR1 : Aside (Rt 34 wc b { V with b := x }) := hr1
    have HT1 : Aside (Tn b w wc) := ht1
    have HRR : Aside (R = V.become x) := hR
    clear hr1 ht1 HC c0 c1 c2 c3 c4 c5 c6 c7 c8 d0 d2 d3 fd2 hR HG
    by_cases q : 1073741824 < x
    · have HF : Aside (R = { V with b := 1073741824 }) := by show R = _; rw [HRR.out, V.become_hi x (by omega) q]
      go_wp2
      go_ret
      refine ⟨rfl, ?_, HT1.out.trans (Tn.set HR1.out 2 (.int .i64 1073741824))⟩
      rw [HF.out]
      exact HR1.out.set 2 (.int .i64 1073741824) _ rfl
    · have HF : Aside (R = { V with b := x }) := by show R = _; rw [HRR.out, V.become_lo x hz2 q]
      go_wp2
      go_ret
      refine ⟨rfl, ?_, HT1.out⟩
      rw [HF.out]
      exact HR1.out
set_option maxRecDepth 100000 in
theorem racked_c (b : Nat) (v : Wv) (n s t r : Int) (f : Bool) (w : World) (h : Rt 34 w b v) (ho : v.ok) : Calls Try.prog 13 #[.pointer (some ⟨b, 0, none⟩), .int .i64 n, .int .i64 s, .int .i64 t, .int .i64 r, .bool f] w fun e w' => e = .returned (.int .i64 (v.acked n s t r f).1) ∧ Rt 34 w' b (v.acked n s t r f).2 ∧ Tn b w w' := by
  have HA : Aside (v.acked n s t r f = if ¬ fitA n s t r then (2, v) else if f = false ∨ s ≤ v.r then (0, v) else (0, v.grow n t r)) := rfl
  have hs := rtime_c s w
  have ht := rtime_c t w
  have hr := rtime_c r w
  have c4 := h.cells.2.2.2.2.1
  have HH : Aside (Rt 34 w b v) := h
  have HO : Aside (v.ok) := ho
  generalize v.acked n s t r f = Q at *
  clear h ho
  by_cases n1 : n < 0
  · skip
    have HF : Aside (Q = (2, v)) := by show Q = _; rw [HA.out, if_pos (fun hq => absurd hq.1.1 (by omega))]
    clear HA
    go_enter Try.func13, Try.ntmps13
    go_wp2
    go_ret
    rw [HF.out]
    exact ⟨rfl, HH.out, Tn.refl _ _⟩
  by_cases n2 : 1048576 < n
  · skip
    have HF : Aside (Q = (2, v)) := by show Q = _; rw [HA.out, if_pos (fun hq => absurd hq.1.2 (by omega))]
    clear HA
    go_enter Try.func13, Try.ntmps13
    go_wp2
    go_ret
    rw [HF.out]
    exact ⟨rfl, HH.out, Tn.refl _ _⟩
  have q0 : 0 ≤ n ∧ n ≤ 1048576 := by omega
  by_cases q1 : 0 ≤ s ∧ s ≤ 1125899906842624
  rotate_left
  · rw [decide_eq_false q1] at hs
    have HF : Aside (Q = (2, v)) := by show Q = _; rw [HA.out, if_pos (fun hq => q1 hq.2.1)]
    clear HA
    go_enter Try.func13, Try.ntmps13
    go_wp2_with fail
    refine hs.mono ?_
    rintro e w' ⟨rfl, hw⟩
    subst w'
    go_wp2
    go_ret
    rw [HF.out]
    exact ⟨rfl, HH.out, Tn.refl _ _⟩
  rw [decide_eq_true q1] at hs
  by_cases q2 : 0 ≤ t ∧ t ≤ 1125899906842624
  rotate_left
  · rw [decide_eq_false q2] at ht
    have HF : Aside (Q = (2, v)) := by show Q = _; rw [HA.out, if_pos (fun hq => q2 hq.2.2.1)]
    clear HA
    go_enter Try.func13, Try.ntmps13
    go_wp2_with fail
    refine hs.mono ?_
    rintro e w' ⟨rfl, hw⟩
    subst w'
    go_wp2_with fail
    refine ht.mono ?_
    rintro e w' ⟨rfl, hw⟩
    subst w'
    go_wp2
    go_ret
    rw [HF.out]
    exact ⟨rfl, HH.out, Tn.refl _ _⟩
  rw [decide_eq_true q2] at ht
  by_cases q3 : 0 ≤ r ∧ r ≤ 1125899906842624
  rotate_left
  · rw [decide_eq_false q3] at hr
    have HF : Aside (Q = (2, v)) := by show Q = _; rw [HA.out, if_pos (fun hq => q3 hq.2.2.2.1)]
    clear HA
    go_enter Try.func13, Try.ntmps13
    go_wp2_with fail
    refine hs.mono ?_
    rintro e w' ⟨rfl, hw⟩
    subst w'
    go_wp2_with fail
    refine ht.mono ?_
    rintro e w' ⟨rfl, hw⟩
    subst w'
    go_wp2_with fail
    refine hr.mono ?_
    rintro e w' ⟨rfl, hw⟩
    subst w'
    go_wp2
    go_ret
    rw [HF.out]
    exact ⟨rfl, HH.out, Tn.refl _ _⟩
  rw [decide_eq_true q3] at hr
  by_cases q4 : s ≤ t
  rotate_left
  · have n4 : t < s := by omega
    have HF : Aside (Q = (2, v)) := by show Q = _; rw [HA.out, if_pos (fun hq => q4 hq.2.2.2.2)]
    clear HA
    go_enter Try.func13, Try.ntmps13
    go_wp2_with fail
    refine hs.mono ?_
    rintro e w' ⟨rfl, hw⟩
    subst w'
    go_wp2_with fail
    refine ht.mono ?_
    rintro e w' ⟨rfl, hw⟩
    subst w'
    go_wp2_with fail
    refine hr.mono ?_
    rintro e w' ⟨rfl, hw⟩
    subst w'
    go_wp2
    go_ret
    rw [HF.out]
    exact ⟨rfl, HH.out, Tn.refl _ _⟩
  have HA2 : Aside (Q = if f = false ∨ s ≤ v.r then (0, v) else (0, v.grow n t r)) := by
    show Q = _
    rw [HA.out, if_neg (not_not_intro ⟨q0, q1, q2, q3, q4⟩)]
  clear HA
  have n4 : ¬ t < s := by omega
  cases f with
  | false =>
    have HF : Aside (Q = (0, v)) := by show Q = _; rw [HA2.out, if_pos (.inl rfl)]
    clear HA2
    go_enter Try.func13, Try.ntmps13
    go_wp2_with fail
    refine hs.mono ?_
    rintro e w' ⟨rfl, hw⟩
    subst w'
    go_wp2_with fail
    refine ht.mono ?_
    rintro e w' ⟨rfl, hw⟩
    subst w'
    go_wp2_with fail
    refine hr.mono ?_
    rintro e w' ⟨rfl, hw⟩
    subst w'
    go_wp2
    go_ret
    rw [HF.out]
    exact ⟨rfl, HH.out, Tn.refl _ _⟩
  | true =>
    by_cases q5 : s ≤ v.r
    · have HF : Aside (Q = (0, v)) := by show Q = _; rw [HA2.out, if_pos (.inr q5)]
      clear HA2
      go_enter Try.func13, Try.ntmps13
      go_wp2_with fail
      refine hs.mono ?_
      rintro e w' ⟨rfl, hw⟩
      subst w'
      go_wp2_with fail
      refine ht.mono ?_
      rintro e w' ⟨rfl, hw⟩
      subst w'
      go_wp2_with fail
      refine hr.mono ?_
      rintro e w' ⟨rfl, hw⟩
      subst w'
      go_wp2
      go_ret
      rw [HF.out]
      exact ⟨rfl, HH.out, Tn.refl _ _⟩
    · have hq : Q = (0, v.grow n t r) := by rw [HA2.out, if_neg (by rintro (h | h) <;> simp_all)]
      rw [hq]
      exact rgrow_c b v n s t r w HH.out HO.out q0 q1 q2 q3 q4 q5
theorem Wv.lost1_reno (v : Wv) (h : v.ok) (hk : v.k = 0) : v.lost1 = { v with b := if v.b / 2 < 2 * v.z then 2 * v.z else v.b / 2 } := by
  have := h.b1
  have := h.z1
  simp only [Wv.lost1, if_pos hk, Wv.become, cl, Wv.mk.injEq, true_and, and_true]
  split <;> omega
theorem Wv.lost1_cub (v : Wv) (h : v.ok) (hk : ¬ v.k = 0) : v.lost1 = { v with p := if v.b < v.p then 17 * v.b / 20 else v.b, b := if 7 * v.b / 10 < 2 * v.z then 2 * v.z else 7 * v.b / 10, e := -1 } := by
  have := h.b1
  have := h.z1
  simp only [Wv.lost1, if_neg hk, Wv.leave, Wv.become, cl, Wv.mk.injEq, true_and, and_true]
  split <;> omega
set_option maxRecDepth 100000 in
set_option maxHeartbeats 1000000 in
theorem rlost_c (b : Nat) (v : Wv) (s t : Int) (w : World) (h : Rt 34 w b v) (ho : v.ok) : Calls Try.prog 15 #[.pointer (some ⟨b, 0, none⟩), .int .i64 s, .int .i64 t] w fun e w' => e = .returned (.int .i64 (v.lost s t).1) ∧ Rt 34 w' b (v.lost s t).2 ∧ Tn b w w' := by
  have hs := rtime_c s w
  have ht := rtime_c t w
  obtain ⟨c0, c1, c2, c3, c4, c5, c6, c7, c8⟩ := h.cells
  have HL : Aside (v.lost s t = if ¬ ((0 ≤ s ∧ s ≤ 1125899906842624) ∧ 0 ≤ t ∧ t ≤ 1125899906842624) then (2, v) else if s ≤ v.r then (0, v) else (0, { v.lost1 with r := t, s := v.lost1.b })) := rfl
  generalize v.lost s t = Q at *
  have HH : Aside (Rt 34 w b v) := h
  have HO : Aside v.ok := ho
  by_cases q1 : 0 ≤ s ∧ s ≤ 1125899906842624
  rotate_left
  · have HF : Aside (Q = (2, v)) := by show Q = _; rw [HL.out, if_pos (fun hq => q1 hq.1)]
    rw [decide_eq_false q1] at hs
    clear HL q1 ht h ho
    go_enter Try.func15, Try.ntmps15
    go_wp2_with fail
    refine hs.mono ?_
    rintro e w' ⟨rfl, hw⟩
    subst w'
    clear hs
    go_wp2
    go_ret
    rw [HF.out]
    exact ⟨rfl, HH.out, Tn.refl _ _⟩
  rw [decide_eq_true q1] at hs
  by_cases q2 : 0 ≤ t ∧ t ≤ 1125899906842624
  rotate_left
  · have HF : Aside (Q = (2, v)) := by show Q = _; rw [HL.out, if_pos (fun hq => q2 hq.2)]
    rw [decide_eq_false q2] at ht
    clear HL q1 q2 h ho
    go_enter Try.func15, Try.ntmps15
    go_wp2_with fail
    refine hs.mono ?_
    rintro e w' ⟨rfl, hw⟩
    subst w'
    go_wp2_with fail
    refine ht.mono ?_
    rintro e w' ⟨rfl, hw⟩
    subst w'
    clear hs ht
    go_wp2
    go_ret
    rw [HF.out]
    exact ⟨rfl, HH.out, Tn.refl _ _⟩
  rw [decide_eq_true q2] at ht
  have HL2 : Aside (Q = if s ≤ v.r then (0, v) else (0, { v.lost1 with r := t, s := v.lost1.b })) := by
    show Q = _
    rw [HL.out, if_neg (by intro hq; exact hq ⟨q1, q2⟩)]
  clear HL q1 q2
  by_cases q3 : s ≤ v.r
  · have HF : Aside (Q = (0, v)) := by show Q = _; rw [HL2.out, if_pos q3]
    clear HL2 h ho
    go_enter Try.func15, Try.ntmps15
    go_wp2_with fail
    refine hs.mono ?_
    rintro e w' ⟨rfl, hw⟩
    subst w'
    go_wp2_with fail
    refine ht.mono ?_
    rintro e w' ⟨rfl, hw⟩
    subst w'
    clear hs ht
    go_wp2
    go_ret
    rw [HF.out]
    exact ⟨rfl, HH.out, Tn.refl _ _⟩
  have HF : Aside (Q = (0, { v.lost1 with r := t, s := v.lost1.b })) := by show Q = _; rw [HL2.out, if_neg q3]
  obtain ⟨k0, z0, z1, b0, b1, s0, e0⟩ := ho
  have i1 : IntKind.i64.wrap (17 * v.b) = 17 * v.b := wrp _ (by omega) (by omega)
  have i2 : (17 * v.b).tdiv 20 = 17 * v.b / 20 := Int.tdiv_eq_ediv_of_nonneg (by omega)
  have i3 : IntKind.i64.wrap (17 * v.b / 20) = 17 * v.b / 20 := wrp _ (by omega) (by omega)
  have i4 : IntKind.i64.wrap (7 * v.b) = 7 * v.b := wrp _ (by omega) (by omega)
  have i5 : (7 * v.b).tdiv 10 = 7 * v.b / 10 := Int.tdiv_eq_ediv_of_nonneg (by omega)
  have i6 : IntKind.i64.wrap (7 * v.b / 10) = 7 * v.b / 10 := wrp _ (by omega) (by omega)
  have i7 : v.b.tdiv 2 = v.b / 2 := Int.tdiv_eq_ediv_of_nonneg (by omega)
  have i8 : IntKind.i64.wrap (v.b / 2) = v.b / 2 := wrp _ (by omega) (by omega)
  have i9 : IntKind.i64.wrap (2 * v.z) = 2 * v.z := wrp _ (by omega) (by omega)
  clear HL2 s0 e0
  have r4 := h.set 4 (.int .i64 t) { v with r := t } rfl
  have f4 := h.frozen 4
  have t4 := Tn.set h 4 (.int .i64 t)
  obtain ⟨W4, hW4⟩ : ∃ W4, w.setCell ⟨b, 4, none⟩ (.int .i64 t) = W4 := ⟨_, rfl⟩
  rw [hW4] at r4 t4
  obtain ⟨d0, d1, d2, d3, d4, d5, d6, d7, d8⟩ := r4.cells
  dsimp only at d0 d1 d2 d3 d4 d5 d6 d7 d8
  have f2 := r4.frozen 2
  have f5 := r4.frozen 5
  have HR4 : Aside (Rt 34 W4 b { v with r := t }) := r4
  have HT4 : Aside (Tn b w W4) := t4
  clear h r4 t4 c1 c2 c3 c5 c6 c7 c8
  go_enter Try.func15, Try.ntmps15
  go_wp2_with fail
  refine hs.mono ?_
  rintro e w' ⟨rfl, hw⟩
  subst w'
  go_wp2_with fail
  refine ht.mono ?_
  rintro e w' ⟨rfl, hw⟩
  subst w'
  clear hs ht
  go_upto_if 29 with fail
  go_cut [] from 7 (fun wx => ∃ V : Wv, Aside (Rt 34 wx b V ∧ Tn b w wx ∧ V.z = v.z ∧ { v.lost1 with r := t, s := v.lost1.b } = { V with b := if V.b < 2 * v.z then 2 * v.z else V.b, s := if V.b < 2 * v.z then 2 * v.z else V.b }))
  case first =>
    by_cases p1 : v.k = 0
    · have pb : (v.k == 0) = true := by simp [p1]
      go_wp2
      go_meet
      case rel =>
        refine ⟨{ v with r := t, b := v.b / 2 }, HR4.out.set 2 (.int .i64 (v.b / 2)) _ rfl, HT4.out.trans (Tn.set HR4.out 2 (.int .i64 (v.b / 2))), rfl, ?_⟩
        rw [v.lost1_reno HO.out p1]
    · have pb : (v.k == 0) = false := by simp [p1]
      by_cases p2 : v.b < v.p
      · go_wp2_with fail
        go_quiet (fail)
        have x2 : (W4.drewN nq).cell? ⟨b, 2, none⟩ = some (.int .i64 v.b) := d2
        have x5 : (W4.drewN nq).cell? ⟨b, 5, none⟩ = some (.int .i64 v.p) := d5
        have xf : (W4.drewN nq).frozen? ⟨b, 5, none⟩ = false := f5
        have r5 : Rt 34 (W4.drewN nq) b { v with r := t } := HR4.out.below (below_drewN (Below.refl _ _) _)
        have t5 : Tn b w (W4.drewN nq) := HT4.out.trans (Tn.below (below_drewN (Below.refl _ _) _))
        clear d0 d1 d2 d3 d4 d5 d6 d7 d8 f2 f5 hW4
        generalize W4.drewN nq = W5 at *
        have r6 := r5.set 5 (.int .i64 (17 * v.b / 20)) { v with r := t, p := 17 * v.b / 20 } rfl
        have t6 := t5.trans (Tn.set r5 5 (.int .i64 (17 * v.b / 20)))
        obtain ⟨W6, hW6⟩ : ∃ W6, W5.setCell ⟨b, 5, none⟩ (.int .i64 (17 * v.b / 20)) = W6 := ⟨_, rfl⟩
        rw [hW6] at r6 t6
        have y2 := r6.cells.2.2.1
        have y6 := r6.cells.2.2.2.2.2.2.1
        have yf2 := r6.frozen 2
        dsimp only at y2 y6
        have r7 := r6.set 2 (.int .i64 (7 * v.b / 10)) { v with r := t, p := 17 * v.b / 20, b := 7 * v.b / 10 } rfl
        have t7 := t6.trans (Tn.set r6 2 (.int .i64 (7 * v.b / 10)))
        obtain ⟨W7, hW7⟩ : ∃ W7, W6.setCell ⟨b, 2, none⟩ (.int .i64 (7 * v.b / 10)) = W7 := ⟨_, rfl⟩
        rw [hW7] at r7 t7
        have z6 := r7.cells.2.2.2.2.2.2.1
        have zf6 := r7.frozen 6
        dsimp only at z6
        have HR8 : Aside (Rt 34 (W7.setCell ⟨b, 6, none⟩ (.int .i64 (-1))) b { v with r := t, p := 17 * v.b / 20, b := 7 * v.b / 10, e := -1 }) := r7.set 6 (.int .i64 (-1)) _ rfl
        have HT8 : Aside (Tn b w (W7.setCell ⟨b, 6, none⟩ (.int .i64 (-1)))) := t7.trans (Tn.set r7 6 (.int .i64 (-1)))
        clear r5 t5 r6 t6 r7 t7
        go_wp2
        go_meet
        case rel =>
          refine ⟨{ v with r := t, p := 17 * v.b / 20, b := 7 * v.b / 10, e := -1 }, HR8.out, HT8.out, rfl, ?_⟩
          rw [v.lost1_cub HO.out p1, if_pos p2]
      · go_wp2_with fail
        go_quiet (fail)
        have x2 : (W4.drewN nq).cell? ⟨b, 2, none⟩ = some (.int .i64 v.b) := d2
        have x5 : (W4.drewN nq).cell? ⟨b, 5, none⟩ = some (.int .i64 v.p) := d5
        have xf : (W4.drewN nq).frozen? ⟨b, 5, none⟩ = false := f5
        have r5 : Rt 34 (W4.drewN nq) b { v with r := t } := HR4.out.below (below_drewN (Below.refl _ _) _)
        have t5 : Tn b w (W4.drewN nq) := HT4.out.trans (Tn.below (below_drewN (Below.refl _ _) _))
        clear d0 d1 d2 d3 d4 d5 d6 d7 d8 f2 f5 hW4
        generalize W4.drewN nq = W5 at *
        have r6 := r5.set 5 (.int .i64 v.b) { v with r := t, p := v.b } rfl
        have t6 := t5.trans (Tn.set r5 5 (.int .i64 v.b))
        obtain ⟨W6, hW6⟩ : ∃ W6, W5.setCell ⟨b, 5, none⟩ (.int .i64 v.b) = W6 := ⟨_, rfl⟩
        rw [hW6] at r6 t6
        have y2 := r6.cells.2.2.1
        have y6 := r6.cells.2.2.2.2.2.2.1
        have yf2 := r6.frozen 2
        dsimp only at y2 y6
        have r7 := r6.set 2 (.int .i64 (7 * v.b / 10)) { v with r := t, p := v.b, b := 7 * v.b / 10 } rfl
        have t7 := t6.trans (Tn.set r6 2 (.int .i64 (7 * v.b / 10)))
        obtain ⟨W7, hW7⟩ : ∃ W7, W6.setCell ⟨b, 2, none⟩ (.int .i64 (7 * v.b / 10)) = W7 := ⟨_, rfl⟩
        rw [hW7] at r7 t7
        have z6 := r7.cells.2.2.2.2.2.2.1
        have zf6 := r7.frozen 6
        dsimp only at z6
        have HR8 : Aside (Rt 34 (W7.setCell ⟨b, 6, none⟩ (.int .i64 (-1))) b { v with r := t, p := v.b, b := 7 * v.b / 10, e := -1 }) := r7.set 6 (.int .i64 (-1)) _ rfl
        have HT8 : Aside (Tn b w (W7.setCell ⟨b, 6, none⟩ (.int .i64 (-1)))) := t7.trans (Tn.set r7 6 (.int .i64 (-1)))
        clear r5 t5 r6 t6 r7 t7
        go_wp2
        go_meet
        case rel =>
          refine ⟨{ v with r := t, p := v.b, b := 7 * v.b / 10, e := -1 }, HR8.out, HT8.out, rfl, ?_⟩
          rw [v.lost1_cub HO.out p1, if_neg (show ¬ v.b < v.p by omega)]
  case rest =>
    obtain ⟨V, HC⟩ := hcut
    obtain ⟨hr1, ht1, hvz, hvl⟩ := HC.out
    rw [hvl] at HF
    clear hvl HC d0 d1 d2 d3 d4 d5 d6 d7 d8 f2 f4 f5 hW4 HR4 HT4 i1 i2 i3 i4 i5 i6 i7 i8 c0 c4
    have HR1 : Aside (Rt 34 wc b V) := hr1
    have HT1 : Aside (Tn b w wc) := ht1
    obtain ⟨d0, d1, d2, d3, d4, d5, d6, d7, d8⟩ := hr1.cells
    rw [hvz] at d1
    have f2 := hr1.frozen 2
    have f3 := hr1.frozen 3
    clear hr1 ht1 d0 d4 d5 d6 d7 d8
    by_cases q : V.b < 2 * v.z
    · rw [if_pos q] at HF
      go_wp2_with fail
      go_quiet (fail)
      have x1 : (wc.drewN nq).cell? ⟨b, 1, none⟩ = some (.int .i64 v.z) := d1
      have x2 : (wc.drewN nq).cell? ⟨b, 2, none⟩ = some (.int .i64 V.b) := d2
      have xf : (wc.drewN nq).frozen? ⟨b, 2, none⟩ = false := f2
      have r5 : Rt 34 (wc.drewN nq) b V := HR1.out.below (below_drewN (Below.refl _ _) _)
      have t5 : Tn b w (wc.drewN nq) := HT1.out.trans (Tn.below (below_drewN (Below.refl _ _) _))
      clear d1 d2 d3 f2 f3
      generalize wc.drewN nq = W5 at *
      have r6 := r5.set 2 (.int .i64 (2 * v.z)) { V with b := 2 * v.z } rfl
      have t6 := t5.trans (Tn.set r5 2 (.int .i64 (2 * v.z)))
      obtain ⟨W6, hW6⟩ : ∃ W6, W5.setCell ⟨b, 2, none⟩ (.int .i64 (2 * v.z)) = W6 := ⟨_, rfl⟩
      rw [hW6] at r6 t6
      have y2 := r6.cells.2.2.1
      have y3 := r6.cells.2.2.2.1
      have yf3 := r6.frozen 3
      dsimp only at y2 y3
      have HR8 : Aside (Rt 34 (W6.setCell ⟨b, 3, none⟩ (.int .i64 (2 * v.z))) b { V with b := 2 * v.z, s := 2 * v.z }) := r6.set 3 (.int .i64 (2 * v.z)) _ rfl
      have HT8 : Aside (Tn b w (W6.setCell ⟨b, 3, none⟩ (.int .i64 (2 * v.z)))) := t6.trans (Tn.set r6 3 (.int .i64 (2 * v.z)))
      clear r5 t5 r6 t6
      go_wp2
      go_ret
      rw [HF.out]
      exact ⟨rfl, HR8.out, HT8.out⟩
    · rw [if_neg q] at HF
      go_wp2_with fail
      go_quiet (fail)
      have x2 : (wc.drewN nq).cell? ⟨b, 2, none⟩ = some (.int .i64 V.b) := d2
      have x3 : (wc.drewN nq).cell? ⟨b, 3, none⟩ = some (.int .i64 V.s) := d3
      have xf : (wc.drewN nq).frozen? ⟨b, 3, none⟩ = false := f3
      have r5 : Rt 34 (wc.drewN nq) b V := HR1.out.below (below_drewN (Below.refl _ _) _)
      have t5 : Tn b w (wc.drewN nq) := HT1.out.trans (Tn.below (below_drewN (Below.refl _ _) _))
      clear d1 d2 d3 f2 f3
      generalize wc.drewN nq = W5 at *
      have HR8 : Aside (Rt 34 (W5.setCell ⟨b, 3, none⟩ (.int .i64 V.b)) b { V with s := V.b }) := r5.set 3 (.int .i64 V.b) _ rfl
      have HT8 : Aside (Tn b w (W5.setCell ⟨b, 3, none⟩ (.int .i64 V.b))) := t5.trans (Tn.set r5 3 (.int .i64 V.b))
      clear r5 t5
      go_wp2
      go_ret
      rw [HF.out]
      exact ⟨rfl, HR8.out, HT8.out⟩
end Go.Proofs.Ytphkgijimbkgeaa
