/- The reference's Read: its errors. The reference's Read: a body that is cut off; a kind that is none. -/
import Derived.Test.YtcchlicokglmnaaQh
namespace Go.Proofs.Ytcchlicokglmnaa
open Go.ChangeShapes Go.WideShapes Go.ChangeAt Go.RowKit Go.Lib
set_option linter.unusedVariables false

section
variable {w : World} {o : Option Addr} {L : List UInt8} {c : Nat} {a : Int}
theorem err_of {E : Int} {X : World} (hE : readE L a = E) (h0 : E ≠ 0) (hb : Below w.heap.size w X) : ReadR L a w (.returned (.tuple #[.agg (m0 0).cells.toArray, .int .i64 0, .int .i64 E])) X :=
  ⟨hb, fun _ => by rw [hE], fun h => absurd (hE.symm.trans h) h0⟩
theorem pre_d (hs : Sl w o L) (k0 : 0 ≤ a) (k1 : a + 4 ≤ (L.length : Int)) : ∃ A b off N0 N1 N2 N3 : Nat, a = (A : Int) ∧ o = some ⟨b, off, none⟩ ∧ A + 4 ≤ L.length ∧ getV L a 1 = (N0 : Int) ∧ cutE L a = (if (L.length : Int) - ((A : Int) + 4) < ((N1 * 65536 + N2 * 256 + N3 : Nat) : Int) then 10 else 0) ∧ N0 < 256 ∧ N1 < 256 ∧ N2 < 256 ∧ N3 < 256 ∧
    w.cell? ⟨b, off + A, none⟩ = some (.int .u8 (N0 : Int)) ∧ w.cell? ⟨b, off + A + 1, none⟩ = some (.int .u8 (N1 : Int)) ∧ w.cell? ⟨b, off + A + 2, none⟩ = some (.int .u8 (N2 : Int)) ∧ w.cell? ⟨b, off + A + 3, none⟩ = some (.int .u8 (N3 : Int)) := by
  obtain ⟨A, rfl⟩ := Int.eq_ofNat_of_zero_le k0
  have kl : A + 4 ≤ L.length := by omega
  have v3 : getV L ((A : Int) + 1) 3 = (num (sub L (A + 1) 3) : Nat) := by
    unfold getV
    rw [if_pos ⟨by omega, by omega⟩]
    rfl
  have v1 : getV L (A : Int) 1 = (num (sub L A 1) : Nat) := by
    unfold getV
    rw [if_pos ⟨by omega, by omega⟩]
    rfl
  have s3 : (sub L (A + 1) 3) = [L[A + 1], L[A + 2], L[A + 3]] := by
    unfold sub
    rw [List.drop_eq_getElem_cons (by omega), List.drop_eq_getElem_cons (by omega), List.drop_eq_getElem_cons (by omega)]
    rfl
  have s1 : (sub L A 1) = [L[A]] := by
    unfold sub
    rw [List.drop_eq_getElem_cons (by omega)]
    rfl
  rw [s3] at v3
  rw [s1] at v1
  rw [num_three _ rfl] at v3
  rw [num_one _ rfl] at v1
  replace v3 : getV L ((A : Int) + 1) 3 = ((L[A + 1].toNat * 65536 + L[A + 2].toNat * 256 + L[A + 3].toNat : Nat) : Int) := v3
  replace v1 : getV L (A : Int) 1 = (L[A].toNat : Int) := v1
  obtain ⟨b, off, ho, q0⟩ := hs A (by omega)
  obtain ⟨b1, off1, ho1, q1⟩ := hs (A + 1) (by omega)
  obtain ⟨b2, off2, ho2, q2⟩ := hs (A + 2) (by omega)
  obtain ⟨b3, off3, ho3, q3⟩ := hs (A + 3) (by omega)
  subst ho
  cases ho1
  cases ho2
  cases ho3
  refine ⟨A, b, off, L[A].toNat, L[A + 1].toNat, L[A + 2].toNat, L[A + 3].toNat, rfl, rfl, kl, v1, ?_, L[A].toNat_lt, L[A + 1].toNat_lt, L[A + 2].toNat_lt, L[A + 3].toNat_lt, q0, q1, q2, q3⟩
  have e1 : getE L (A : Int) 1 = 0 := by unfold getE; rw [if_neg (by omega), if_pos (by omega)]
  have e2 : getE L ((A : Int) + 1) 3 = 0 := by unfold getE; rw [if_neg (by omega), if_pos (by omega)]
  unfold cutE
  rw [if_neg (by simpa using e1), if_neg (by simpa using e2), v3]

set_option maxRecDepth 100000 in
set_option maxHeartbeats 1000000 in
theorem rread_arg (hE : readE L a = 2) (ha : a < 0 ∨ (L.length : Int) < a) : Calls Try.prog 14 #[.slice o L.length c, .int .i64 a] w (ReadR L a w) := by
  have HE : Hid (∀ X, Below w.heap.size w X → ReadR L a w (.returned (.tuple #[.agg (m0 0).cells.toArray, .int .i64 0, .int .i64 2])) X) := fun X hX => err_of hE (by decide) hX
  obtain ⟨T0, hT0⟩ : ∃ T, (m0 0).cells.toArray = T := ⟨_, rfl⟩
  have hz := rz34
  rw [hT0] at hz HE
  have hR : Hid _ := heap_alloc_new w (.cells T0 34)
  have hts : T0.size = 72 := by rw [← hT0]; rfl
  have hst : (storeCells ⟨w.heap.size, 0, none⟩ T0.toList).run Try.prog (w.alloc (.cells T0 34)) = .ok () ((w.alloc (.cells T0 34)).setRow w.heap.size T0) := by
    have := store34 hR.out hts
    rw [hT0] at this
    exact this
  have HRS : Hid _ := setRow_heap (w.alloc (.cells T0 34)) w.heap.size _ T0 34 (0, 0) hR.out
  have HF : Hid (ReadR L a w (.returned (.tuple #[.agg T0, .int .i64 0, .int .i64 2])) ((w.alloc (.cells T0 34)).setRow w.heap.size T0)) := HE.out ((w.alloc (.cells T0 34)).setRow w.heap.size T0) (below_setRow (bl1 w _) (Nat.le_refl _) _)
  obtain ⟨ll, hll⟩ : ∃ ll, L.length = ll := ⟨_, rfl⟩
  rw [hll] at ha ⊢
  clear hll hT0 hE HE
  generalize ReadR L a w = R at *
  by_cases h0 : a < 0
  · have h0' : decide (a < 0) = true := by simpa using h0
    clear ha
    go_enter Try.func14, Try.ntmps14
    go_wp2_with fail
    refine bodyPost_ret (results_rread (g := w.heap.size) _ rfl HRS.out hts) rfl ?_
    exact HF.out
  · have h1 : (ll : Int) < a := by omega
    have h0' : decide (a < 0) = false := by simpa using h0
    have h1' : decide ((ll : Int) < a) = true := by simpa using h1
    clear ha
    go_enter Try.func14, Try.ntmps14
    go_wp2_with fail
    refine bodyPost_ret (results_rread (g := w.heap.size) _ rfl HRS.out hts) rfl ?_
    exact HF.out

set_option maxRecDepth 100000 in
set_option maxHeartbeats 1000000 in
theorem rread_end (hE : readE L a = 10) (hc : L.length ≤ c) (hc63 : c ≤ 9223372036854775807) (h0 : 0 ≤ a) (h1 : a ≤ (L.length : Int)) (h2 : (L.length : Int) < a + 4) : Calls Try.prog 14 #[.slice o L.length c, .int .i64 a] w (ReadR L a w) := by
  have HE : Hid (∀ X, Below w.heap.size w X → ReadR L a w (.returned (.tuple #[.agg (m0 0).cells.toArray, .int .i64 0, .int .i64 10])) X) := fun X hX => err_of hE (by decide) hX
  obtain ⟨T0, hT0⟩ : ∃ T, (m0 0).cells.toArray = T := ⟨_, rfl⟩
  have hz := rz34
  rw [hT0] at hz HE
  have hR : Hid _ := heap_alloc_new w (.cells T0 34)
  have hts : T0.size = 72 := by rw [← hT0]; rfl
  have hst : (storeCells ⟨w.heap.size, 0, none⟩ T0.toList).run Try.prog (w.alloc (.cells T0 34)) = .ok () ((w.alloc (.cells T0 34)).setRow w.heap.size T0) := by
    have := store34 hR.out hts
    rw [hT0] at this
    exact this
  have HRS : Hid _ := setRow_heap (w.alloc (.cells T0 34)) w.heap.size _ T0 34 (0, 0) hR.out
  have HF : Hid (ReadR L a w (.returned (.tuple #[.agg T0, .int .i64 0, .int .i64 10])) ((w.alloc (.cells T0 34)).setRow w.heap.size T0)) := HE.out ((w.alloc (.cells T0 34)).setRow w.heap.size T0) (below_setRow (bl1 w _) (Nat.le_refl _) _)
  obtain ⟨ll, hll⟩ : ∃ ll, L.length = ll := ⟨_, rfl⟩
  rw [hll] at h1 h2 hc ⊢
  clear hll hT0 hE HE
  generalize ReadR L a w = R at *
  obtain ⟨A, rfl⟩ := Int.eq_ofNat_of_zero_le h0
  obtain ⟨o2, ho2⟩ : ∃ o2, (if c = A then o else o.map (·.add A)) = o2 := ⟨_, rfl⟩
  have g0 : ¬ (A : Int) < 0 := by omega
  have g1 : ¬ (ll : Int) < (A : Int) := by omega
  have g1' : decide ((ll : Int) < (A : Int)) = false := by simpa using g1
  have g0' : decide ((A : Int) < 0) = false := by simp
  have g3 : (A : Int) ≤ (ll : Int) := by omega
  have g4 : (ll : Int) ≤ (c : Int) := by omega
  have g5 : A ≤ ll := by omega
  have g6 : A ≤ c := by omega
  obtain ⟨la, hla⟩ : ∃ la, ll - A = la := ⟨_, rfl⟩
  have g7 : (la : Int) < 4 := by omega
  have g7' : decide ((la : Int) < 4) = true := by simpa using g7
  clear h1 h2
  go_enter Try.func14, Try.ntmps14
  go_wp2_with fail
  refine bodyPost_ret (results_rread (g := w.heap.size) _ rfl HRS.out hts) rfl ?_
  exact HF.out
end
end Go.Proofs.Ytcchlicokglmnaa
namespace Go.Proofs.Ytcchlicokglmnaa
open Go.ChangeShapes Go.WideShapes Go.ChangeAt Go.RowKit Go.Lib
set_option linter.unusedVariables false

section
variable {w : World} {o : Option Addr} {L : List UInt8} {c : Nat} {a : Int}

set_option maxRecDepth 100000 in
set_option maxHeartbeats 4000000 in
theorem rread_cut (hs : Sl w o L) (hL : L.length ≤ 9223372036854000000) (hc : L.length ≤ c) (hc63 : c ≤ 9223372036854775807) (k0 : 0 ≤ a) (k1 : a + 4 ≤ (L.length : Int)) (hE : cutE L a ≠ 0) : Calls Try.prog 14 #[.slice o L.length c, .int .i64 a] w (ReadR L a w) := by
  obtain ⟨A, b, off, N0, N1, N2, N3, rfl, rfl, fit, h0, hcut, l0, l1, l2, l3, c0, c1, c2, c3⟩ := pre_d hs k0 k1
  obtain ⟨n, hnn⟩ : ∃ n, N1 * 65536 + N2 * 256 + N3 = n := ⟨_, rfl⟩
  rw [hnn] at hcut
  have hfit : (L.length : Int) - ((A : Int) + 4) < (n : Int) := by
    by_cases hh : (L.length : Int) - ((A : Int) + 4) < (n : Int)
    · exact hh
    · rw [if_neg hh] at hcut; exact absurd hcut hE
  have hRE : readE L (A : Int) = 10 := by unfold readE; rw [if_pos hE, hcut, if_pos hfit]
  have HE : Hid (∀ X, Below w.heap.size w X → ReadR L (A : Int) w (.returned (.tuple #[.agg (m0 0).cells.toArray, .int .i64 0, .int .i64 10])) X) := fun X hX => err_of hRE (by decide) hX
  obtain ⟨T0, hT0⟩ : ∃ T, (m0 0).cells.toArray = T := ⟨_, rfl⟩
  have hz := rz34
  rw [hT0] at hz HE
  have HT0 : Hid _ := hT0
  have HRW : Hid _ := heap_alloc_new w (.cells T0 34)
  have HB1 : Hid (Below w.heap.size w (w.alloc (.cells T0 34))) := bl1 w _
  have HSZ1 : Hid ((w.alloc (.cells T0 34)).heap.size = w.heap.size + 1) := by show _ = _; simp
  clear hT0 hcut hE hRE h0
  have HBW0 : Hid _ := HB1.out
  have u0 := cell_bel HB1.out c0
  have u1 := cell_bel HB1.out c1
  have u2 := cell_bel HB1.out c2
  have u3 := cell_bel HB1.out c3
  clear c0 c1 c2 c3 hs
  obtain ⟨ll, hll⟩ : ∃ ll, L.length = ll := ⟨_, rfl⟩
  rw [hll] at fit hfit hc hL ⊢
  clear hll HB1
  have g0 : ¬ (A : Int) < 0 := by omega
  have g1 : ¬ (ll : Int) < (A : Int) := by omega
  have g1' : decide ((ll : Int) < (A : Int)) = false := by simpa using g1
  have g0' : decide ((A : Int) < 0) = false := by simp
  obtain ⟨la, hla⟩ : ∃ la, ll - A = la := ⟨_, rfl⟩
  obtain ⟨ca, hca⟩ : ∃ ca, c - A = ca := ⟨_, rfl⟩
  have lw : 4 ≤ la := by omega
  have lc : la ≤ ca := by omega
  have lc2 : ca ≤ 9223372036854775807 := by omega
  have lb : la ≤ 9223372036854000000 := by omega
  have g2 : ¬ (la : Int) < 4 := by omega
  have g2' : decide ((la : Int) < 4) = false := by simpa using g2
  have i1 : (1 : Int) < (la : Int) := by omega
  have i2 : (2 : Int) < (la : Int) := by omega
  have i3 : (3 : Int) < (la : Int) := by omega
  have i0 : (0 : Int) < (la : Int) := by omega
  have j0 : 0 < la := by omega
  have j1 : 1 < la := by omega
  have j2 : 2 < la := by omega
  have j3 : 3 < la := by omega
  have HAL : Hid (A + la = ll ∧ A + ca = c) := ⟨by omega, by omega⟩
  have ni : (N1 : Int) * 65536 + (N2 : Int) * 256 + (N3 : Int) = (n : Int) := by omega
  have ln16 : n < 16777216 := by omega
  go_enter Try.func14, Try.ntmps14
  go_wp2_with fail
  clear hla hca
  have HBD : Hid _ := bld (w.alloc (.cells T0 34))
  have HRW1 : Hid ((w.alloc (.cells T0 34)).drew.heap[w.heap.size]? = some (.cells T0 34 (0, 0))) := HRW.out
  have HSZ2 : Hid ((w.alloc (.cells T0 34)).drew.heap.size = w.heap.size + 1) := HSZ1.out
  have v0 : (w.alloc (.cells T0 34)).drew.cell? ⟨b, off + A, none⟩ = some (.int .u8 (N0 : Int)) := u0
  have HV : Hid ((w.alloc (.cells T0 34)).drew.cell? ⟨b, off + A + 1, none⟩ = some (.int .u8 (N1 : Int)) ∧ (w.alloc (.cells T0 34)).drew.cell? ⟨b, off + A + 2, none⟩ = some (.int .u8 (N2 : Int)) ∧ (w.alloc (.cells T0 34)).drew.cell? ⟨b, off + A + 3, none⟩ = some (.int .u8 (N3 : Int))) := ⟨u1, u2, u3⟩
  clear u0 u1 u2 u3 HSZ1 g0 g0' g1 g1'
  refine wp_region_held_drew (S := fun X => X.cell? ⟨b, off + A + 1, none⟩ = some (.int .u8 (N1 : Int)) ∧ X.cell? ⟨b, off + A + 2, none⟩ = some (.int .u8 (N2 : Int)) ∧ X.cell? ⟨b, off + A + 3, none⟩ = some (.int .u8 (N3 : Int))) (by kernel_rfl) HV.out (fun hHeld => ?_)
  clear HV
  generalize (w.alloc (.cells T0 34)).drew = X1 at *
  generalize w.alloc (.cells T0 34) = w1 at *
  refine wpAnyH_take (i := 0) (v := .slice (some ⟨b, off + A, none⟩) la ca) rfl (by kernel_rfl) (by kernel_rfl) (by kernel_rfl) (fun _ _ _ h => h) (Or.inl ⟨by rfl, by intro w hs; go_simp⟩) hHeld ?_
  refine norm_any' (fun K hK => ?_)
  go_simp
  refine hK _ _ ?_
  clear hK K
  refine wpAnyH_take (i := 1) (v := .pointer (some ⟨b, off + A + 1, none⟩)) rfl (by kernel_rfl) (by kernel_rfl) (by kernel_rfl) (fun _ _ _ h => h) (Or.inl ⟨by rfl, by intro w hs; go_simp⟩) hHeld ?_
  refine norm_any' (fun K hK => ?_)
  go_simp
  refine hK _ _ ?_
  clear hK K
  refine wpAnyH_take (i := 2) (v := .int .u8 (N1 : Int)) rfl (by kernel_rfl) (by kernel_rfl) (by kernel_rfl) (fun _ _ _ h => h) (Or.inl ⟨by rfl, by intro w hs; have q := hs.1; go_simp⟩) hHeld ?_
  refine norm_any' (fun K hK => ?_)
  go_simp
  refine hK _ _ ?_
  clear hK K
  refine wpAnyH_take (i := 3) (v := .int .i64 (N1 : Int)) rfl (by kernel_rfl) (by kernel_rfl) (by kernel_rfl) (fun _ _ _ h => h) (Or.inl ⟨by rfl, by intro w hs; go_simp; try (rw [IntKind.wrap_i64]; omega)⟩) hHeld ?_
  refine norm_any' (fun K hK => ?_)
  go_simp
  refine hK _ _ ?_
  clear hK K
  refine wpAnyH_take (i := 4) (v := .int .i64 ((N1 : Int) * 65536)) rfl (by kernel_rfl) (by kernel_rfl) (by kernel_rfl) (fun _ _ _ h => h) (Or.inl ⟨by rfl, by intro w hs; go_simp; try (rw [IntKind.wrap_i64]; omega)⟩) hHeld ?_
  refine norm_any' (fun K hK => ?_)
  go_simp
  refine hK _ _ ?_
  clear hK K
  refine wpAnyH_take (i := 5) (v := .slice (some ⟨b, off + A, none⟩) la ca) rfl (by kernel_rfl) (by kernel_rfl) (by kernel_rfl) (fun _ _ _ h => h) (Or.inl ⟨by rfl, by intro w hs; go_simp⟩) hHeld ?_
  refine norm_any' (fun K hK => ?_)
  go_simp
  refine hK _ _ ?_
  clear hK K
  refine wpAnyH_take (i := 6) (v := .pointer (some ⟨b, off + A + 2, none⟩)) rfl (by kernel_rfl) (by kernel_rfl) (by kernel_rfl) (fun _ _ _ h => h) (Or.inl ⟨by rfl, by intro w hs; go_simp⟩) hHeld ?_
  refine norm_any' (fun K hK => ?_)
  go_simp
  refine hK _ _ ?_
  clear hK K
  refine wpAnyH_take (i := 7) (v := .int .u8 (N2 : Int)) rfl (by kernel_rfl) (by kernel_rfl) (by kernel_rfl) (fun _ _ _ h => h) (Or.inl ⟨by rfl, by intro w hs; have q := hs.2.1; go_simp⟩) hHeld ?_
  refine norm_any' (fun K hK => ?_)
  go_simp
  refine hK _ _ ?_
  clear hK K
  refine wpAnyH_take (i := 8) (v := .int .i64 (N2 : Int)) rfl (by kernel_rfl) (by kernel_rfl) (by kernel_rfl) (fun _ _ _ h => h) (Or.inl ⟨by rfl, by intro w hs; go_simp; try (rw [IntKind.wrap_i64]; omega)⟩) hHeld ?_
  refine norm_any' (fun K hK => ?_)
  go_simp
  refine hK _ _ ?_
  clear hK K
  refine wpAnyH_take (i := 9) (v := .int .i64 ((N2 : Int) * 256)) rfl (by kernel_rfl) (by kernel_rfl) (by kernel_rfl) (fun _ _ _ h => h) (Or.inl ⟨by rfl, by intro w hs; go_simp; try (rw [IntKind.wrap_i64]; omega)⟩) hHeld ?_
  refine norm_any' (fun K hK => ?_)
  go_simp
  refine hK _ _ ?_
  clear hK K
  refine wpAnyH_take (i := 10) (v := .int .i64 ((N1 : Int) * 65536 + (N2 : Int) * 256)) rfl (by kernel_rfl) (by kernel_rfl) (by kernel_rfl) (fun _ _ _ h => h) (Or.inl ⟨by rfl, by intro w hs; go_simp; try (rw [IntKind.wrap_i64]; omega)⟩) hHeld ?_
  refine norm_any' (fun K hK => ?_)
  go_simp
  refine hK _ _ ?_
  clear hK K
  refine wpAnyH_take (i := 11) (v := .slice (some ⟨b, off + A, none⟩) la ca) rfl (by kernel_rfl) (by kernel_rfl) (by kernel_rfl) (fun _ _ _ h => h) (Or.inl ⟨by rfl, by intro w hs; go_simp⟩) hHeld ?_
  refine norm_any' (fun K hK => ?_)
  go_simp
  refine hK _ _ ?_
  clear hK K
  refine wpAnyH_take (i := 12) (v := .pointer (some ⟨b, off + A + 3, none⟩)) rfl (by kernel_rfl) (by kernel_rfl) (by kernel_rfl) (fun _ _ _ h => h) (Or.inl ⟨by rfl, by intro w hs; go_simp⟩) hHeld ?_
  refine norm_any' (fun K hK => ?_)
  go_simp
  refine hK _ _ ?_
  clear hK K
  refine wpAnyH_take (i := 13) (v := .int .u8 (N3 : Int)) rfl (by kernel_rfl) (by kernel_rfl) (by kernel_rfl) (fun _ _ _ h => h) (Or.inl ⟨by rfl, by intro w hs; have q := hs.2.2; go_simp⟩) hHeld ?_
  refine norm_any' (fun K hK => ?_)
  go_simp
  refine hK _ _ ?_
  clear hK K
  refine wpAnyH_take (i := 14) (v := .int .i64 (N3 : Int)) rfl (by kernel_rfl) (by kernel_rfl) (by kernel_rfl) (fun _ _ _ h => h) (Or.inl ⟨by rfl, by intro w hs; go_simp; try (rw [IntKind.wrap_i64]; omega)⟩) hHeld ?_
  refine norm_any' (fun K hK => ?_)
  go_simp
  refine hK _ _ ?_
  clear hK K
  refine wpAnyH_take (i := 15) (v := .int .i64 (n : Int)) rfl (by kernel_rfl) (by kernel_rfl) (by kernel_rfl) (fun _ _ _ h => h) (Or.inl ⟨by rfl, by intro w hs; go_simp; try (rw [IntKind.wrap_i64]; omega)⟩) hHeld ?_
  refine norm_any' (fun K hK => ?_)
  go_simp
  refine hK _ _ ?_
  clear hK K
  refine wpAnyH_take (i := 16) (v := .int .i64 (n : Int)) rfl (by kernel_rfl) (by kernel_rfl) (by kernel_rfl) (fun _ _ _ h => h) (Or.inl ⟨by rfl, by intro w hs; go_simp⟩) hHeld ?_
  refine norm_any' (fun K hK => ?_)
  go_simp
  refine hK _ _ ?_
  clear hK K
  refine wpAnyH_done (by kernel_rfl) ?_ _
  clear hHeld
  have s1 : wrap64 ((la : Int) - 4) = (la : Int) - 4 := by unfold wrap64; omega
  have s1' : IntKind.i64.wrap ((la : Int) - 4) = (la : Int) - 4 := by rw [IntKind.wrap_i64]; omega
  have hal := HAL.out.1
  have g3 : (la : Int) - 4 < (n : Int) := by omega
  have g3' : decide ((la : Int) - 4 < (n : Int)) = true := by simpa using g3
  have hts : T0.size = 72 := by rw [← HT0.out]; rfl
  have hst : (storeCells ⟨w.heap.size, 0, none⟩ T0.toList).run Try.prog X1 = .ok () (X1.setRow w.heap.size T0) := by
    have := store34 HRW1.out hts
    rw [HT0.out] at this
    exact this
  have HRS : Hid _ := setRow_heap X1 w.heap.size _ T0 34 (0, 0) HRW1.out
  have HF : Hid (ReadR L (A : Int) w (.returned (.tuple #[.agg T0, .int .i64 0, .int .i64 10])) (X1.setRow w.heap.size T0)) := HE.out _ (below_setRow (HBW0.out.trans (HBD.out.mono HBW0.out.size)) (Nat.le_refl _) _)
  clear HE hfit hal
  generalize ReadR L (A : Int) w = R at *
  refine mkHid ?_
  go_wp2_with fail
  refine bodyPost_ret (results_rread (g := w.heap.size) _ rfl HRS.out hts) rfl ?_
  exact HF.out

set_option maxRecDepth 100000 in
set_option maxHeartbeats 4000000 in
theorem rread_kind (hs : Sl w o L) (hL : L.length ≤ 9223372036854000000) (hc : L.length ≤ c) (hc63 : c ≤ 9223372036854775807) (k0 : 0 ≤ a) (k1 : a + 4 ≤ (L.length : Int)) (hE : cutE L a = 0) (hk : isK (getV L a 1) = false) : Calls Try.prog 14 #[.slice o L.length c, .int .i64 a] w (ReadR L a w) := by
  obtain ⟨A, b, off, N0, N1, N2, N3, rfl, rfl, fit, h0, hcut, l0, l1, l2, l3, c0, c1, c2, c3⟩ := pre_d hs k0 k1
  obtain ⟨n, hnn⟩ : ∃ n, N1 * 65536 + N2 * 256 + N3 = n := ⟨_, rfl⟩
  rw [hnn] at hcut
  have hfit : ¬ (L.length : Int) - ((A : Int) + 4) < (n : Int) := by
    intro hh
    rw [if_pos hh, hE] at hcut
    cases hcut
  have hRE : readE L (A : Int) = 12 := by unfold readE; rw [if_neg (by simpa using hE), if_pos hk]
  rw [h0] at hk
  have HE : Hid (∀ X, Below w.heap.size w X → ReadR L (A : Int) w (.returned (.tuple #[.agg (m0 0).cells.toArray, .int .i64 0, .int .i64 12])) X) := fun X hX => err_of hRE (by decide) hX
  obtain ⟨T0, hT0⟩ : ∃ T, (m0 0).cells.toArray = T := ⟨_, rfl⟩
  have hz := rz34
  rw [hT0] at hz HE
  have HT0 : Hid _ := hT0
  have HRW : Hid _ := heap_alloc_new w (.cells T0 34)
  have HB1 : Hid (Below w.heap.size w (w.alloc (.cells T0 34))) := bl1 w _
  have HSZ1 : Hid ((w.alloc (.cells T0 34)).heap.size = w.heap.size + 1) := by show _ = _; simp
  clear hT0 hcut hE hRE h0
  have HBW0 : Hid _ := HB1.out
  have u0 := cell_bel HB1.out c0
  have u1 := cell_bel HB1.out c1
  have u2 := cell_bel HB1.out c2
  have u3 := cell_bel HB1.out c3
  clear c0 c1 c2 c3 hs
  obtain ⟨ll, hll⟩ : ∃ ll, L.length = ll := ⟨_, rfl⟩
  rw [hll] at fit hfit hc hL ⊢
  clear hll HB1
  have g0 : ¬ (A : Int) < 0 := by omega
  have g1 : ¬ (ll : Int) < (A : Int) := by omega
  have g1' : decide ((ll : Int) < (A : Int)) = false := by simpa using g1
  have g0' : decide ((A : Int) < 0) = false := by simp
  obtain ⟨la, hla⟩ : ∃ la, ll - A = la := ⟨_, rfl⟩
  obtain ⟨ca, hca⟩ : ∃ ca, c - A = ca := ⟨_, rfl⟩
  have lw : 4 + n ≤ la := by omega
  have lc : la ≤ ca := by omega
  have lc2 : ca ≤ 9223372036854775807 := by omega
  have lb : la ≤ 9223372036854000000 := by omega
  have g2 : ¬ (la : Int) < 4 := by omega
  have g2' : decide ((la : Int) < 4) = false := by simpa using g2
  have i1 : (1 : Int) < (la : Int) := by omega
  have i2 : (2 : Int) < (la : Int) := by omega
  have i3 : (3 : Int) < (la : Int) := by omega
  have i0 : (0 : Int) < (la : Int) := by omega
  have j0 : 0 < la := by omega
  have j1 : 1 < la := by omega
  have j2 : 2 < la := by omega
  have j3 : 3 < la := by omega
  have HAL : Hid (A + la = ll ∧ A + ca = c) := ⟨by omega, by omega⟩
  have ni : (N1 : Int) * 65536 + (N2 : Int) * 256 + (N3 : Int) = (n : Int) := by omega
  have ln16 : n < 16777216 := by omega
  go_enter Try.func14, Try.ntmps14
  go_wp2_with fail
  clear hla hca
  have HBD : Hid _ := bld (w.alloc (.cells T0 34))
  have HRW1 : Hid ((w.alloc (.cells T0 34)).drew.heap[w.heap.size]? = some (.cells T0 34 (0, 0))) := HRW.out
  have HSZ2 : Hid ((w.alloc (.cells T0 34)).drew.heap.size = w.heap.size + 1) := HSZ1.out
  have v0 : (w.alloc (.cells T0 34)).drew.cell? ⟨b, off + A, none⟩ = some (.int .u8 (N0 : Int)) := u0
  have HV : Hid ((w.alloc (.cells T0 34)).drew.cell? ⟨b, off + A + 1, none⟩ = some (.int .u8 (N1 : Int)) ∧ (w.alloc (.cells T0 34)).drew.cell? ⟨b, off + A + 2, none⟩ = some (.int .u8 (N2 : Int)) ∧ (w.alloc (.cells T0 34)).drew.cell? ⟨b, off + A + 3, none⟩ = some (.int .u8 (N3 : Int))) := ⟨u1, u2, u3⟩
  clear u0 u1 u2 u3 HSZ1 g0 g0' g1 g1'
  refine wp_region_held_drew (S := fun X => X.cell? ⟨b, off + A + 1, none⟩ = some (.int .u8 (N1 : Int)) ∧ X.cell? ⟨b, off + A + 2, none⟩ = some (.int .u8 (N2 : Int)) ∧ X.cell? ⟨b, off + A + 3, none⟩ = some (.int .u8 (N3 : Int))) (by kernel_rfl) HV.out (fun hHeld => ?_)
  clear HV
  generalize (w.alloc (.cells T0 34)).drew = X1 at *
  generalize w.alloc (.cells T0 34) = w1 at *
  refine wpAnyH_take (i := 0) (v := .slice (some ⟨b, off + A, none⟩) la ca) rfl (by kernel_rfl) (by kernel_rfl) (by kernel_rfl) (fun _ _ _ h => h) (Or.inl ⟨by rfl, by intro w hs; go_simp⟩) hHeld ?_
  refine norm_any' (fun K hK => ?_)
  go_simp
  refine hK _ _ ?_
  clear hK K
  refine wpAnyH_take (i := 1) (v := .pointer (some ⟨b, off + A + 1, none⟩)) rfl (by kernel_rfl) (by kernel_rfl) (by kernel_rfl) (fun _ _ _ h => h) (Or.inl ⟨by rfl, by intro w hs; go_simp⟩) hHeld ?_
  refine norm_any' (fun K hK => ?_)
  go_simp
  refine hK _ _ ?_
  clear hK K
  refine wpAnyH_take (i := 2) (v := .int .u8 (N1 : Int)) rfl (by kernel_rfl) (by kernel_rfl) (by kernel_rfl) (fun _ _ _ h => h) (Or.inl ⟨by rfl, by intro w hs; have q := hs.1; go_simp⟩) hHeld ?_
  refine norm_any' (fun K hK => ?_)
  go_simp
  refine hK _ _ ?_
  clear hK K
  refine wpAnyH_take (i := 3) (v := .int .i64 (N1 : Int)) rfl (by kernel_rfl) (by kernel_rfl) (by kernel_rfl) (fun _ _ _ h => h) (Or.inl ⟨by rfl, by intro w hs; go_simp; try (rw [IntKind.wrap_i64]; omega)⟩) hHeld ?_
  refine norm_any' (fun K hK => ?_)
  go_simp
  refine hK _ _ ?_
  clear hK K
  refine wpAnyH_take (i := 4) (v := .int .i64 ((N1 : Int) * 65536)) rfl (by kernel_rfl) (by kernel_rfl) (by kernel_rfl) (fun _ _ _ h => h) (Or.inl ⟨by rfl, by intro w hs; go_simp; try (rw [IntKind.wrap_i64]; omega)⟩) hHeld ?_
  refine norm_any' (fun K hK => ?_)
  go_simp
  refine hK _ _ ?_
  clear hK K
  refine wpAnyH_take (i := 5) (v := .slice (some ⟨b, off + A, none⟩) la ca) rfl (by kernel_rfl) (by kernel_rfl) (by kernel_rfl) (fun _ _ _ h => h) (Or.inl ⟨by rfl, by intro w hs; go_simp⟩) hHeld ?_
  refine norm_any' (fun K hK => ?_)
  go_simp
  refine hK _ _ ?_
  clear hK K
  refine wpAnyH_take (i := 6) (v := .pointer (some ⟨b, off + A + 2, none⟩)) rfl (by kernel_rfl) (by kernel_rfl) (by kernel_rfl) (fun _ _ _ h => h) (Or.inl ⟨by rfl, by intro w hs; go_simp⟩) hHeld ?_
  refine norm_any' (fun K hK => ?_)
  go_simp
  refine hK _ _ ?_
  clear hK K
  refine wpAnyH_take (i := 7) (v := .int .u8 (N2 : Int)) rfl (by kernel_rfl) (by kernel_rfl) (by kernel_rfl) (fun _ _ _ h => h) (Or.inl ⟨by rfl, by intro w hs; have q := hs.2.1; go_simp⟩) hHeld ?_
  refine norm_any' (fun K hK => ?_)
  go_simp
  refine hK _ _ ?_
  clear hK K
  refine wpAnyH_take (i := 8) (v := .int .i64 (N2 : Int)) rfl (by kernel_rfl) (by kernel_rfl) (by kernel_rfl) (fun _ _ _ h => h) (Or.inl ⟨by rfl, by intro w hs; go_simp; try (rw [IntKind.wrap_i64]; omega)⟩) hHeld ?_
  refine norm_any' (fun K hK => ?_)
  go_simp
  refine hK _ _ ?_
  clear hK K
  refine wpAnyH_take (i := 9) (v := .int .i64 ((N2 : Int) * 256)) rfl (by kernel_rfl) (by kernel_rfl) (by kernel_rfl) (fun _ _ _ h => h) (Or.inl ⟨by rfl, by intro w hs; go_simp; try (rw [IntKind.wrap_i64]; omega)⟩) hHeld ?_
  refine norm_any' (fun K hK => ?_)
  go_simp
  refine hK _ _ ?_
  clear hK K
  refine wpAnyH_take (i := 10) (v := .int .i64 ((N1 : Int) * 65536 + (N2 : Int) * 256)) rfl (by kernel_rfl) (by kernel_rfl) (by kernel_rfl) (fun _ _ _ h => h) (Or.inl ⟨by rfl, by intro w hs; go_simp; try (rw [IntKind.wrap_i64]; omega)⟩) hHeld ?_
  refine norm_any' (fun K hK => ?_)
  go_simp
  refine hK _ _ ?_
  clear hK K
  refine wpAnyH_take (i := 11) (v := .slice (some ⟨b, off + A, none⟩) la ca) rfl (by kernel_rfl) (by kernel_rfl) (by kernel_rfl) (fun _ _ _ h => h) (Or.inl ⟨by rfl, by intro w hs; go_simp⟩) hHeld ?_
  refine norm_any' (fun K hK => ?_)
  go_simp
  refine hK _ _ ?_
  clear hK K
  refine wpAnyH_take (i := 12) (v := .pointer (some ⟨b, off + A + 3, none⟩)) rfl (by kernel_rfl) (by kernel_rfl) (by kernel_rfl) (fun _ _ _ h => h) (Or.inl ⟨by rfl, by intro w hs; go_simp⟩) hHeld ?_
  refine norm_any' (fun K hK => ?_)
  go_simp
  refine hK _ _ ?_
  clear hK K
  refine wpAnyH_take (i := 13) (v := .int .u8 (N3 : Int)) rfl (by kernel_rfl) (by kernel_rfl) (by kernel_rfl) (fun _ _ _ h => h) (Or.inl ⟨by rfl, by intro w hs; have q := hs.2.2; go_simp⟩) hHeld ?_
  refine norm_any' (fun K hK => ?_)
  go_simp
  refine hK _ _ ?_
  clear hK K
  refine wpAnyH_take (i := 14) (v := .int .i64 (N3 : Int)) rfl (by kernel_rfl) (by kernel_rfl) (by kernel_rfl) (fun _ _ _ h => h) (Or.inl ⟨by rfl, by intro w hs; go_simp; try (rw [IntKind.wrap_i64]; omega)⟩) hHeld ?_
  refine norm_any' (fun K hK => ?_)
  go_simp
  refine hK _ _ ?_
  clear hK K
  refine wpAnyH_take (i := 15) (v := .int .i64 (n : Int)) rfl (by kernel_rfl) (by kernel_rfl) (by kernel_rfl) (fun _ _ _ h => h) (Or.inl ⟨by rfl, by intro w hs; go_simp; try (rw [IntKind.wrap_i64]; omega)⟩) hHeld ?_
  refine norm_any' (fun K hK => ?_)
  go_simp
  refine hK _ _ ?_
  clear hK K
  refine wpAnyH_take (i := 16) (v := .int .i64 (n : Int)) rfl (by kernel_rfl) (by kernel_rfl) (by kernel_rfl) (fun _ _ _ h => h) (Or.inl ⟨by rfl, by intro w hs; go_simp⟩) hHeld ?_
  refine norm_any' (fun K hK => ?_)
  go_simp
  refine hK _ _ ?_
  clear hK K
  refine wpAnyH_done (by kernel_rfl) ?_ _
  clear hHeld
  have s1 : wrap64 ((la : Int) - 4) = (la : Int) - 4 := by unfold wrap64; omega
  have s1' : IntKind.i64.wrap ((la : Int) - 4) = (la : Int) - 4 := by rw [IntKind.wrap_i64]; omega
  have wN : IntKind.i64.wrap (N0 : Int) = (N0 : Int) := by rw [IntKind.wrap_i64]; omega
  have g3 : ¬ (la : Int) - 4 < (n : Int) := by omega
  have g3' : decide ((la : Int) - 4 < (n : Int)) = false := by simpa using g3
  have hts : T0.size = 72 := by rw [← HT0.out]; rfl
  have hRX : Hid _ := heap_alloc_new X1 (.cells T0 34)
  refine mkHid ?_
  go_wp2_with (refine wb34 rfl (.tmp 55) rfl (.int .i64 (N0 : Int)) (.agg (m0 (N0 : Int)).cells.toArray) (by kernel_rfl) (bd34k (N0 : Int)) (Hid.out ?_))
  refine mkHid ?_
  go_wp2_with (first
    | (refine wpList_store_row rfl 34 (.tmp 8) (.tmp 56) rfl X1.heap.size (m0 (N0 : Int)).cells.toArray (by kernel_rfl) (by kernel_rfl) 34 T0 hRX.out (ri34.trans rfl) (by rw [hts]; rfl) (cells_one' _) (Hid.out ?_)))
  refine mkHid ?_
  have hc2 : ((X1.alloc (.cells T0 34)).setRow X1.heap.size (m0 (N0 : Int)).cells.toArray).cell? ⟨X1.heap.size, 0, none⟩ = some (.int .i64 (N0 : Int)) := cell0 (setRow_heap _ _ _ (m0 (N0 : Int)).cells.toArray 34 (0, 0) hRX.out)
  have hsz3 : ((X1.alloc (.cells T0 34)).setRow X1.heap.size (m0 (N0 : Int)).cells.toArray).heap.size = X1.heap.size + 1 := by simp [World.setRow]
  have HKN : Hid (∀ X, Calls Try.prog 19 #[.int .i64 (N0 : Int)] X fun e w' => e = .returned (.bool false) ∧ w' = X) := fun X => by
    have := known_c (N0 : Int) X
    rw [hk] at this
    exact this
  have HB2 : Hid (Below w.heap.size w ((X1.alloc (.cells T0 34)).setRow X1.heap.size (m0 (N0 : Int)).cells.toArray)) := below_setRow ((HBW0.out.trans (HBD.out.mono HBW0.out.size)).trans ((bl1 X1 _).mono (by have := HSZ2.out; omega))) (by have := HSZ2.out; omega) _
  have HR2 : Hid (((X1.alloc (.cells T0 34)).setRow X1.heap.size (m0 (N0 : Int)).cells.toArray).heap[w.heap.size]? = some (.cells T0 34 (0, 0))) := by
    show _ = _
    rw [setRow_other _ _ _ _ (by have := HSZ2.out; omega), (bl1 X1 _).block _ (by have := HSZ2.out; omega)]
    exact HRW1.out
  have hts2 : T0.size = 72 := hts
  generalize (X1.alloc (.cells T0 34)).setRow X1.heap.size (m0 (N0 : Int)).cells.toArray = X2 at *
  have hst : (storeCells ⟨w.heap.size, 0, none⟩ T0.toList).run Try.prog X2 = .ok () (X2.setRow w.heap.size T0) := by
    have := store34 HR2.out hts
    rw [HT0.out] at this
    exact this
  have HRS : Hid _ := setRow_heap X2 w.heap.size _ T0 34 (0, 0) HR2.out
  have HF : Hid (ReadR L (A : Int) w (.returned (.tuple #[.agg T0, .int .i64 0, .int .i64 12])) (X2.setRow w.heap.size T0)) := HE.out _ (below_setRow HB2.out (Nat.le_refl _) _)
  clear HE hfit hk
  generalize ReadR L (A : Int) w = R at *
  clear hRX ni hnn i0 i1 i2 i3 j0 j1 j2 j3 g2 g2' g3 g3' s1 s1' l0 l1 l2 l3 v0
  as_aux_lemma =>
  go_wp2_with fail
  refine Calls.mono (HKN.out X2) ?_
  rintro e X2' ⟨rfl, rfl⟩
  go_wp2_with fail
  refine bodyPost_ret (results_rread (g := w.heap.size) _ rfl HRS.out hts2) rfl ?_
  exact HF.out
end
end Go.Proofs.Ytcchlicokglmnaa
