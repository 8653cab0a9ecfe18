/- slices.Replace over spans: the other roads. -/
import Derived.Test.YtlobnlkpbenngaaRRep
namespace Go.Proofs.YtlobnlkpbenngaaR
open Go.RowKit Go.Shelf Go.Lib
set_option linter.unusedVariables false

set_option maxHeartbeats 4000000 in
set_option maxRecDepth 100000 in
theorem replace_tail_full (g c vc m n i : Nat) (vo : Option Addr) (L1 D M : List (Int × Int)) (R : List Value) (w : World) (h1 : L1.length = i) (hL : i + D.length = n) (h2 : 0 < D.length) (hM : M.length = m)
    (hA : At w g (fl L1 ++ fl D ++ R)) (hR : R.length + n * 2 = c * 2) (hcm : c ≤ maxLen) (hv : Sv w (some ⟨g, 0, none⟩) vo M) (hroom : n ≤ i + m) (hfit : i + m ≤ c) (hsm : n + m ≤ 70000) :
    Calls Try.prog 64 #[.slice (some ⟨g, 0, none⟩) n c, .int .i64 i, .int .i64 n, .slice vo m vc] w (Out w (some ⟨g, 0, none⟩) (L1 ++ M)) := by
  have hz2 : ¬ ((i : Int) = (n : Int)) := by omega
  have hin : i ≤ n := by omega
  have hnc : n ≤ c := by omega
  have hb4 : ¬ (c = i) := by omega
  have hz3 : ¬ ((i : Int) + (m : Int) < (n : Int)) := by omega
  have hs := src2v w _ vo m vc M hv hM
  have hrun : ∀ ty, (Builtin.append_ #[47, 47] ty #[.slice (some ⟨g, 0, none⟩) i c, .slice vo m vc]).run Try.prog w = _ := fun ty => run_append2_room w ty g i c _ _ m M hA hs (by omega) (by simp; omega) hM
  have e1 := over_eq (X := fl L1 ++ fl D ++ R) (P := fl L1) (Q := (fl D ++ R).take (m * 2)) (S := (fl D ++ R).drop (m * 2)) (M := fl M) (o := i * 2) (by simp only [List.append_assoc]; rw [List.take_append_drop]) (by simp [h1]) (by simp [hM]; omega)
  rw [e1] at hrun
  have hO : Out w (some ⟨g, 0, none⟩) (L1 ++ M) (.returned (.slice (some ⟨g, 0, none⟩) (i + m) c)) (w.setRow g (fl L1 ++ fl M ++ (fl D ++ R).drop (m * 2)).toArray) := by
    refine ⟨_, c, by rw [List.length_append, h1, hM], .inr ⟨g, (fl D ++ R).drop (m * 2), rfl, ?_, by simp; omega⟩, hcm, (Chg.refl _ w).set g _ (.inl rfl), .inl rfl⟩
    rw [fl_append]
    exact hA.set _
  generalize w.setRow g (fl L1 ++ fl M ++ (fl D ++ R).drop (m * 2)).toArray = W1 at hrun hO
  clear e1
  go_enter Try.func64, Try.ntmps64
  go_wp2_with (at_builtin; refine Lib.wpList_append_run _ rfl _ _ _ _ rfl _ _ rfl rfl _ _ (hrun _) ?_)
  all_goals (go_ret; exact hO)

set_option maxHeartbeats 4000000 in
set_option maxRecDepth 100000 in
theorem replace_tail_grow (g c vc m n i : Nat) (vo : Option Addr) (L1 D M : List (Int × Int)) (R : List Value) (w : World) (h1 : L1.length = i) (hL : i + D.length = n) (h2 : 0 < D.length) (hM : M.length = m)
    (hA : At w g (fl L1 ++ fl D ++ R)) (hR : R.length + n * 2 = c * 2) (hv : Sv w (some ⟨g, 0, none⟩) vo M) (hfit : c < i + m) (hsm : n + m ≤ 70000) :
    Calls Try.prog 64 #[.slice (some ⟨g, 0, none⟩) n c, .int .i64 i, .int .i64 n, .slice vo m vc] w (Out w (some ⟨g, 0, none⟩) (L1 ++ M)) := by
  have hz2 : ¬ ((i : Int) = (n : Int)) := by omega
  have hin : i ≤ n := by omega
  have hnc : n ≤ c := by omega
  have hb4 : ¬ (c = i) := by omega
  have hz3 : ¬ ((i : Int) + (m : Int) < (n : Int)) := by omega
  have hs := src2v w _ vo m vc M hv hM
  obtain ⟨c', hc', hrun0, hmax⟩ := run_append2_grow w 47 (some ⟨g, 0, none⟩) i c L1 M _ m h1 hM (.inr ⟨g, fl D ++ R, rfl, by rw [← List.append_assoc]; exact hA⟩) hs hfit (by omega)
  have hrun : ∀ ty, (Builtin.append_ #[47, 47] ty #[.slice (some ⟨g, 0, none⟩) i c, .slice vo m vc]).run Try.prog w = _ := fun ty => hrun0
  have hO : Out w (some ⟨g, 0, none⟩) (L1 ++ M) (.returned (.slice (some ⟨w.heap.size, 0, none⟩) (i + m) c')) (w.drew.alloc (.cells (fl L1 ++ fl M ++ zs (c' - (i + m))).toArray 53)) := by
    refine ⟨_, c', by rw [List.length_append, h1, hM], .inr ⟨w.heap.size, zs (c' - (i + m)), rfl, ?_, by simp; omega⟩, hmax, ((Chg.refl _ w).drew).alloc _, .inr ⟨_, rfl, Nat.le_refl _⟩⟩
    rw [fl_append]
    exact at_alloc w.drew _
  generalize w.drew.alloc (.cells (fl L1 ++ fl M ++ zs (c' - (i + m))).toArray 53) = W1 at hrun hO
  clear hrun0
  go_enter Try.func64, Try.ntmps64
  go_wp2_with (at_builtin; refine Lib.wpList_append_run _ rfl _ _ _ _ rfl _ _ rfl rfl _ _ (hrun _) ?_)
  all_goals (go_ret; exact hO)

set_option maxHeartbeats 4000000 in
set_option maxRecDepth 100000 in
theorem replace_mid_in (g c vc m n i j : Nat) (vo : Option Addr) (L1 D L2 M : List (Int × Int)) (R : List Value) (w : World) (h1 : L1.length = i) (hj : i + D.length = j) (hL : j + L2.length = n) (hD : 0 < D.length) (h2 : 0 < L2.length) (hM : M.length = m)
    (hA : At w g (fl L1 ++ fl D ++ fl L2 ++ R)) (hR : R.length + n * 2 = c * 2) (hcm : c ≤ maxLen) (hv : Sv w (some ⟨g, 0, none⟩) vo M) (hroom : i + m ≤ j) (hsm : n + m ≤ 70000) :
    Calls Try.prog 64 #[.slice (some ⟨g, 0, none⟩) n c, .int .i64 i, .int .i64 j, .slice vo m vc] w (Out w (some ⟨g, 0, none⟩) (L1 ++ M ++ L2)) := by
  obtain ⟨T, hT⟩ : ∃ T, T = i + m + (n - j) := ⟨_, rfl⟩
  have hz2 : ¬ ((i : Int) = (j : Int)) := by omega
  have hz3 : ¬ ((j : Int) = (n : Int)) := by omega
  have hin : i ≤ n := by omega
  have hjn : j ≤ n := by omega
  have hij : i ≤ j := by omega
  have hnc : n ≤ c := by omega
  have hic : i ≤ c := by omega
  have hb4 : ¬ (c = i) := by omega
  have hb5 : ¬ (c = j) := by omega
  have hb6 : ¬ (c = i + m) := by omega
  have hTn : T ≤ n := by omega
  have hTc : T ≤ c := by omega
  have hw1 : IntKind.i64.wrap ((i : Int) + (m : Int)) = (i : Int) + (m : Int) := by rw [IntKind.wrap_i64]; omega
  have hw2 : IntKind.i64.wrap ((i : Int) + (m : Int) + ((n - j : Nat) : Int)) = (T : Int) := by rw [IntKind.wrap_i64]; omega
  have hw3 : ¬ ((c : Int) < (T : Int)) := by omega
  have hw4 : (i : Int) + (m : Int) ≤ (j : Int) := by omega
  have hb1 : (0 : Int) ≤ (i : Int) + (m : Int) := by omega
  have hb2 : (i : Int) + (m : Int) ≤ (T : Int) := by omega
  have htn : ((i : Int) + (m : Int)).toNat = i + m := by omega
  have hiT : i ≤ T := by omega
  have hA0 : At w.drew g (fl L1 ++ fl D ++ fl L2 ++ R) := hA
  have hv0 : Sv w.drew (some ⟨g, 0, none⟩) vo M := hv
  -- copy(r[i:], v)
  have hcp1 : ∀ ty dc, (Builtin.copy_ #[47, 47] ty #[.slice (some ⟨g, i * 2, none⟩) (T - i) dc, .slice vo m vc]).run Try.prog w.drew = _ := fun ty dc =>
    run_copy2v w.drew ty g (i * 2) (T - i) dc m vc _ vo _ M hA0 hv0 hM (by omega) (by simp; omega)
  have e1 := over_eq (X := fl L1 ++ fl D ++ fl L2 ++ R) (P := fl L1) (Q := (fl D).take (m * 2)) (S := (fl D).drop (m * 2) ++ fl L2 ++ R) (M := fl M) (o := i * 2)
    (by conv => lhs; rw [← List.take_append_drop (m * 2) (fl D)]
        simp only [List.append_assoc]) (by simp [h1]) (by simp [hM]; omega)
  rw [e1] at hcp1
  have hA1 : At (w.drew.setRow g (fl L1 ++ fl M ++ ((fl D).drop (m * 2) ++ fl L2 ++ R)).toArray) g _ := hA0.set _
  have hC1 : Chg (fun k => some (⟨g, 0, none⟩ : Addr) = some ⟨k, 0, none⟩) w (w.drew.setRow g (fl L1 ++ fl M ++ ((fl D).drop (m * 2) ++ fl L2 ++ R)).toArray) := ((Chg.refl _ w).drew).set g _ (.inl rfl)
  generalize w.drew.setRow g (fl L1 ++ fl M ++ ((fl D).drop (m * 2) ++ fl L2 ++ R)).toArray = W1 at hcp1 hA1 hC1
  -- copy(r[i+m:], s[j:])
  obtain ⟨E, hE⟩ : ∃ E, (fl D).drop (m * 2) = E := ⟨_, rfl⟩
  have hEl : E.length = (j - i - m) * 2 := by rw [← hE]; simp; omega
  rw [hE] at hA1
  have hA1' : At W1.drew g (fl L1 ++ fl M ++ (E ++ fl L2 ++ R)) := hA1
  have hA1'' : At W1.drew g ((fl L1 ++ fl M ++ E) ++ fl L2 ++ R) := by simpa only [List.append_assoc] using hA1'
  have hcp2 : ∀ ty dc sc, (Builtin.copy_ #[47, 47] ty #[.slice (some ⟨g, (i + m) * 2, none⟩) (T - (i + m)) dc, .slice (some ⟨g, j * 2, none⟩) (n - j) sc]).run Try.prog W1.drew = _ := fun ty dc sc =>
    run_copy2 W1.drew ty g ((i + m) * 2) (T - (i + m)) dc ⟨g, j * 2, none⟩ (n - j) sc _ L2 hA1' (by simp only [Nat.min_def]; split <;> omega) (At.src hA1'' (by simp [h1, hM, hEl]; omega)) (by simp [hEl]; omega)
  obtain ⟨U, hU⟩ : ∃ U, U = (E ++ fl L2 ++ R).drop (L2.length * 2) := ⟨_, rfl⟩
  have hUl : U.length + T * 2 = c * 2 := by rw [hU]; simp [hEl]; omega
  have e2 := over_eq (X := fl L1 ++ fl M ++ (E ++ fl L2 ++ R)) (P := fl L1 ++ fl M) (Q := (E ++ fl L2 ++ R).take (L2.length * 2)) (S := U) (M := fl L2) (o := (i + m) * 2)
    (by rw [hU, List.append_assoc (fl L1 ++ fl M), List.take_append_drop]) (by simp [h1, hM]; omega) (by simp [hEl]; omega)
  rw [e2] at hcp2
  have hA2 : At (W1.drew.setRow g (fl L1 ++ fl M ++ fl L2 ++ U).toArray) g _ := hA1'.set _
  have hC2 : Chg (fun k => some (⟨g, 0, none⟩ : Addr) = some ⟨k, 0, none⟩) w (W1.drew.setRow g (fl L1 ++ fl M ++ fl L2 ++ U).toArray) := (hC1.drew).set g _ (.inl rfl)
  generalize W1.drew.setRow g (fl L1 ++ fl M ++ fl L2 ++ U).toArray = W2 at hcp2 hA2 hC2
  -- clear(s[tot:])
  have hO : ∀ W3, (W3 = W2 ∨ W3 = W2.setRow g (fl L1 ++ fl M ++ fl L2 ++ (zs (n - T) ++ U.drop ((n - T) * 2))).toArray) → Out w (some ⟨g, 0, none⟩) (L1 ++ M ++ L2) (.returned (.slice (some ⟨g, 0, none⟩) T c)) W3 := by
    rintro W3 (rfl | rfl)
    · refine ⟨_, c, by simp only [List.length_append, h1, hM]; congr 2; omega, .inr ⟨g, U, rfl, ?_, by simp; omega⟩, hcm, hC2, .inl rfl⟩
      rw [fl_append, fl_append]
      exact hA2
    · refine ⟨_, c, by simp only [List.length_append, h1, hM]; congr 2; omega, .inr ⟨g, zs (n - T) ++ U.drop ((n - T) * 2), rfl, ?_, by simp; omega⟩, hcm, hC2.set g _ (.inl rfl), .inl rfl⟩
      rw [fl_append, fl_append]
      exact hA2.set _
  have mixed : Try.prog.follows Departure.mixedOrders = true := by kernel_rfl
  by_cases hTT : T < n
  · have hb7 : ¬ (c = T) := by omega
    have hclr : ∀ ty cc, (Builtin.clear_ #[47] ty #[.slice (some ⟨g, T * 2, none⟩) (n - T) cc]).run Try.prog W2 = _ := fun ty cc => run_clear2 W2 ty g (T * 2) (n - T) cc _ hA2 (by simp; omega)
    have e3 := over_eq (X := fl L1 ++ fl M ++ fl L2 ++ U) (P := fl L1 ++ fl M ++ fl L2) (Q := U.take ((n - T) * 2)) (S := U.drop ((n - T) * 2)) (M := zs (n - T)) (o := T * 2)
      (by rw [List.append_assoc (fl L1 ++ fl M ++ fl L2), List.take_append_drop]) (by simp [h1, hM]; omega) (by simp; omega)
    rw [e3, List.append_assoc (fl L1 ++ fl M ++ fl L2)] at hclr
    have hO2 := hO _ (.inr rfl)
    generalize W2.setRow g (fl L1 ++ fl M ++ fl L2 ++ (zs (n - T) ++ U.drop ((n - T) * 2))).toArray = W3 at hclr hO2
    clear e1 e2 e3 hO hT
    go_enter Try.func64, Try.ntmps64
    go_wp2
    go_region
    go_wp2_with (at_builtin; refine wpList_copy_runI _ rfl _ _ 47 47 rfl _ _ rfl rfl (hcp1 _ _) ?_)
    go_region_law_o (refine step_copy_runI rfl _ _ 47 47 rfl _ _ (by simp [Act.eval, Act.put]) (by simp [Act.eval, Act.put]) (hcp2 _ _ _) ?_)
    go_wp2_with (at_builtin; refine wpList_clear_run _ rfl _ 47 rfl _ rfl (hclr _ _) ?_)
    all_goals (go_ret; exact hO2)
  · obtain rfl : T = n := by omega
    have hO2 := hO _ (.inl rfl)
    rw [List.append_assoc] at hO2
    clear e1 e2 hO hT
    rw [List.append_assoc L1 M L2]
    by_cases hcT : c = T
    · subst hcT
      go_enter Try.func64, Try.ntmps64
      go_wp2
      go_region
      go_wp2_with (at_builtin; refine wpList_copy_runI _ rfl _ _ 47 47 rfl _ _ rfl rfl (hcp1 _ _) ?_)
      go_region_law_o (refine step_copy_runI rfl _ _ 47 47 rfl _ _ (by simp [Act.eval, Act.put]) (by simp [Act.eval, Act.put]) (hcp2 _ _ _) ?_)
      go_wp2_with (simp only [run_clear2_none])
      go_ret
      exact hO2
    · go_enter Try.func64, Try.ntmps64
      go_wp2
      go_region
      go_wp2_with (at_builtin; refine wpList_copy_runI _ rfl _ _ 47 47 rfl _ _ rfl rfl (hcp1 _ _) ?_)
      go_region_law_o (refine step_copy_runI rfl _ _ 47 47 rfl _ _ (by simp [Act.eval, Act.put]) (by simp [Act.eval, Act.put]) (hcp2 _ _ _) ?_)
      go_wp2_with (simp only [run_clear2_none])
      go_ret
      exact hO2

set_option maxHeartbeats 4000000 in
set_option maxRecDepth 100000 in
theorem replace_mid_grow (g c vc m n i j : Nat) (vo : Option Addr) (L1 D L2 M : List (Int × Int)) (R : List Value) (w : World) (h1 : L1.length = i) (hj : i + D.length = j) (hL : j + L2.length = n) (hD : 0 < D.length) (h2 : 0 < L2.length) (hM : M.length = m)
    (hA : At w g (fl L1 ++ fl D ++ fl L2 ++ R)) (hR : R.length + n * 2 = c * 2) (hv : Sv w (some ⟨g, 0, none⟩) vo M) (hroom : c < i + m + (n - j)) (hsm : n + m ≤ 70000) :
    Calls Try.prog 64 #[.slice (some ⟨g, 0, none⟩) n c, .int .i64 i, .int .i64 j, .slice vo m vc] w (Out w (some ⟨g, 0, none⟩) (L1 ++ M ++ L2)) := by
  obtain ⟨T, hT⟩ : ∃ T, T = i + m + (n - j) := ⟨_, rfl⟩
  have hz2 : ¬ ((i : Int) = (j : Int)) := by omega
  have hz3 : ¬ ((j : Int) = (n : Int)) := by omega
  have hin : i ≤ n := by omega
  have hjn : j ≤ n := by omega
  have hij : i ≤ j := by omega
  have hnc : n ≤ c := by omega
  have hic : i ≤ c := by omega
  have hb4 : ¬ (c = i) := by omega
  have hb5 : ¬ (c = j) := by omega
  have hw1 : IntKind.i64.wrap ((i : Int) + (m : Int)) = (i : Int) + (m : Int) := by rw [IntKind.wrap_i64]; omega
  have hw2 : IntKind.i64.wrap ((i : Int) + (m : Int) + ((n - j : Nat) : Int)) = (T : Int) := by rw [IntKind.wrap_i64]; omega
  have hw3 : (c : Int) < (T : Int) := by omega
  have hw4 : IntKind.i64.wrap ((T : Int) - (i : Int)) = ((T - i : Nat) : Int) := by rw [IntKind.wrap_i64]; omega
  have hb1 : (0 : Int) ≤ (i : Int) + (m : Int) := by omega
  have hb2 : (i : Int) + (m : Int) ≤ (T : Int) := by omega
  have htn : ((i : Int) + (m : Int)).toNat = i + m := by omega
  have hiT : i ≤ T := by omega
  have hA0 : At w.drew g (fl L1 ++ fl D ++ fl L2 ++ R) := hA
  have hv0 : Sv w.drew (some ⟨g, 0, none⟩) vo M := hv
  obtain ⟨c', hc', hrun0, hmax⟩ := run_append2_zeros w.drew 47 (some ⟨g, 0, none⟩) i c (T - i) L1 h1 (.inr ⟨g, fl D ++ fl L2 ++ R, rfl, by simpa only [List.append_assoc] using hA0⟩) (by omega) (by omega) (by omega)
  rw [show i + (T - i) = T by omega] at hc' hrun0
  have hrun : ∀ ty, (Builtin.append_ #[47, 3] ty #[.slice (some ⟨g, 0, none⟩) i c, .int .i64 (T - i : Nat)]).run Try.prog w.drew = _ := fun ty => hrun0
  have hb6 : ¬ (c' = i + m) := by omega
  have hb7 : ¬ (c' = i) := by omega
  obtain ⟨N, hN⟩ : ∃ N, w.drew.heap.size = N := ⟨_, rfl⟩
  have hNw : w.heap.size = N := hN
  have hgl := hA.lt
  have hA1 : At (w.drew.drew.alloc (.cells (fl L1 ++ zs (T - i) ++ zs (c' - T)).toArray 53)) N (fl L1 ++ zs (T - i) ++ zs (c' - T)) := hNw ▸ at_alloc w.drew.drew _
  have hg1 : At (w.drew.drew.alloc (.cells (fl L1 ++ zs (T - i) ++ zs (c' - T)).toArray 53)) g (fl L1 ++ fl D ++ fl L2 ++ R) := At.alloc (w := w.drew.drew) hA _
  have hv1 : Sv (w.drew.drew.alloc (.cells (fl L1 ++ zs (T - i) ++ zs (c' - T)).toArray 53)) (some ⟨g, 0, none⟩) vo M := by
    rcases hv with h | ⟨V, Y, ho, hV, hne⟩
    · exact .inl h
    · exact .inr ⟨V, Y, ho, At.alloc (w := w.drew.drew) hV _, hne⟩
  have hC1 : Chg (fun k => some (⟨g, 0, none⟩ : Addr) = some ⟨k, 0, none⟩) w (w.drew.drew.alloc (.cells (fl L1 ++ zs (T - i) ++ zs (c' - T)).toArray 53)) := ((Chg.refl _ w).drew.drew).alloc _
  have hVN : ∀ V, vo = some ⟨V, 0, none⟩ → V ≠ N := by
    rintro V rfl
    rcases hv with ⟨h, _⟩ | ⟨V', Y, ho, hV, hne⟩
    · cases h
    · obtain rfl : V = V' := by simpa using ho
      have := hV.lt; omega
  rw [hN] at hrun
  generalize w.drew.drew.alloc (.cells (fl L1 ++ zs (T - i) ++ zs (c' - T)).toArray 53) = W1 at hrun hA1 hg1 hv1 hC1
  clear hrun0
  have hcp1 : ∀ ty dc, (Builtin.copy_ #[47, 47] ty #[.slice (some ⟨N, i * 2, none⟩) (T - i) dc, .slice vo m vc]).run Try.prog W1 = _ := fun ty dc =>
    run_copy2v W1 ty N (i * 2) (T - i) dc m vc _ vo _ M hA1 hv1 hM (by omega) (by simp; omega)
  have e1 := over_eq (X := fl L1 ++ zs (T - i) ++ zs (c' - T)) (P := fl L1) (Q := (zs (T - i)).take (m * 2)) (S := (zs (T - i)).drop (m * 2) ++ zs (c' - T)) (M := fl M) (o := i * 2)
    (by conv => lhs; rw [← List.take_append_drop (m * 2) (zs (T - i))]
        simp only [List.append_assoc]) (by simp [h1]) (by simp [hM]; omega)
  rw [e1] at hcp1
  have hA2 : At (W1.setRow N (fl L1 ++ fl M ++ ((zs (T - i)).drop (m * 2) ++ zs (c' - T))).toArray) N _ := hA1.set _
  have hg2 : At (W1.setRow N (fl L1 ++ fl M ++ ((zs (T - i)).drop (m * 2) ++ zs (c' - T))).toArray) g (fl L1 ++ fl D ++ fl L2 ++ R) := hg1.other _ (by omega)
  have hC2 : Chg (fun k => some (⟨g, 0, none⟩ : Addr) = some ⟨k, 0, none⟩) w (W1.setRow N (fl L1 ++ fl M ++ ((zs (T - i)).drop (m * 2) ++ zs (c' - T))).toArray) := hC1.set N _ (.inr (by omega))
  generalize W1.setRow N (fl L1 ++ fl M ++ ((zs (T - i)).drop (m * 2) ++ zs (c' - T))).toArray = W2 at hcp1 hA2 hg2 hC2
  have hA2' : At W2.drew N (fl L1 ++ fl M ++ ((zs (T - i)).drop (m * 2) ++ zs (c' - T))) := hA2
  have hg2' : At W2.drew g ((fl L1 ++ fl D) ++ fl L2 ++ R) := hg2
  have hcp2 : ∀ ty dc sc, (Builtin.copy_ #[47, 47] ty #[.slice (some ⟨N, (i + m) * 2, none⟩) (T - (i + m)) dc, .slice (some ⟨g, j * 2, none⟩) (n - j) sc]).run Try.prog W2.drew = _ := fun ty dc sc =>
    run_copy2 W2.drew ty N ((i + m) * 2) (T - (i + m)) dc ⟨g, j * 2, none⟩ (n - j) sc _ L2 hA2' (by simp only [Nat.min_def]; split <;> omega) (At.src hg2' (by simp [h1]; omega)) (by simp; omega)
  have e2 := over_eq (X := fl L1 ++ fl M ++ ((zs (T - i)).drop (m * 2) ++ zs (c' - T))) (P := fl L1 ++ fl M) (Q := (zs (T - i)).drop (m * 2)) (S := zs (c' - T)) (M := fl L2) (o := (i + m) * 2)
    (by rw [← List.append_assoc]) (by simp [h1, hM]; omega) (by simp; omega)
  rw [e2] at hcp2
  have hO : Out w (some ⟨g, 0, none⟩) (L1 ++ M ++ L2) (.returned (.slice (some ⟨N, 0, none⟩) T c')) (W2.drew.setRow N (fl L1 ++ fl M ++ fl L2 ++ zs (c' - T)).toArray) := by
    refine ⟨_, c', by simp only [List.length_append, h1, hM]; congr 2; omega, .inr ⟨N, zs (c' - T), rfl, ?_, by simp; omega⟩, hmax, (hC2.drew).set N _ (.inr (by omega)), .inr ⟨N, rfl, by omega⟩⟩
    rw [fl_append, fl_append]
    exact hA2'.set _
  generalize W2.drew.setRow N (fl L1 ++ fl M ++ fl L2 ++ zs (c' - T)).toArray = W3 at hcp2 hO
  have mixed : Try.prog.follows Departure.mixedOrders = true := by kernel_rfl
  clear e1 e2 hT
  go_enter Try.func64, Try.ntmps64
  go_wp2
  go_region
  go_wp2_with (at_builtin; first
    | refine Lib.wpList_append_run _ rfl _ _ _ _ rfl _ _ rfl rfl _ _ (hrun _) ?_
    | refine wpList_copy_runI _ rfl _ _ 47 47 rfl _ _ rfl rfl (hcp1 _ _) ?_)
  go_region_law_o (refine step_copy_runI rfl _ _ 47 47 rfl _ _ (by simp [Act.eval, Act.put]) (by simp [Act.eval, Act.put]) (hcp2 _ _ _) ?_)
  go_wp2
  all_goals (go_ret; exact hO)

set_option maxHeartbeats 4000000 in
set_option maxRecDepth 100000 in
theorem replace_mid_more (g c V vc m n i j : Nat) (L1 D L2 M : List (Int × Int)) (R Y : List Value) (w : World) (h1 : L1.length = i) (hj : i + D.length = j) (hL : j + L2.length = n) (hD : 0 < D.length) (h2 : 0 < L2.length) (hM : M.length = m)
    (hA : At w g (fl L1 ++ fl D ++ fl L2 ++ R)) (hR : R.length + n * 2 = c * 2) (hcm : c ≤ maxLen) (hv : At w V (fl M ++ Y)) (hV : V ≠ g) (hroom : j < i + m) (hfit : i + m + (n - j) ≤ c) (hsm : n + m ≤ 70000) :
    Calls Try.prog 64 #[.slice (some ⟨g, 0, none⟩) n c, .int .i64 i, .int .i64 j, .slice (some ⟨V, 0, none⟩) m vc] w (Out w (some ⟨g, 0, none⟩) (L1 ++ M ++ L2)) := by
  obtain ⟨T, hT⟩ : ∃ T, T = i + m + (n - j) := ⟨_, rfl⟩
  have hz2 : ¬ ((i : Int) = (j : Int)) := by omega
  have hz3 : ¬ ((j : Int) = (n : Int)) := by omega
  have hin : i ≤ n := by omega
  have hjn : j ≤ n := by omega
  have hij : i ≤ j := by omega
  have hnc : n ≤ c := by omega
  have hic : i ≤ c := by omega
  have hb4 : ¬ (c = i) := by omega
  have hb5 : ¬ (c = j) := by omega
  have hb6 : ¬ (c = i + m) := by omega
  have hTc : T ≤ c := by omega
  have hw1 : IntKind.i64.wrap ((i : Int) + (m : Int)) = (i : Int) + (m : Int) := by rw [IntKind.wrap_i64]; omega
  have hw2 : IntKind.i64.wrap ((i : Int) + (m : Int) + ((n - j : Nat) : Int)) = (T : Int) := by rw [IntKind.wrap_i64]; omega
  have hw3 : ¬ ((c : Int) < (T : Int)) := by omega
  have hw4 : ¬ ((i : Int) + (m : Int) ≤ (j : Int)) := by omega
  have hb1 : (0 : Int) ≤ (i : Int) + (m : Int) := by omega
  have hb2 : (i : Int) + (m : Int) ≤ (T : Int) := by omega
  have htn : ((i : Int) + (m : Int)).toNat = i + m := by omega
  have hiT : i ≤ T := by omega
  have hA0 : At w.drew g (fl L1 ++ fl D ++ fl L2 ++ R) := hA
  have hv0 : At w.drew V (fl M ++ Y) := hv
  have hov := fun la ca ao => overlaps_no w.drew g V la ca m vc ao 0 _ _ hV.symm hA0 hv0 (by simp; omega)
  have hA0' : At w.drew.drew g ((fl L1 ++ fl D) ++ fl L2 ++ R) := hA
  -- copy(r[i+m:], s[j:])
  have hcp1 : ∀ ty dc sc, (Builtin.copy_ #[47, 47] ty #[.slice (some ⟨g, (i + m) * 2, none⟩) (T - (i + m)) dc, .slice (some ⟨g, j * 2, none⟩) (n - j) sc]).run Try.prog w.drew.drew = _ := fun ty dc sc =>
    run_copy2 w.drew.drew ty g ((i + m) * 2) (T - (i + m)) dc ⟨g, j * 2, none⟩ (n - j) sc _ L2 hA0' (by simp only [Nat.min_def]; split <;> omega) (At.src hA0' (by simp [h1]; omega)) (by simp; omega)
  obtain ⟨K, hK⟩ : ∃ K, K = (fl D ++ fl L2 ++ R).take (m * 2) := ⟨_, rfl⟩
  have hKl : K.length = m * 2 := by rw [hK]; simp; omega
  obtain ⟨U, hU⟩ : ∃ U, U = ((fl D ++ fl L2 ++ R).drop (m * 2)).drop (L2.length * 2) := ⟨_, rfl⟩
  have hUl : U.length + T * 2 = c * 2 := by rw [hU]; simp; omega
  obtain ⟨Qv, hQ⟩ : ∃ Qv, Qv = ((fl D ++ fl L2 ++ R).drop (m * 2)).take (L2.length * 2) := ⟨_, rfl⟩
  have hQl : Qv.length = L2.length * 2 := by rw [hQ]; simp; omega
  have e0 : fl D ++ fl L2 ++ R = K ++ (Qv ++ U) := by rw [hU, hK, hQ, List.take_append_drop, List.take_append_drop]
  have e1 := over_eq (X := (fl L1 ++ fl D) ++ fl L2 ++ R) (P := fl L1 ++ K) (Q := Qv) (S := U) (M := fl L2) (o := (i + m) * 2)
    (by
      rw [show fl L1 ++ fl D ++ fl L2 ++ R = fl L1 ++ (fl D ++ fl L2 ++ R) by simp only [List.append_assoc], e0]
      simp only [List.append_assoc]) (by simp [h1, hKl]; omega) (by simp [hQl])
  rw [e1] at hcp1
  have hA1 : At (w.drew.drew.setRow g (fl L1 ++ K ++ fl L2 ++ U).toArray) g _ := hA0'.set _
  have hv1 : At (w.drew.drew.setRow g (fl L1 ++ K ++ fl L2 ++ U).toArray) V (fl M ++ Y) := At.other (w := w.drew.drew) hv _ hV
  have hC1 : Chg (fun k => some (⟨g, 0, none⟩ : Addr) = some ⟨k, 0, none⟩) w (w.drew.drew.setRow g (fl L1 ++ K ++ fl L2 ++ U).toArray) := ((Chg.refl _ w).drew.drew).set g _ (.inl rfl)
  generalize w.drew.drew.setRow g (fl L1 ++ K ++ fl L2 ++ U).toArray = W1 at hcp1 hA1 hv1 hC1
  have hcp2 : ∀ ty dc, (Builtin.copy_ #[47, 47] ty #[.slice (some ⟨g, i * 2, none⟩) (T - i) dc, .slice (some ⟨V, 0, none⟩) m vc]).run Try.prog W1 = _ := fun ty dc =>
    run_copy2 W1 ty g (i * 2) (T - i) dc ⟨V, 0, none⟩ m vc _ M hA1 (by simp only [Nat.min_def]; split <;> omega) (At.src (A := []) hv1 rfl) (by simp [hKl]; omega)
  have e2 := over_eq (X := fl L1 ++ K ++ fl L2 ++ U) (P := fl L1) (Q := K) (S := fl L2 ++ U) (M := fl M) (o := i * 2) (by simp only [List.append_assoc]) (by simp [h1]) (by simp [hKl, hM])
  rw [e2] at hcp2
  have hO : Out w (some ⟨g, 0, none⟩) (L1 ++ M ++ L2) (.returned (.slice (some ⟨g, 0, none⟩) T c)) (W1.setRow g (fl L1 ++ fl M ++ (fl L2 ++ U)).toArray) := by
    refine ⟨_, c, by simp only [List.length_append, h1, hM]; congr 2; omega, .inr ⟨g, U, rfl, ?_, by simp; omega⟩, hcm, hC1.set g _ (.inl rfl), .inl rfl⟩
    rw [fl_append, fl_append, List.append_assoc (fl L1 ++ fl M)]
    exact hA1.set _
  generalize W1.setRow g (fl L1 ++ fl M ++ (fl L2 ++ U)).toArray = W2 at hcp2 hO
  have mixed : Try.prog.follows Departure.mixedOrders = true := by kernel_rfl
  clear e0 e1 e2 hT hK hU hQ
  go_enter Try.func64, Try.ntmps64
  go_wp2
  go_region
  go_wp2_with (simp only [hov])
  go_region_law_o (refine step_copy_runI rfl _ _ 47 47 rfl _ _ (by simp [Act.eval, Act.put]) (by simp [Act.eval, Act.put]) (hcp1 _ _ _) ?_)
  go_wp2_with (at_builtin; refine wpList_copy_runI _ rfl _ _ 47 47 rfl _ _ rfl rfl (hcp2 _ _) ?_)
  all_goals (go_ret; exact hO)

end Go.Proofs.YtlobnlkpbenngaaR
