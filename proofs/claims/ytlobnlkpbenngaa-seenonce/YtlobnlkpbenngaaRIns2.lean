/- slices.Insert over spans, within them. -/
import Derived.Test.YtlobnlkpbenngaaRIns
namespace Go.Proofs.YtlobnlkpbenngaaR
open Go.RowKit Go.Shelf Go.Lib
set_option linter.unusedVariables false

set_option maxRecDepth 100000 in
theorem shape_at {w : World} {g : Nat} {X : List Value} (h : At w g X) : w.shape? g = some (53, X.length) := by simp [World.shape?, h]

set_option maxRecDepth 100000 in
theorem overlaps_no (w : World) (a b la ca lb cb ao bo : Nat) (X Y : List Value) (hne : a ≠ b) (ha : At w a X) (hb : At w b Y) (hY : Y.length ≠ 0) :
    (callFunc 75 #[.slice (some ⟨a, ao, none⟩) la ca, .slice (some ⟨b, bo, none⟩) lb cb]).run Try.prog w = .ok (.value (.bool false)) w := by
  rw [run_callFunc_extern Try.func75 (by kernel_rfl) (by kernel_rfl) (by kernel_rfl) (e := Extern.SlicesOverlaps.overlaps #[47, 47] #[4]) (by kernel_rfl),
    Lib.run_overlaps_apart w 47 4 53 Try.underlying47 2 Try.sizeOf53 ⟨a, ao, none⟩ ⟨b, bo, none⟩ la ca lb cb hne 53 53 X.length Y.length (shape_at ha) (shape_at hb) hY (ha.frozen _) (ha.frozen _)]
  rfl

set_option maxHeartbeats 4000000 in
set_option maxRecDepth 100000 in
theorem insert_shift (g c V vc m n i : Nat) (L1 L2 M : List (Int × Int)) (R Y : List Value) (w : World) (h1 : L1.length = i) (hL : i + L2.length = n) (h2 : 0 < L2.length) (hM : M.length = m) (hm : 0 < m)
    (hA : At w g (fl L1 ++ fl L2 ++ R)) (hR : R.length + n * 2 = c * 2) (hcm : c ≤ maxLen) (hv : At w V (fl M ++ Y)) (hV : V ≠ g) (hroom : n + m ≤ c) (hsm : n + m ≤ 70000) :
    Calls Try.prog 74 #[.slice (some ⟨g, 0, none⟩) n c, .int .i64 i, .slice (some ⟨V, 0, none⟩) m vc] w (Out w (some ⟨g, 0, none⟩) (L1 ++ M ++ L2)) := by
  have hz1 : ¬ ((m : Int) = 0) := by omega
  have hz2 : ¬ ((i : Int) = (n : Int)) := by omega
  have hov := fun lb cb bo => overlaps_no w V g m vc lb cb 0 bo _ _ hV hv hA (by simp; omega)
  have hw1 : IntKind.i64.wrap ((i : Int) + (m : Int)) = (i : Int) + (m : Int) := by rw [IntKind.wrap_i64]; omega
  have hw2 : IntKind.i64.wrap ((n : Int) + (m : Int)) = (n : Int) + (m : Int) := by rw [IntKind.wrap_i64]; omega
  have hb1 : (0 : Int) ≤ (i : Int) + (m : Int) := by omega
  have hin : i ≤ n := by omega
  have htn : ((i : Int) + (m : Int)).toNat = i + m := by omega
  have htn2 : ((n : Int) + (m : Int)).toNat = n + m := by omega
  have hb2 : ¬ (c = i + m) := by omega
  have hb3 : (i : Int) ≤ (n : Int) + (m : Int) := by omega
  have hb4 : ¬ (c = i) := by omega
  obtain ⟨Z, hZ⟩ : ∃ Z, Z = (fl L2 ++ R).take (m * 2) := ⟨_, rfl⟩
  have hZl : Z.length = m * 2 := by rw [hZ]; simp; omega
  obtain ⟨U, hU⟩ : ∃ U, U = ((fl L2 ++ R).drop (m * 2)).take (L2.length * 2) := ⟨_, rfl⟩
  have hUl : U.length = (fl L2).length := by rw [hU]; simp; omega
  have hX : fl L1 ++ fl L2 ++ R = (fl L1 ++ Z) ++ U ++ R.drop (m * 2) := by
    have e1 : ((fl L2 ++ R).drop (m * 2)).drop (L2.length * 2) = R.drop (m * 2) := by
      rw [List.drop_drop, List.drop_append, List.drop_eq_nil_of_le (by simp), List.nil_append, fl_length, Nat.add_sub_cancel]
    rw [hZ, hU, ← e1]
    simp only [List.append_assoc]
    rw [List.take_append_drop, List.take_append_drop]
  have hA' : At w.drew g (fl L1 ++ fl L2 ++ R) := hA
  have hcp1 : ∀ ty dc sc, (Builtin.copy_ #[47, 47] ty #[.slice (some ⟨g, (i + m) * 2, none⟩) (n + m - (i + m)) dc, .slice (some ⟨g, i * 2, none⟩) (n + m - i) sc]).run Try.prog w.drew = _ := fun ty dc sc =>
    run_copy2 w.drew ty g ((i + m) * 2) (n + m - (i + m)) dc ⟨g, i * 2, none⟩ (n + m - i) sc _ L2 hA' (by simp only [Nat.min_def]; split <;> omega) (At.src hA' (by simp [h1])) (by simp; omega)
  have e1 := over_eq (M := fl L2) (o := (i + m) * 2) hX (by simp [hZl]; omega) hUl
  rw [e1] at hcp1
  have hA1 : At (w.drew.setRow g (fl L1 ++ Z ++ fl L2 ++ R.drop (m * 2)).toArray) g _ := hA'.set _
  have hv1 : At (w.drew.setRow g (fl L1 ++ Z ++ fl L2 ++ R.drop (m * 2)).toArray) V (fl M ++ Y) := At.other (w := w.drew) hv _ hV
  have hC1 : Chg (fun k => some (⟨g, 0, none⟩ : Addr) = some ⟨k, 0, none⟩) w (w.drew.setRow g (fl L1 ++ Z ++ fl L2 ++ R.drop (m * 2)).toArray) := ((Chg.refl _ w).drew).set g _ (.inl rfl)
  generalize w.drew.setRow g (fl L1 ++ Z ++ fl L2 ++ R.drop (m * 2)).toArray = W1 at hcp1 hA1 hv1 hC1
  have hcp2 : ∀ ty dc, (Builtin.copy_ #[47, 47] ty #[.slice (some ⟨g, i * 2, none⟩) (n + m - i) dc, .slice (some ⟨V, 0, none⟩) m vc]).run Try.prog W1 = _ := fun ty dc =>
    run_copy2 W1 ty g (i * 2) (n + m - i) dc ⟨V, 0, none⟩ m vc _ M hA1 (by simp only [Nat.min_def]; split <;> omega) (At.src (A := []) hv1 rfl) (by simp; omega)
  have e2 := over_eq (X := fl L1 ++ Z ++ fl L2 ++ R.drop (m * 2)) (P := fl L1) (Q := Z) (S := fl L2 ++ R.drop (m * 2)) (M := fl M) (o := i * 2) (by simp) (by simp [h1]) (by simp [hZl, hM])
  rw [e2] at hcp2
  have hO : Out w (some ⟨g, 0, none⟩) (L1 ++ M ++ L2) (.returned (.slice (some ⟨g, 0, none⟩) (n + m) c)) (W1.setRow g (fl L1 ++ fl M ++ (fl L2 ++ R.drop (m * 2))).toArray) := by
    refine ⟨_, c, by simp only [List.length_append, h1, hM]; congr 2; omega, .inr ⟨g, R.drop (m * 2), rfl, ?_, by simp; omega⟩, hcm, hC1.set g _ (.inl rfl), .inl rfl⟩
    rw [fl_append, fl_append, List.append_assoc (fl L1 ++ fl M)]
    exact hA1.set _
  generalize W1.setRow g (fl L1 ++ fl M ++ (fl L2 ++ R.drop (m * 2))).toArray = W2 at hcp2 hO
  clear e1 e2 hX hZ hU
  have mixed : Try.prog.follows Departure.mixedOrders = true := by kernel_rfl
  go_enter Try.func74, Try.ntmps74
  go_wp2_with (simp only [hov])
  go_region_law_o (refine step_copy_runI rfl _ _ 47 47 rfl _ _ (by simp [Act.eval, Act.put]) (by simp [Act.eval, Act.put]) (hcp1 _ _ _) ?_)
  go_wp2_with (at_builtin; refine wpList_copy_runI _ rfl _ _ 47 47 rfl _ _ rfl rfl (hcp2 _ _) ?_)
  go_ret
  exact hO

set_option maxHeartbeats 4000000 in
set_option maxRecDepth 100000 in
theorem insert_grow (g c V vc m n i : Nat) (L1 L2 M : List (Int × Int)) (R Y : List Value) (w : World) (h1 : L1.length = i) (hL : i + L2.length = n) (h2 : 0 < L2.length) (hM : M.length = m) (hm : 0 < m)
    (hA : At w g (fl L1 ++ fl L2 ++ R)) (hR : R.length + n * 2 = c * 2) (hv : At w V (fl M ++ Y)) (hroom : c < n + m) (hsm : n + m ≤ 70000) :
    Calls Try.prog 74 #[.slice (some ⟨g, 0, none⟩) n c, .int .i64 i, .slice (some ⟨V, 0, none⟩) m vc] w (Out w (some ⟨g, 0, none⟩) (L1 ++ M ++ L2)) := by
  have hz1 : ¬ ((m : Int) = 0) := by omega
  have hz2 : ¬ ((i : Int) = (n : Int)) := by omega
  have hz3 : ¬ ((n : Int) + (m : Int) ≤ (c : Int)) := by omega
  have hz4 : (c : Int) < (n : Int) + (m : Int) := by omega
  have hw1 : IntKind.i64.wrap ((i : Int) + (m : Int)) = (i : Int) + (m : Int) := by rw [IntKind.wrap_i64]; omega
  have hw2 : IntKind.i64.wrap ((n : Int) + (m : Int)) = (n : Int) + (m : Int) := by rw [IntKind.wrap_i64]; omega
  have hw3 : IntKind.i64.wrap ((n : Int) + (m : Int) - (i : Int)) = ((n + m - i : Nat) : Int) := by rw [IntKind.wrap_i64]; omega
  have hb1 : (0 : Int) ≤ (i : Int) + (m : Int) := by omega
  have hin : i ≤ n := by omega
  have hic : i ≤ c := by omega
  have htn : ((i : Int) + (m : Int)).toNat = i + m := by omega
  have hb4 : ¬ (c = i) := by omega
  obtain ⟨c', hc', hrun0, hmax⟩ := run_append2_zeros w 47 (some ⟨g, 0, none⟩) i c (n + m - i) L1 h1 (.inr ⟨g, fl L2 ++ R, rfl, by rw [← List.append_assoc]; exact hA⟩) (by omega) (by omega) (by omega)
  rw [show i + (n + m - i) = n + m by omega] at hc' hrun0
  have hrun : ∀ ty, (Builtin.append_ #[47, 3] ty #[.slice (some ⟨g, 0, none⟩) i c, .int .i64 (n + m - i : Nat)]).run Try.prog w = _ := fun ty => hrun0
  have hb5 : ¬ (c' = i) := by omega
  have hb6 : ¬ (c' = i + m) := by omega
  have hb7 : (i : Int) + (m : Int) ≤ (n : Int) + (m : Int) := by omega
  have hb8 : (i : Int) ≤ (n : Int) + (m : Int) := by omega
  have hA0 : At (w.drew.alloc (.cells (fl L1 ++ zs (n + m - i) ++ zs (c' - (n + m))).toArray 53)) w.heap.size (fl L1 ++ zs (n + m - i) ++ zs (c' - (n + m))) := at_alloc w.drew _
  have hv0 : At (w.drew.alloc (.cells (fl L1 ++ zs (n + m - i) ++ zs (c' - (n + m))).toArray 53)) V (fl M ++ Y) := At.alloc (w := w.drew) hv _
  have hg0 : At (w.drew.alloc (.cells (fl L1 ++ zs (n + m - i) ++ zs (c' - (n + m))).toArray 53)) g (fl L1 ++ fl L2 ++ R) := At.alloc (w := w.drew) hA _
  have hC0 : Chg (fun k => some (⟨g, 0, none⟩ : Addr) = some ⟨k, 0, none⟩) w (w.drew.alloc (.cells (fl L1 ++ zs (n + m - i) ++ zs (c' - (n + m))).toArray 53)) := ((Chg.refl _ w).drew).alloc _
  have hgl := hA.lt
  have hVl := hv.lt
  generalize hW0 : w.drew.alloc (.cells (fl L1 ++ zs (n + m - i) ++ zs (c' - (n + m))).toArray 53) = W0 at hrun hA0 hv0 hg0 hC0
  clear hW0 hrun0
  obtain ⟨N, hN⟩ : ∃ N, w.heap.size = N := ⟨_, rfl⟩
  rw [hN] at hrun hA0 hgl hVl
  have hcp1 : ∀ ty dc, (Builtin.copy_ #[47, 47] ty #[.slice (some ⟨N, i * 2, none⟩) (n + m - i) dc, .slice (some ⟨V, 0, none⟩) m vc]).run Try.prog W0 = _ := fun ty dc =>
    run_copy2 W0 ty N (i * 2) (n + m - i) dc ⟨V, 0, none⟩ m vc _ M hA0 (by simp only [Nat.min_def]; split <;> omega) (At.src (A := []) hv0 rfl) (by simp; omega)
  have e1 := over_eq (X := fl L1 ++ zs (n + m - i) ++ zs (c' - (n + m))) (P := fl L1) (Q := (zs (n + m - i)).take (m * 2)) (S := (zs (n + m - i)).drop (m * 2) ++ zs (c' - (n + m))) (M := fl M) (o := i * 2)
    (by
      conv => lhs; rw [← List.take_append_drop (m * 2) (zs (n + m - i))]
      simp only [List.append_assoc]) (by simp [h1]) (by simp [hM]; omega)
  rw [e1] at hcp1
  have hA1 : At (W0.setRow N (fl L1 ++ fl M ++ ((zs (n + m - i)).drop (m * 2) ++ zs (c' - (n + m)))).toArray) N _ := hA0.set _
  have hg1 : At (W0.setRow N (fl L1 ++ fl M ++ ((zs (n + m - i)).drop (m * 2) ++ zs (c' - (n + m)))).toArray) g (fl L1 ++ fl L2 ++ R) := hg0.other _ (by omega)
  have hC1 : Chg (fun k => some (⟨g, 0, none⟩ : Addr) = some ⟨k, 0, none⟩) w (W0.setRow N (fl L1 ++ fl M ++ ((zs (n + m - i)).drop (m * 2) ++ zs (c' - (n + m)))).toArray) := hC0.set N _ (.inr (by omega))
  generalize W0.setRow N (fl L1 ++ fl M ++ ((zs (n + m - i)).drop (m * 2) ++ zs (c' - (n + m)))).toArray = W1 at hcp1 hA1 hg1 hC1
  have hA1' : At W1.drew N (fl L1 ++ fl M ++ ((zs (n + m - i)).drop (m * 2) ++ zs (c' - (n + m)))) := hA1
  have hg1' : At W1.drew g (fl L1 ++ fl L2 ++ R) := hg1
  have hcp2 : ∀ ty dc sc, (Builtin.copy_ #[47, 47] ty #[.slice (some ⟨N, (i + m) * 2, none⟩) (n + m - (i + m)) dc, .slice (some ⟨g, i * 2, none⟩) (n - i) sc]).run Try.prog W1.drew = _ := fun ty dc sc =>
    run_copy2 W1.drew ty N ((i + m) * 2) (n + m - (i + m)) dc ⟨g, i * 2, none⟩ (n - i) sc _ L2 hA1' (by simp only [Nat.min_def]; split <;> omega) (At.src hg1' (by simp [h1])) (by simp; omega)
  have e2 := over_eq (X := fl L1 ++ fl M ++ ((zs (n + m - i)).drop (m * 2) ++ zs (c' - (n + m)))) (P := fl L1 ++ fl M) (Q := (zs (n + m - i)).drop (m * 2)) (S := zs (c' - (n + m))) (M := fl L2) (o := (i + m) * 2)
    (by rw [← List.append_assoc]) (by simp [h1, hM]; omega) (by simp; omega)
  rw [e2] at hcp2
  have hO : Out w (some ⟨g, 0, none⟩) (L1 ++ M ++ L2) (.returned (.slice (some ⟨N, 0, none⟩) (n + m) c')) (W1.drew.setRow N (fl L1 ++ fl M ++ fl L2 ++ zs (c' - (n + m))).toArray) := by
    refine ⟨_, c', by simp only [List.length_append, h1, hM]; congr 2; omega, .inr ⟨N, zs (c' - (n + m)), rfl, ?_, by simp; omega⟩, hmax, (hC1.drew).set N _ (.inr (by omega)), .inr ⟨N, rfl, by omega⟩⟩
    rw [fl_append, fl_append]
    exact hA1'.set _
  generalize W1.drew.setRow N (fl L1 ++ fl M ++ fl L2 ++ zs (c' - (n + m))).toArray = W2 at hcp2 hO
  clear e1 e2
  have mixed : Try.prog.follows Departure.mixedOrders = true := by kernel_rfl
  go_enter Try.func74, Try.ntmps74
  go_wp2_with (at_builtin; first
    | refine Lib.wpList_append_run _ rfl _ _ _ _ rfl _ _ rfl rfl _ _ (hrun _) ?_
    | refine wpList_copy_runI _ rfl _ _ 47 47 rfl _ _ rfl rfl (hcp1 _ _) ?_)
  go_region_law_o (refine step_copy_runI rfl _ _ 47 47 rfl _ _ (by simp [Act.eval, Act.put]) (by simp [Act.eval, Act.put]) (hcp2 _ _ _) ?_)
  go_wp2
  go_ret
  exact hO

end Go.Proofs.YtlobnlkpbenngaaR
