/- slices.Replace over spans, up to their end. -/
import Derived.Test.YtlobnlkpbenngaaRIns2
namespace Go.Proofs.YtlobnlkpbenngaaR
open Go.RowKit Go.Shelf Go.Lib
set_option linter.unusedVariables false

/-- What is laid in: the spans M in a block of their own, or none. -/
def Sv (w : World) (o vo : Option Addr) (M : List (Int × Int)) : Prop := (vo = none ∧ M = []) ∨ ∃ V Y, vo = some ⟨V, 0, none⟩ ∧ At w V (fl M ++ Y) ∧ o ≠ some ⟨V, 0, none⟩

set_option maxRecDepth 100000 in
theorem insert_c (o : Option Addr) (c V vc m n i : Nat) (L1 L2 M : List (Int × Int)) (Y : List Value) (w : World) (h1 : L1.length = i) (hL : i + L2.length = n) (hM : M.length = m) (hm : 0 < m)
    (hr : Rs w o c (L1 ++ L2)) (hcm : c ≤ maxLen) (hv : At w V (fl M ++ Y)) (hV : o ≠ some ⟨V, 0, none⟩) (hsm : n + m ≤ 70000) :
    Calls Try.prog 74 #[.slice o n c, .int .i64 i, .slice (some ⟨V, 0, none⟩) m vc] w (Out w o (L1 ++ M ++ L2)) := by
  rcases Nat.eq_zero_or_pos L2.length with h2 | h2
  · obtain rfl := List.length_eq_zero_iff.1 h2
    simp only [List.append_nil, List.length_nil, Nat.add_zero] at hr hL ⊢
    subst hL
    by_cases hroom : i + m ≤ c
    · rcases hr with ⟨rfl, rfl, rfl⟩ | ⟨g, R, rfl, hA, hR⟩
      · omega
      · exact insert_end_room g c V vc m i L1 M R Y w h1 hM hm hA (by rw [← h1]; exact hR) hcm hv hroom
    · exact insert_end_grow o c V vc m i L1 M Y w h1 hM hm hr hv (by omega) hsm
  · rcases hr with ⟨rfl, h, rfl⟩ | ⟨g, R, rfl, hA, hR⟩
    · simp at h; rw [h.2] at h2; simp at h2
    · rw [fl_append] at hA
      have hR' : R.length + n * 2 = c * 2 := by rw [← hL, ← h1]; simpa using hR
      by_cases hroom : n + m ≤ c
      · exact insert_shift g c V vc m n i L1 L2 M R Y w h1 hL h2 hM hm hA hR' hcm hv (by rintro rfl; exact hV rfl) hroom hsm
      · exact insert_grow g c V vc m n i L1 L2 M R Y w h1 hL h2 hM hm hA hR' hv (by omega) hsm

set_option maxRecDepth 100000 in
theorem run_copy2v (w : World) (ty : TypeId) (g o dLen dCap m vc : Nat) (oo vo : Option Addr) (X : List Value) (M : List (Int × Int))
    (hg : At w g X) (hv : Sv w oo vo M) (hM : M.length = m) (hn : m ≤ dLen) (hfit : o + M.length * 2 ≤ X.length) :
    (Builtin.copy_ #[47, 47] ty #[.slice (some ⟨g, o, none⟩) dLen dCap, .slice vo m vc]).run Try.prog w =
      .ok (goInt M.length) (w.setRow g (X.take o ++ fl M ++ X.drop (o + (fl M).length)).toArray) := by
  rcases hv with ⟨rfl, rfl⟩ | ⟨V, Y, rfl, hA, _⟩
  · simp at hM
    subst hM
    obtain ⟨i, hq, hz, hi, hb⟩ := info_parts info50
    have : w.setRow g (X.take o ++ fl [] ++ X.drop (o + (fl []).length)).toArray = w := by
      simp only [fl, List.append_nil, List.length_nil, Nat.add_zero, List.take_append_drop]
      exact setRow_self w g _ 53 (0, 0) hg
    rw [this]
    simp [Builtin.copy_, run_underlying Try.underlying47, Builtin.lenOf, Builtin.firstCells, sizeOf, typeInfo, hq, storeCells]
  · exact run_copy2 w ty g o dLen dCap _ m vc X M hg (by rw [hM]; simp only [Nat.min_def]; split <;> omega) (At.src (A := []) hA rfl) hfit

set_option maxRecDepth 100000 in
theorem src2v (w : World) (oo vo : Option Addr) (m vc : Nat) (M : List (Int × Int)) (hv : Sv w oo vo M) (hM : M.length = m) : Src Try.prog 2 47 (.slice vo m vc) m (fl M) w := by
  rcases hv with ⟨rfl, rfl⟩ | ⟨V, Y, rfl, hA, _⟩
  · simp at hM
    subst hM
    exact Src.ofNil w Try.underlying47 vc
  · subst hM
    exact src2 w ⟨V, 0, none⟩ vc M (At.src (A := []) hA rfl)

set_option maxRecDepth 100000 in
theorem wp_clear_run (w : World) {o : Oper} {a : Act} {K : Act → World → Prop} {Q : Exit → Act → World → Prop} (d : Operand) (t : TypeId)
    (ho : o.op = .call { callee := .builtin .clear, args := #[d], argTypes := #[t] }) (v : Value) (hd : a.eval d = v) {v' : Value} {w' : World}
    (hr : (Builtin.clear_ #[t] o.type #[v]).run Try.prog w = .ok v' w') (h : K (a.put o.dst v') w') : o.wp Try.prog a w K Q := by
  unfold Oper.wp execOp
  simp only [ho, resolve, invoke, builtin, Sem.run_bind, Sem.run_pure, Result.andThen_ok, List.map_toArray, List.map_cons, List.map_nil, hd, hr]
  exact h
set_option maxRecDepth 100000 in
theorem wpList_clear_run (w : World) {ops : Array Oper} {rest : List Oper} {o : Oper} {a : Act} {Q : Exit → Act → World → Prop} (hgd : o.guard = none) (d : Operand) (t : TypeId)
    (ho : o.op = .call { callee := .builtin .clear, args := #[d], argTypes := #[t] }) (v : Value) (hd : a.eval d = v) {v' : Value} {w' : World}
    (hr : (Builtin.clear_ #[t] o.type #[v]).run Try.prog w = .ok v' w') (h : wpList Try.prog ops Q rest (a.put o.dst v') w') : wpList Try.prog ops Q (o :: rest) a w :=
  wpList_plain hgd fun _ hK => wp_clear_run w d t ho v hd hr (hK _ _ h)

set_option maxHeartbeats 4000000 in
set_option maxRecDepth 100000 in
theorem replace_tail_clear (g c vc m n i : Nat) (vo : Option Addr) (L1 D M : List (Int × Int)) (R : List Value) (w : World) (h1 : L1.length = i) (hL : i + D.length = n) (h2 : 0 < D.length) (hM : M.length = m)
    (hA : At w g (fl L1 ++ fl D ++ R)) (hR : R.length + n * 2 = c * 2) (hcm : c ≤ maxLen) (hv : Sv w (some ⟨g, 0, none⟩) vo M) (hroom : i + m < n) (hsm : n + m ≤ 70000) :
    Calls Try.prog 64 #[.slice (some ⟨g, 0, none⟩) n c, .int .i64 i, .int .i64 n, .slice vo m vc] w (Out w (some ⟨g, 0, none⟩) (L1 ++ M)) := by
  have hz2 : ¬ ((i : Int) = (n : Int)) := by omega
  have hin : i ≤ n := by omega
  have hnc : n ≤ c := by omega
  have hb4 : ¬ (c = i) := by omega
  have hb5 : ¬ (c = i + m) := by omega
  have hz3 : (i : Int) + (m : Int) < (n : Int) := by omega
  have hs := src2v w _ vo m vc M hv hM
  have hrun : ∀ ty, (Builtin.append_ #[47, 47] ty #[.slice (some ⟨g, 0, none⟩) i c, .slice vo m vc]).run Try.prog w = _ := fun ty => run_append2_room w ty g i c _ _ m M hA hs (by omega) (by simp; omega) hM
  have e1 := over_eq (X := fl L1 ++ fl D ++ R) (P := fl L1) (Q := (fl D ++ R).take (m * 2)) (S := (fl D ++ R).drop (m * 2)) (M := fl M) (o := i * 2) (by simp only [List.append_assoc]; rw [List.take_append_drop]) (by simp [h1]) (by simp [hM]; omega)
  rw [e1] at hrun
  have hA1 : At (w.setRow g (fl L1 ++ fl M ++ (fl D ++ R).drop (m * 2)).toArray) g _ := hA.set _
  have hC1 : Chg (fun k => some (⟨g, 0, none⟩ : Addr) = some ⟨k, 0, none⟩) w (w.setRow g (fl L1 ++ fl M ++ (fl D ++ R).drop (m * 2)).toArray) := (Chg.refl _ w).set g _ (.inl rfl)
  generalize w.setRow g (fl L1 ++ fl M ++ (fl D ++ R).drop (m * 2)).toArray = W1 at hrun hA1 hC1
  obtain ⟨T, hT⟩ : ∃ T, (fl D ++ R).drop (m * 2) = T := ⟨_, rfl⟩
  have hTl : T.length + (i + m) * 2 = c * 2 := by rw [← hT]; simp; omega
  rw [hT] at hA1
  have hclr : ∀ ty cc, (Builtin.clear_ #[47] ty #[.slice (some ⟨g, (i + m) * 2, none⟩) (n - (i + m)) cc]).run Try.prog W1 = _ := fun ty cc => run_clear2 W1 ty g ((i + m) * 2) (n - (i + m)) cc _ hA1 (by simp; omega)
  have e2 := over_eq (X := fl L1 ++ fl M ++ T) (P := fl L1 ++ fl M) (Q := T.take ((n - (i + m)) * 2)) (S := T.drop ((n - (i + m)) * 2)) (M := zs (n - (i + m))) (o := (i + m) * 2) (by simp only [List.append_assoc]; rw [List.take_append_drop]) (by simp [h1, hM]; omega) (by simp; omega)
  rw [e2] at hclr
  have hO : Out w (some ⟨g, 0, none⟩) (L1 ++ M) (.returned (.slice (some ⟨g, 0, none⟩) (i + m) c)) (W1.setRow g (fl L1 ++ fl M ++ zs (n - (i + m)) ++ T.drop ((n - (i + m)) * 2)).toArray) := by
    refine ⟨_, c, by rw [List.length_append, h1, hM], .inr ⟨g, zs (n - (i + m)) ++ T.drop ((n - (i + m)) * 2), rfl, ?_, by simp; omega⟩, hcm, hC1.set g _ (.inl rfl), .inl rfl⟩
    rw [fl_append, ← List.append_assoc]
    exact hA1.set _
  generalize W1.setRow g (fl L1 ++ fl M ++ zs (n - (i + m)) ++ T.drop ((n - (i + m)) * 2)).toArray = W2 at hclr hO
  clear e1 e2
  go_enter Try.func64, Try.ntmps64
  go_wp2_with (at_builtin; first
    | refine Lib.wpList_append_run _ rfl _ _ _ _ rfl _ _ rfl rfl _ _ (hrun _) ?_
    | refine wpList_clear_run _ rfl _ 47 rfl _ rfl (hclr _ _) ?_)
  go_ret
  exact hO

end Go.Proofs.YtlobnlkpbenngaaR
