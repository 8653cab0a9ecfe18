/- slices.Delete over parts. -/
import Derived.Test.YtlobnlkpbenngaaPSea
namespace Go.Proofs.YtlobnlkpbenngaaP
open Go.RowKit Go.Shelf Go.Lib
open Go.Proofs.YtlobnlkpbenngaaR (Chg Chg.refl Chg.trans Chg.below)
set_option linter.unusedVariables false

set_option maxRecDepth 100000 in
/-- Nothing is left out. -/
theorem delete_no (o : Addr) (n c i : Nat) (w : World) (h : i ≤ n) (hc : n ≤ c) : Calls Try.prog 44 #[.slice (some o) n c, .int .i64 (i : Int), .int .i64 (i : Int)] w fun e w' => e = .returned (.slice (some o) n c) ∧ w' = w := by
  have h1 : (i : Int) ≤ (n : Int) := by omega
  go_enter Try.func44, Try.ntmps44
  go_wp2
  all_goals (go_ret; exact ⟨rfl, rfl⟩)

theorem step_append_run {P : Program} {ops : Array Oper} {o : Oper} {a : Act} {w : World} {K : Act → World → Prop} {Q : Exit → Act → World → Prop} {E : Prop}
    (hg : o.guard = none) (d x : Operand) (dT sT : TypeId) (hop : o.op = Op.call { callee := Callee.builtin Builtin.append, args := #[d, x], argTypes := #[dT, sT] })
    (v u : Value) (hd : a.eval d = v) (hx : a.eval x = u) {v' : Value} {w' : World} (hr : (Builtin.append_ #[dT, sT] o.type #[v, u]).run P w = .ok v' w') (hK : K (a.put o.dst v') w') :
    if Region.wanted o (yielded ops a.tmps) = true then Oper.wp P o a w K Q else E := by
  have hw : Region.wanted o (yielded ops a.tmps) = true := by simp [Region.wanted, hg]
  rw [if_pos hw]
  unfold Oper.wp
  simp [execOp, hop, resolve, invoke, builtin, hd, hx, hr, Result.andThen]
  exact hK

set_option maxRecDepth 100000 in
set_option maxHeartbeats 2000000 in
theorem delete_mid (g c n i : Nat) (A B : List (Int × Nat)) (x : Int × Nat) (R : List Value) (w : World) (h1 : A.length = i) (hn : i + 1 + B.length = n) (hA : At w g (fl (A ++ x :: B) ++ R)) (hR : R.length + n * 2 = c * 2) (hcm : c ≤ maxLen) (hsm : n ≤ 68719476736) (hlt : i + 1 < c) :
    Calls Try.prog 44 #[.slice (some ⟨g, 0, none⟩) n c, .int .i64 (i : Int), .int .i64 ((i : Int) + 1)] w fun e w' => e = .returned (.slice (some ⟨g, 0, none⟩) (n - 1) c) ∧ (∃ R', At w' g (fl (A ++ B) ++ R') ∧ R'.length + (n - 1) * 2 = c * 2) ∧ Chg (fun k => k = g) w w' := by
  have hz1 : ¬ ((i : Int) = (i : Int) + 1) := by omega
  have hin : i ≤ n := by omega
  have hic : i ≤ c := by omega
  have hjn : i + 1 ≤ n := by omega
  have hnc : n ≤ c := by omega
  have hb1 : (0 : Int) ≤ (i : Int) + 1 := by omega
  have hb2 : (i : Int) + 1 ≤ (n : Int) := by omega
  have htn : ((i : Int) + 1).toNat = i + 1 := by omega
  have hne1 : ¬ (c = i + 1) := by omega
  have hq1 : ((i : Int) == (i : Int) + 1) = false := by simp; omega
  have hq2 : decide ((i : Int) = (i : Int) + 1) = false := by simp; omega
  have hA' : At w.drew g (fl (A ++ x :: B) ++ R) := hA
  have hX : fl (A ++ x :: B) ++ R = (fl A ++ fl [x]) ++ fl B ++ R := by
    rw [show A ++ x :: B = (A ++ [x]) ++ B by simp, fl_append, fl_append]
  rw [hX] at hA hA'
  have hs : ∀ sc, Src Try.prog 2 74 (.slice (some ⟨g, (i + 1) * 2, none⟩) (n - (i + 1)) sc) (n - (i + 1)) (fl B) w.drew := fun sc => by
    have e : n - (i + 1) = B.length := by omega
    rw [e]
    exact src2 w.drew ⟨g, (i + 1) * 2, none⟩ sc B (At.src hA' (by simp [fl]; omega))
  have hap : ∀ ty sc, (Builtin.append_ #[74, 74] ty #[.slice (some ⟨g, 0, none⟩) i c, .slice (some ⟨g, (i + 1) * 2, none⟩) (n - (i + 1)) sc]).run Try.prog w.drew = _ := fun ty sc =>
    run_append2_room w.drew ty g i c _ _ (n - (i + 1)) B hA' (hs sc) (by omega) (by simp [fl]; omega) (by omega)
  obtain ⟨S, hS⟩ : ∃ S, S = (fl [x] ++ fl B ++ R).drop (B.length * 2) := ⟨_, rfl⟩
  have e1 := over_eq (X := (fl A ++ fl [x]) ++ fl B ++ R) (P := fl A) (Q := (fl [x] ++ fl B ++ R).take (B.length * 2)) (S := S) (M := fl B) (o := i * 2) (by rw [hS, List.append_assoc (fl A) ((fl [x] ++ fl B ++ R).take (B.length * 2)), List.take_append_drop]; simp only [List.append_assoc]) (by simp [h1]) (by simp [fl]; omega)
  rw [e1, show i + (n - (i + 1)) = n - 1 by omega] at hap
  have hSl : S.length + (n - 1) * 2 = c * 2 := by rw [hS]; simp [fl]; omega
  have hA1 : At (w.drew.setRow g (fl A ++ fl B ++ S).toArray) g (fl A ++ fl B ++ S) := hA'.set _
  have hC1 : Chg (fun k => k = g) w (w.drew.setRow g (fl A ++ fl B ++ S).toArray) := ((Chg.refl _ w).drew).set g _ (.inl rfl)
  generalize w.drew.setRow g (fl A ++ fl B ++ S).toArray = W1 at hap hA1 hC1
  have hcl : ∀ ty sc, (Builtin.clear_ #[74] ty #[.slice (some ⟨g, (n - 1) * 2, none⟩) 1 sc]).run Try.prog W1 = _ := fun ty sc => run_clear2 W1 ty g ((n - 1) * 2) 1 sc _ hA1 (by simp; omega)
  have e2 := over_eq (X := fl A ++ fl B ++ S) (P := fl A ++ fl B) (Q := S.take 2) (S := S.drop 2) (M := zs 1) (o := (n - 1) * 2) (by rw [List.append_assoc (fl A ++ fl B), List.take_append_drop]) (by simp [h1]; omega) (by simp; omega)
  rw [e2] at hcl
  have hO : (∃ R', At (W1.setRow g (fl A ++ fl B ++ zs 1 ++ S.drop 2).toArray) g (fl (A ++ B) ++ R') ∧ R'.length + (n - 1) * 2 = c * 2) ∧ Chg (fun k => k = g) w (W1.setRow g (fl A ++ fl B ++ zs 1 ++ S.drop 2).toArray) := by
    refine ⟨⟨zs 1 ++ S.drop 2, ?_, by simp; omega⟩, hC1.set g _ (.inl rfl)⟩
    rw [fl_append, ← List.append_assoc]
    exact hA1.set _
  generalize W1.setRow g (fl A ++ fl B ++ zs 1 ++ S.drop 2).toArray = W2 at hcl hO
  have HO : Aside _ := hO
  have hm1 : n - (n - 1) = 1 := by omega
  have hm2 : ¬ (c = n - 1) := by omega
  have hm3 : n - 1 ≤ n := by omega
  have hm4 : (((n - 1 : Nat) : Int)) ≤ (n : Int) := by omega
  clear hO e1 e2 hS hSl hA1 hC1 hs hA hA' hX hR
  have mixed : Try.prog.follows Departure.mixedOrders = true := by kernel_rfl
  go_enter Try.func44, Try.ntmps44
  go_wp2
  go_region_law_o (refine step_append_run rfl _ _ 74 74 rfl _ _ rfl rfl (hap _ _) ?_)
  go_wp2
  go_ret
  exact ⟨rfl, HO.out⟩

set_option maxRecDepth 100000 in
set_option maxHeartbeats 2000000 in
/-- The last one, and there is no room behind it. -/
theorem delete_last (g i : Nat) (A : List (Int × Nat)) (x : Int × Nat) (w : World) (h1 : A.length = i) (hA : At w g (fl (A ++ [x]))) (hsm : i + 1 ≤ 68719476736) :
    Calls Try.prog 44 #[.slice (some ⟨g, 0, none⟩) (i + 1) (i + 1), .int .i64 (i : Int), .int .i64 ((i : Int) + 1)] w fun e w' => e = .returned (.slice (some ⟨g, 0, none⟩) i (i + 1)) ∧ (∃ R', At w' g (fl A ++ R') ∧ R'.length + i * 2 = (i + 1) * 2) ∧ Chg (fun k => k = g) w w' := by
  have hz1 : ¬ ((i : Int) = (i : Int) + 1) := by omega
  have hb1 : (0 : Int) ≤ (i : Int) + 1 := by omega
  have htn : ((i : Int) + 1).toNat = i + 1 := by omega
  have hq1 : ((i : Int) == (i : Int) + 1) = false := by simp; omega
  have hq2 : decide ((i : Int) = (i : Int) + 1) = false := by simp; omega
  have hA' : At w.drew g (fl A ++ fl [x]) := by rw [← fl_append]; exact hA
  have hcl : ∀ ty sc, (Builtin.clear_ #[74] ty #[.slice (some ⟨g, i * 2, none⟩) 1 sc]).run Try.prog w.drew = _ := fun ty sc => run_clear2 w.drew ty g (i * 2) 1 sc _ hA' (by simp [fl]; omega)
  have e2 := over_eq (X := fl A ++ fl [x]) (P := fl A) (Q := fl [x]) (S := []) (M := zs 1) (o := i * 2) (by simp) (by simp [h1]) (by simp [fl])
  rw [e2] at hcl
  have hO : (∃ R', At (w.drew.setRow g (fl A ++ zs 1 ++ []).toArray) g (fl A ++ R') ∧ R'.length + i * 2 = (i + 1) * 2) ∧ Chg (fun k => k = g) w (w.drew.setRow g (fl A ++ zs 1 ++ []).toArray) := by
    refine ⟨⟨zs 1 ++ [], ?_, by simp; omega⟩, ((Chg.refl _ w).drew).set g _ (.inl rfl)⟩
    rw [← List.append_assoc]
    exact hA'.set _
  generalize w.drew.setRow g (fl A ++ zs 1 ++ []).toArray = W2 at hcl hO
  have HO : Aside _ := hO
  clear hO e2 hA hA'
  have mixed : Try.prog.follows Departure.mixedOrders = true := by kernel_rfl
  go_enter Try.func44, Try.ntmps44
  go_wp2
  go_region
  go_wp2
  go_ret
  exact ⟨rfl, HO.out⟩
end Go.Proofs.YtlobnlkpbenngaaP
