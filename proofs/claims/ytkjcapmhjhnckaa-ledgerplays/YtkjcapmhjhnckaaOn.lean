/- ledger: what each call leaves of the ledger, on lists: told once. -/
import Derived.Test.YtkjcapmhjhnckaaAd
import Derived.Test.YtkjcapmhjhnckaaCl
import Derived.Test.YtkjcapmhjhnckaaSnW
import Derived.Test.YtkjcapmhjhnckaaDu
namespace Go.Proofs.Ytkjcapmhjhnckaa
open Go.RowKit Go.Maps Go.Shelf
set_option linter.unusedVariables false
set_option maxRecDepth 100000

theorem ons_app (a b : List (Pk × Bool)) : ons (a ++ b) = ons a ++ ons b := by simp [ons]
theorem ons_un (q : Pk → Bool) (O : List (Pk × Bool)) : ons (un q O) = (ons O).filter fun p => !q p := by
  induction O with
  | nil => rfl
  | cons x t ih =>
    have e1 : un q (x :: t) = (x.1, x.2 && !q x.1) :: un q t := rfl
    have e2 : ∀ (y : Pk × Bool) l, ons (y :: l) = (if y.2 = true then [y.1] else []) ++ ons l := by
      intro y l
      cases h : y.2 <;> simp [ons, h]
    rw [e1, e2, e2, ih]
    cases x.2 <;> cases h : q x.1 <;> simp [h]
theorem ons_filter (q : Pk → Bool) (O : List (Pk × Bool)) : ons (O.filter fun x => q x.1) = (ons O).filter q := by
  induction O with
  | nil => rfl
  | cons x t ih =>
    have e2 : ∀ (y : Pk × Bool) l, ons (y :: l) = (if y.2 = true then [y.1] else []) ++ ons l := by
      intro y l
      cases h : y.2 <;> simp [ons, h]
    cases h : q x.1 with
    | true => rw [List.filter_cons_of_pos (by simp [h]), e2, e2, ih]; cases x.2 <;> simp [h]
    | false => rw [List.filter_cons_of_neg (by simp [h]), e2, ih]; cases x.2 <;> simp [h]
theorem ons_off (k : Nat) (O : List (Pk × Bool)) : ons (off k O) = ons (O.drop k) := by
  unfold off
  rw [ons_app]
  have : ons ((O.take k).map fun x => (x.1, false)) = [] := by
    unfold ons
    rw [List.map_eq_nil_iff, List.filter_eq_nil_iff]
    intro x hx
    obtain ⟨y, _, rfl⟩ := List.mem_map.1 hx
    simp
  rw [this]; rfl
theorem ons_trim (O : List (Pk × Bool)) : ons (O.drop (fst O)) = ons O := by
  have h : ons O = ons (O.take (fst O)) ++ ons (O.drop (fst O)) := by rw [← ons_app, List.take_append_drop]
  have h2 : ons (O.take (fst O)) = [] := by
    unfold ons
    rw [List.map_eq_nil_iff, List.filter_eq_nil_iff]
    intro x hx
    obtain ⟨i, hi, rfl⟩ := List.getElem_of_mem hx
    rw [List.length_take] at hi
    rw [List.getElem_take, fst_off (by omega) (by omega)]
    simp
  rw [h, h2]; rfl
theorem arO_all (S : List (Int × Int)) (O : List (Pk × Bool)) : arO S O.length O = un (inS S) O := by
  unfold arO
  rw [List.take_length, List.drop_length, List.append_nil]
theorem ak_all (S : List (Int × Int)) (O : List (Pk × Bool)) : ak S O.length O = (ons O).filter (inS S) := by
  unfold ak
  rw [List.take_length, ons_filter]
/-- What pass tells and leaves is what was on its way. -/
theorem pass_perm (L : Ls) (now late : Int) : (ons L.O).Perm (L.lost now late ++ ons (L.pass now late).O) := by
  have h1 : ons (L.pass now late).O = ons (L.O.drop (lk L.g (now - late) L.O)) := by
    show ons ((off _ L.O).drop (fst (off _ L.O))) = _
    rw [ons_trim, ons_off]
  rw [h1]
  unfold Ls.lost
  rw [← ons_app, List.take_append_drop]
theorem arr_perm (L : Ls) (S : List (Int × Int)) : (ons L.O).Perm (L.acked S ++ ons (L.arr S).O) := by
  have h1 : ons (L.arr S).O = (ons L.O).filter fun p => !inS S p := by
    show ons (arO S L.O.length L.O) = _
    rw [arO_all, ons_un]
  rw [h1]
  unfold Ls.acked
  rw [ak_all]
  exact (List.filter_append_perm _ _).symm
theorem arr_pass_perm (L : Ls) (S : List (Int × Int)) (now late : Int) : (ons L.O).Perm ((L.acked S ++ (L.arr S).lost now late) ++ ons ((L.arr S).pass now late).O) := by
  refine (arr_perm L S).trans ?_
  rw [List.append_assoc]
  exact (pass_perm (L.arr S) now late).append_left _
def ssum : List Pk → Int
  | [] => 0
  | p :: t => p.s + ssum t
theorem ssum_app (a b : List Pk) : ssum (a ++ b) = ssum a + ssum b := by
  induction a with
  | nil => simp [ssum]
  | cons p t ih => simp only [List.cons_append, ssum, ih]; omega
theorem ssum_perm {a b : List Pk} (h : a.Perm b) : ssum a = ssum b := by
  induction h with
  | nil => rfl
  | cons x _ ih => simp only [ssum, ih]
  | swap x y l => simp only [ssum]; omega
  | trans _ _ h1 h2 => exact h1.trans h2
theorem zs_ons (O : List (Pk × Bool)) : zs O = ssum (ons O) := by
  induction O with
  | nil => rfl
  | cons x t ih =>
    have e2 : ons (x :: t) = (if x.2 = true then [x.1] else []) ++ ons t := by cases h : x.2 <;> simp [ons, h]
    rw [e2, ssum_app, zs, ih]
    cases x.2 <;> simp [ssum]
theorem ons_nodup {O : List (Pk × Bool)} (h : Rise O) : ((ons O).map fun p => p.n).Nodup := by
  have h1 : (ons O).Pairwise fun x y => x.n < y.n := by
    unfold ons
    rw [List.pairwise_map]
    exact List.Pairwise.filter _ h
  rw [List.Nodup, List.pairwise_map]
  exact h1.imp fun hlt e => by omega
/-- What is told at once, against what was told, and what is on its way. -/
structure Fresh (D : List Int) (P : List Pk) (O : List (Pk × Bool)) : Prop where
  old : ∀ p ∈ P, p.n ∉ D
  one : (P.map fun p => p.n).Nodup
  now : ∀ p ∈ P, p.n ∉ (ons O).map fun p => p.n
  keep : ∀ d ∈ D, d ∉ (ons O).map fun p => p.n
theorem Fresh.of {D : List Int} {P : List Pk} {O O' : List (Pk × Bool)} (hr : Rise O) (hd : ∀ d ∈ D, d ∉ (ons O).map fun p => p.n) (hp : (ons O).Perm (P ++ ons O')) : Fresh D P O' := by
  have h1 := (hp.map fun p => p.n).nodup_iff.1 (ons_nodup hr)
  rw [List.map_append, List.nodup_append] at h1
  have hm : ∀ {a : Int}, a ∈ (ons O).map (fun p => p.n) ↔ a ∈ (P ++ ons O').map (fun p => p.n) := (hp.map fun p => p.n).mem_iff
  refine ⟨fun p hp' hd' => hd _ hd' ((hm).2 ?_), h1.1, fun p hp' he => h1.2.2 _ (List.mem_map_of_mem hp') _ he rfl, fun d hd' he => hd d hd' ((hm).2 ?_)⟩
  · rw [List.map_append]; exact List.mem_append_left _ (List.mem_map_of_mem hp')
  · rw [List.map_append]; exact List.mem_append_right _ he
theorem ls0_ok : ls0.ok 0 :=
  ⟨⟨(fun x hx => (by cases hx)), by simp [ls0], List.Pairwise.nil, by decide, by decide⟩, rfl, rfl, by simp [ls0], by simp [ls0], by decide, by decide, by decide, by decide, List.Pairwise.nil, fun x hx => (by cases hx), fun x hx => (by cases hx), rfl⟩
theorem clr_ok {L : Ls} {M : Nat} (h : L.ok M) : L.clr.ok M :=
  ⟨⟨(fun x hx => (by cases hx)), by simp [Ls.clr], List.Pairwise.nil, h.fit.g0, h.fit.g1⟩, rfl, rfl, by simp [Ls.clr], h.lenT, h.t0, h.t1, h.d0, h.d1, h.up, h.tb, fun x hx => (by cases hx), rfl⟩
theorem snt_zero {L : Ls} {p : Pk} (h : snt L p = 0) : p.ok ∧ top L.T < p.n ∧ L.t ≤ p.a := by
  unfold snt at h
  split at h
  · omega
  · rename_i h1
    split at h
    · omega
    · split at h
      · omega
      · have q3 : 0 ≤ p.a ∧ p.a ≤ 1125899906842624 := Classical.byContradiction fun h => h1 (.inr (.inr (.inl h)))
        exact ⟨⟨by omega, by omega, q3.1, q3.2, by omega, by omega⟩, by omega, by omega⟩
theorem addT_facts {T : List (Int × Int)} {n : Int} (hu : Up T) (hb : ∀ x ∈ T, 0 ≤ x.1 ∧ x.1 ≤ x.2 ∧ x.2 ≤ 4611686018427387903) (h0 : 0 ≤ n) (h1 : n ≤ 4611686018427387903) (ht : top T < n) :
    Up (addT T n) ∧ (∀ x ∈ addT T n, 0 ≤ x.1 ∧ x.1 ≤ x.2 ∧ x.2 ≤ 4611686018427387903) ∧ top (addT T n) = n ∧ (addT T n).length ≤ T.length + 1 := by
  unfold addT
  cases hl : T.getLast? with
  | none =>
    have e : T = [] := by simpa using hl
    subst e
    exact ⟨List.pairwise_singleton _ _, fun x hx => by simp only [List.mem_singleton] at hx; subst hx; exact ⟨h0, Int.le_refl _, h1⟩, rfl, by simp⟩
  | some x =>
    obtain ⟨ys, rfl⟩ := List.getLast?_eq_some_iff.1 hl
    have hx := hb x (by simp)
    have htx : top (ys ++ [x]) = x.2 := by simp [top]
    rw [htx] at ht
    have hu' := List.pairwise_append.1 hu
    simp only
    split
    · rename_i e
      rw [List.dropLast_concat]
      refine ⟨List.pairwise_append.2 ⟨hu'.1, List.pairwise_singleton _ _, fun a ha b hb' => ?_⟩, fun y hy => ?_, by simp [top], by simp⟩
      · simp only [List.mem_singleton] at hb'
        subst hb'
        have := hu'.2.2 a ha x (by simp)
        exact ⟨this.1, by omega⟩
      · rcases List.mem_append.1 hy with hy | hy
        · exact hb y (by simp [hy])
        · simp only [List.mem_singleton] at hy
          subst hy
          exact ⟨hx.1, by simp only; omega, h1⟩
    · refine ⟨List.pairwise_append.2 ⟨hu, List.pairwise_singleton _ _, fun a ha b hb' => ?_⟩, fun y hy => ?_, by simp [top], by simp⟩
      · simp only [List.mem_singleton] at hb'
        subst hb'
        have ha2 : a.2 ≤ x.2 := by
          rcases List.mem_append.1 ha with ha | ha
          · have := hu'.2.2 a ha x (by simp); omega
          · simp only [List.mem_singleton] at ha; rw [ha]; exact Int.le_refl _
        simp only
        omega
      · rcases List.mem_append.1 hy with hy | hy
        · exact hb y hy
        · simp only [List.mem_singleton] at hy
          subst hy
          exact ⟨h0, Int.le_refl _, h1⟩
theorem sent_ok {L : Ls} {M : Nat} (h : L.ok M) {p : Pk} (hp : snt L p = 0) (hM : M + 1 ≤ 4000000000000) : (L.sent p).ok (M + 1) := by
  obtain ⟨hpk, ht, ha⟩ := snt_zero hp
  obtain ⟨u1, u2, u3, u4⟩ := addT_facts h.up h.tb hpk.n0 hpk.n1 ht
  have hlen : (L.O ++ [(p, true)]).length = L.O.length + 1 := by simp
  refine ⟨⟨fun x hx => ?_, ?_, ?_, h.fit.g0, h.fit.g1⟩, ?_, ?_, ?_, ?_, hpk.a0, hpk.a1, ?_, ?_, u1, u2, fun x hx => ?_, ?_⟩
  · rcases List.mem_append.1 hx with hx | hx
    · exact h.fit.pk x hx
    · simp only [List.mem_singleton] at hx; subst hx; exact hpk
  · show (L.O ++ [(p, true)]).length ≤ _; rw [hlen]; have := h.lenO; omega
  · exact List.pairwise_append.2 ⟨h.fit.rise, List.pairwise_singleton _ _, fun a ha b hb => by
      simp only [List.mem_singleton] at hb
      subst hb
      have := h.top a ha
      show a.1.n < p.n
      omega⟩
  · show L.z + p.s = zs (L.O ++ [(p, true)])
    rw [zs_app, h.z]; simp [zs]
  · show L.c + _ = ce (L.O ++ [(p, true)])
    rw [ce_app, h.c]; simp [ce]
  · show (L.O ++ [(p, true)]).length ≤ _; rw [hlen]; have := h.lenO; omega
  · show (addT L.T p.n).length ≤ _; have := h.lenT; omega
  · show 0 ≤ (if p.e = true then p.a else L.d); have := h.d0; have := hpk.a0; split <;> omega
  · show (if p.e = true then p.a else L.d) ≤ _; have := h.d1; have := hpk.a1; split <;> omega
  · rcases List.mem_append.1 hx with hx | hx
    · have := h.top x hx
      show x.1.n ≤ Go.Proofs.Ytkjcapmhjhnckaa.top (addT L.T p.n)
      rw [u3]; omega
    · simp only [List.mem_singleton] at hx
      subst hx
      show p.n ≤ Go.Proofs.Ytkjcapmhjhnckaa.top (addT L.T p.n)
      rw [u3]; exact Int.le_refl _
  · show fst (L.O ++ [(p, true)]) = 0
    cases hO : L.O with
    | nil => simp [fst]
    | cons x t =>
      have := h.hd
      rw [hO] at this
      cases hx : x.2 with
      | true => simp [fst, hx]
      | false => simp [fst, hx] at this
end Go.Proofs.Ytkjcapmhjhnckaa
