/- LedgerPlays: the ledger and the reference's, act by act. -/
import Derived.Test.YtkjcapmhjhnckaaJm
namespace Go.Proofs.Ytkjcapmhjhnckaa
open Go.RowKit Go.Maps Go.Shelf
set_option linter.unusedVariables false

structure Jt (L : Ls) (R : Rs) : Prop where
  f : ∃ f, Jn f R.L L.O
  g : L.g = R.g
  t : L.t = R.t
  rq : Rq R.L
  ok : ∀ x ∈ R.L, x.1.ok
  at' : ∀ x ∈ R.L, x.1.a ≤ R.t
  gv : Gv R.g R.L
  gp : Gp L.T
  tb : ∀ t ∈ L.T, t.1 ≤ t.2
  tq : Tq L.T R.L
  d : L.d = (flt R.L).2.2
  tl : rlast R.L = top L.T
theorem Jt.flight {L : Ls} {R : Rs} (h : Jt L R) (hz : L.z = zs L.O) (hc : L.c = ce L.O) : flt R.L = (L.z, L.c, L.d) := by
  obtain ⟨f, hf⟩ := h.f
  obtain ⟨h1, h2⟩ := hf.flight
  rw [hz, hc, h.d, ← h1, ← h2]
theorem Jt.due {L : Ls} {R : Rs} (h : Jt L R) (hd : fst L.O = 0) (late : Int) : R.due late = L.due late := by
  obtain ⟨f, hf⟩ := h.f
  have h1 := hf.due h.rq hd R.g
  unfold Rs.due Ls.due
  by_cases ht : 0 ≤ late ∧ late ≤ 1125899906842624
  · rw [if_neg (not_not_intro ht), h.g]
    cases hO : L.O with
    | nil =>
      rw [hO] at h1
      have : R.L.find? (isd R.g) = none := by simpa [hdue] using h1
      rw [this]
    | cons x t =>
      rw [hO] at h1
      simp only [hdue] at h1
      by_cases hg : R.g ≤ x.1.n
      · rw [if_pos hg] at h1
        have : R.L.find? (isd R.g) = none := by simpa using h1
        rw [this]
        simp only
        rw [if_pos (.inr hg)]
      · rw [if_neg hg] at h1
        obtain ⟨y, hy, e⟩ := Option.map_eq_some_iff.1 h1
        rw [hy]
        simp only
        rw [if_neg (by rintro (hq | hq) <;> contradiction), e]
  · rw [if_pos ht]
    cases hO : L.O with
    | nil => rfl
    | cons x t =>
      simp only
      rw [if_pos (.inl ht)]
theorem Jt.snt {L : Ls} {R : Rs} (h : Jt L R) (p : Pk) : rsn R p = snt L p := by
  unfold rsn Go.Proofs.Ytkjcapmhjhnckaa.snt
  rw [h.tl, h.t]
theorem jt0 : Jt ls0 rs0 :=
  ⟨⟨0, rfl, fun x hx => by simp [rs0] at hx, fun x hx => by simp [rs0] at hx⟩, rfl, rfl, List.Pairwise.nil, fun x hx => by simp [rs0] at hx, fun x hx => by simp [rs0] at hx, ⟨.inl rfl, fun x hx => by simp [rs0] at hx⟩, List.Pairwise.nil, fun x hx => by simp [ls0] at hx, fun n => by simp [ls0, rs0], rfl, rfl⟩
theorem rlast_max {Q : List (Pk × Int)} (hr : Rq Q) : ∀ x ∈ Q, x.1.n ≤ rlast Q := by
  intro x hx
  unfold rlast
  cases hl : Q.getLast? with
  | none =>
    have e : Q = [] := by simpa using hl
    rw [e] at hx
    simp at hx
  | some y =>
    obtain ⟨ys, rfl⟩ := List.getLast?_eq_some_iff.1 hl
    simp only [Option.map_some, Option.getD_some]
    rcases List.mem_append.1 hx with hx | hx
    · have := ((List.pairwise_append.1 hr).2.2 x hx y (by simp)).1; omega
    · simp only [List.mem_singleton] at hx
      rw [hx]; exact Int.le_refl _
theorem Jt.sent {L : Ls} {R : Rs} (h : Jt L R) {p : Pk} (hp : Go.Proofs.Ytkjcapmhjhnckaa.snt L p = 0) : Jt (L.sent p) (R.sent p) := by
  obtain ⟨hpk, ht, ha⟩ := snt_zero hp
  obtain ⟨f, hf⟩ := h.f
  obtain ⟨u1, u2, u3⟩ := addT_gp h.gp h.tb ht
  obtain ⟨-, -, u6, -⟩ : True ∧ True ∧ top (addT L.T p.n) = p.n ∧ True := by
    refine ⟨trivial, trivial, ?_, trivial⟩
    unfold addT
    cases hl : L.T.getLast? with
    | none => rfl
    | some x =>
      simp only
      split <;> simp [top]
  have hmax : ∀ x ∈ R.L, x.1.n < p.n := fun x hx => by have := rlast_max h.rq x hx; rw [h.tl] at this; omega
  have hfl : f ≤ R.L.length ∨ R.L.length < f := by omega
  refine ⟨?_, h.g, rfl, ?_, ?_, ?_, ?_, u1, u2, ?_, ?_, ?_⟩
  · refine ⟨min f R.L.length, ?_, ?_, ?_⟩
    · show L.O ++ [(p, true)] = mks ((R.L ++ [(p, 0)]).drop (min f R.L.length))
      rw [List.drop_append_of_le_length (by omega), mks_app, hf.o]
      congr 1
      rcases hfl with h1 | h1
      · rw [show min f R.L.length = f by omega]
      · rw [show min f R.L.length = R.L.length by omega, List.drop_length, List.drop_of_length_le (by omega)]
    · intro x hx
      have hx' : x ∈ (R.L ++ [(p, 0)]).take (min f R.L.length) := hx
      rw [List.take_append_of_le_length (by omega)] at hx'
      refine hf.h x ?_
      rcases hfl with h1 | h1
      · rwa [show min f R.L.length = f by omega] at hx'
      · rw [show min f R.L.length = R.L.length by omega] at hx'
        rw [List.take_of_length_le (by omega)]
        exact List.mem_of_mem_take hx'
    · intro x hx
      have hx' : x ∈ (R.L ++ [(p, 0)]).drop (min f R.L.length) := hx
      rw [List.drop_append_of_le_length (by omega)] at hx'
      rcases List.mem_append.1 hx' with hx' | hx'
      · rcases hfl with h1 | h1
        · rw [show min f R.L.length = f by omega] at hx'
          exact hf.n x hx'
        · rw [show min f R.L.length = R.L.length by omega, List.drop_length] at hx'
          simp at hx'
      · simp only [List.mem_singleton] at hx'
        subst hx'
        exact .inl rfl
  · refine List.pairwise_append.2 ⟨h.rq, List.pairwise_singleton _ _, fun x hx y hy => ?_⟩
    simp only [List.mem_singleton] at hy
    subst hy
    have h1 := h.at' x hx
    rw [← h.t] at h1
    exact ⟨hmax x hx, by simp only; omega⟩
  · intro x hx
    rcases List.mem_append.1 hx with hx | hx
    · exact h.ok x hx
    · simp only [List.mem_singleton] at hx
      subst hx
      exact hpk
  · intro x hx
    show x.1.a ≤ p.a
    rcases List.mem_append.1 hx with hx | hx
    · have h1 := h.at' x hx
      rw [← h.t] at h1
      omega
    · simp only [List.mem_singleton] at hx
      subst hx
      exact Int.le_refl _
  · refine ⟨h.gv.1.imp id ?_, fun x hx hq => ?_⟩
    · rintro ⟨x, hx, q⟩
      exact ⟨x, List.mem_append_left _ hx, q⟩
    · rcases List.mem_append.1 hx with hx | hx
      · exact h.gv.2 x hx hq
      · simp only [List.mem_singleton] at hx
        subst hx
        simp at hq
  · intro n
    show (∃ t ∈ addT L.T p.n, t.1 ≤ n ∧ n ≤ t.2) ↔ n ∈ List.map (fun x : Pk × Int => x.1.n) (R.L ++ [(p, 0)])
    rw [u3 n, h.tq n, List.map_append, List.mem_append]
    simp
  · show (if p.e = true then p.a else L.d) = (flt (R.L ++ [(p, 0)])).2.2
    rw [flt_snoc, h.d]
    rfl
  · show rlast (R.L ++ [(p, 0)]) = top (addT L.T p.n)
    rw [u6]
    simp [rlast]
/-- States turned, packets as they were. -/
theorem Jt.turn {L L' : Ls} {R R' : Rs} (h : Jt L R) (hf : ∃ f, Jn f R'.L L'.O) (hg : L'.g = R'.g) (ht : L'.t = R'.t) (hle : R.t ≤ R'.t) (hp : R'.L.map (fun x => x.1) = R.L.map fun x => x.1) (hv : Gv R'.g R'.L) (hT : L'.T = L.T) (hd : L'.d = L.d) : Jt L' R' := by
  have key : ∀ {P : Pk → Prop}, (∀ x ∈ R.L, P x.1) → ∀ x ∈ R'.L, P x.1 := by
    intro P hP x hx
    have : x.1 ∈ R.L.map fun x => x.1 := by rw [← hp]; exact List.mem_map.2 ⟨x, hx, rfl⟩
    obtain ⟨y, hy, e⟩ := List.mem_map.1 this
    rw [← e]
    exact hP y hy
  refine ⟨hf, hg, ht, Rq_fst hp.symm h.rq, key h.ok, fun x hx => Int.le_trans (key (P := fun p => p.a ≤ R.t) h.at' x hx) hle, hv, by rw [hT]; exact h.gp, by rw [hT]; exact h.tb, ?_, by rw [hd, h.d]; exact (flt_d hp).symm, ?_⟩
  · intro n
    rw [hT, h.tq n]
    have e : (R.L.map fun x => x.1.n) = R'.L.map fun x => x.1.n := by
      have := congrArg (List.map fun p : Pk => p.n) hp
      rw [List.map_map, List.map_map] at this
      exact this.symm
    rw [e]
  · rw [hT, ← h.tl]
    unfold rlast
    have : (R'.L.getLast?).map (fun x => x.1) = (R.L.getLast?).map fun x => x.1 := by
      rw [← List.getLast?_map, ← List.getLast?_map, hp]
    have h2 := congrArg (fun o : Option Pk => (o.map fun p => p.n).getD (-1)) this
    simpa [Option.map_map, Function.comp_def] using h2
theorem Jt.pass {L : Ls} {R : Rs} (h : Jt L R) (now late : Int) (hn : R.t ≤ now) : Jt (L.pass now late) { R with t := now, L := rlm R.g (now - late) R.L } ∧ (rlt R.g (now - late) R.L).map (fun x => x.1) = L.lost now late ∧ rsp (rlm R.g (now - late) R.L) ((rlt R.g (now - late) R.L).map fun x => x.1) 0 = L.spread now late := by
  obtain ⟨f, hf⟩ := h.f
  refine ⟨h.turn ?_ h.g rfl hn (rlm_fst _ _ _) h.gv.lose rfl rfl, ?_, ?_⟩
  · have := hf.pass h.rq R.g (now - late)
    rw [← h.g] at this
    rw [← h.g]
    exact this
  · rw [hf.lost h.rq, ← h.g]
    rfl
  · rw [hf.spread h.rq (fun x hx => (h.ok x hx).a0), ← h.g]
    rfl
theorem Jt.arr {L : Ls} {R : Rs} (h : Jt L R) (S : List (Int × Int)) (hg0 : -1 ≤ R.g) : Jt (L.arr S) { R with g := rg R.g (ram S R.L), L := ram S R.L } ∧ (rat S R.L).map (fun x => x.1) = L.acked S := by
  obtain ⟨f, hf⟩ := h.f
  obtain ⟨h1, h2⟩ := hf.arr S
  have hr' : Rq (ram S R.L) := Rq_fst (ram_fst S R.L).symm h.rq
  have hn0 : ∀ x ∈ ram S R.L, 0 ≤ x.1.n := by
    intro x hx
    obtain ⟨y, hy, e⟩ := List.mem_map.1 hx
    have : x.1 = y.1 := by rw [← e]; split <;> rfl
    rw [this]
    exact (h.ok y hy).n0
  have gv1 := h.gv.arr S
  have hlow : (∀ x ∈ ram S R.L, x.2 ≠ 1) → R.g = -1 := by
    intro hq
    rcases h.gv.1 with h0 | ⟨x, hx, q1, _⟩
    · exact h0
    · refine absurd q1 (hq x (List.mem_map.2 ⟨x, hx, ?_⟩))
      rw [ra_off (by omega)]
      simp
  have gv2 := rg_is R.g (ram S R.L) hr' hlow
  have hak : L.acked S = (ons L.O).filter (inS S) := ak_all S L.O
  have hm1 : -1 ≤ gq R.g ((rat S R.L).map fun x => x.1) := Int.le_trans hg0 (gq_is _ _).1
  have hm2 : -1 ≤ rg R.g (ram S R.L) := by
    rcases gv2.1 with e | ⟨x, hx, _, e⟩
    · omega
    · have := hn0 x hx; omega
  have heq : gq R.g ((rat S R.L).map fun x => x.1) = rg R.g (ram S R.L) := gv1.uniq gv2 hm1 hm2
  refine ⟨h.turn ⟨f, ?_⟩ ?_ h.t (Int.le_refl _) (ram_fst _ _) gv2 rfl rfl, by rw [h2, hak]⟩
  · show Jn f (ram S R.L) (arO S L.O.length L.O)
    rw [arO_all]
    exact h1
  · show gq L.g (ak S L.O.length L.O) = rg R.g (ram S R.L)
    have : ak S L.O.length L.O = (rat S R.L).map fun x => x.1 := by rw [h2]; exact ak_all S L.O
    rw [this, h.g, heq]
theorem Jt.clr {L : Ls} {R : Rs} (h : Jt L R) : Jt L.clr { R with L := rcl R.L } ∧ (rto R.L).map (fun x => x.1) = ons L.O := by
  obtain ⟨f, hf⟩ := h.f
  have hfst : (rcl R.L).map (fun x => x.1) = R.L.map fun x => x.1 := by
    unfold rcl
    rw [List.map_map]
    refine List.map_congr_left fun x _ => ?_
    simp only [Function.comp]
    split <;> rfl
  refine ⟨h.turn ⟨R.L.length, ?_, ?_, ?_⟩ h.g h.t (Int.le_refl _) hfst ?_ rfl rfl, ?_⟩
  · show [] = mks ((rcl R.L).drop R.L.length)
    rw [List.drop_of_length_le (by rw [rcl_len]; exact Nat.le_refl _)]
    rfl
  · intro x hx
    have hx' : x ∈ rcl R.L := List.mem_of_mem_take hx
    obtain ⟨y, hy, e⟩ := List.mem_map.1 hx'
    by_cases h0 : y.2 = 0
    · rw [if_pos h0] at e
      subst e
      simp
    · rw [if_neg h0] at e
      subst e
      exact h0
  · intro x hx
    have hx' : x ∈ (rcl R.L).drop R.L.length := hx
    rw [List.drop_of_length_le (by rw [rcl_len]; exact Nat.le_refl _)] at hx'
    simp at hx'
  · refine ⟨h.gv.1.imp id ?_, fun x hx hq => ?_⟩
    · rintro ⟨x, hx, q1, q2⟩
      refine ⟨x, List.mem_map.2 ⟨x, hx, ?_⟩, q1, q2⟩
      rw [if_neg (by omega)]
    · obtain ⟨y, hy, e⟩ := List.mem_map.1 hx
      by_cases h0 : y.2 = 0
      · rw [if_pos h0] at e
        subst e
        simp at hq
      · rw [if_neg h0] at e
        subst e
        exact h.gv.2 y hy hq
  · rw [hf.on]
    unfold rto ons mks
    rw [List.filter_map, List.map_map]
    rfl
end Go.Proofs.Ytkjcapmhjhnckaa
