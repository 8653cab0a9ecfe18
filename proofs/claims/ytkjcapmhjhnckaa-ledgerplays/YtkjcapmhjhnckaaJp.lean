/- LedgerPlays: what is wrong with an acknowledgement, and its sample, are the same. -/
import Derived.Test.YtkjcapmhjhnckaaJo
namespace Go.Proofs.Ytkjcapmhjhnckaa
open Go.RowKit Go.Maps Go.Shelf
set_option linter.unusedVariables false

def hvQ (S : List (Int × Int)) (Q : List (Pk × Int)) : Bool := S.all fun s => decide ((cnt s.1 s.2 Q : Int) = s.2 - s.1 + 1)
/-- What is wrong with an acknowledgement. -/
def rwa (R : Rs) (S : List (Int × Int)) (now late : Int) : Int := if ¬ (0 ≤ now ∧ now ≤ 1125899906842624) ∨ ¬ (0 ≤ late ∧ late ≤ 1125899906842624) ∨ aa S = false then 2 else if now < R.t then 42 else if hvQ S R.L = false then 11 else 0
theorem okS_all {m : Int} {S : List (Int × Int)} (h : okS m S = true) : ∀ s ∈ S, s.1 ≤ s.2 ∧ s.2 ≤ m ∧ 0 ≤ s.1 := by
  induction S generalizing m with
  | nil => intro s hs; simp at hs
  | cons x t ih =>
    unfold okS at h
    split at h
    · cases h
    · rename_i hc
      intro s hs
      rcases List.mem_cons.1 hs with rfl | hs
      · omega
      · have := ih h s hs; omega
theorem aa_all {S : List (Int × Int)} (h : aa S = true) : ∀ s ∈ S, s.1 ≤ s.2 ∧ s.2 ≤ 4611686018427387903 ∧ 0 ≤ s.1 := by
  simp only [aa, Bool.and_eq_true] at h
  exact okS_all h.2
theorem aa_hi {S : List (Int × Int)} (h : aa S = true) : ∀ s ∈ S, s.2 ≤ hi S := by
  simp only [aa, Bool.and_eq_true] at h
  cases S with
  | nil => intro s hs; simp at hs
  | cons x t =>
    have h2 := h.2
    unfold okS at h2
    split at h2
    · cases h2
    · rename_i hc
      intro s hs
      show s.2 ≤ x.2
      rcases List.mem_cons.1 hs with rfl | hs
      · exact Int.le_refl _
      · have := okS_all h2 s hs; omega
theorem Jt.have' {L : Ls} {R : Rs} (h : Jt L R) {S : List (Int × Int)} (hS : aa S = true) : hvQ S R.L = hvT L.T S := by
  rw [Bool.eq_iff_iff]
  unfold hvQ hvT
  rw [List.all_eq_true, List.all_eq_true]
  refine forall_congr' fun s => forall_congr' fun hs => ?_
  rw [decide_eq_true_eq]
  exact (hv_cnt h.gp h.tb h.tq h.rq s (aa_all hS s hs).1).symm
theorem Jt.wra {L : Ls} {R : Rs} (h : Jt L R) (S : List (Int × Int)) (now late : Int) : rwa R S now late = wra L S now late := by
  unfold rwa Go.Proofs.Ytkjcapmhjhnckaa.wra wrg
  rw [h.t]
  by_cases h1 : ¬ (0 ≤ now ∧ now ≤ 1125899906842624) ∨ ¬ (0 ≤ late ∧ late ≤ 1125899906842624) ∨ aa S = false
  · simp only [if_pos h1]
    simp
  · simp only [if_neg h1]
    by_cases h2 : now < R.t
    · simp only [if_pos h2]
      simp
    · simp only [if_neg h2]
      have hS : aa S = true := by
        cases hq : aa S with
        | true => rfl
        | false => exact absurd (.inr (.inr hq)) h1
      rw [h.have' hS]
      simp
theorem ons_rise {O : List (Pk × Bool)} (h : Rise O) : (ons O).Pairwise fun x y => x.n < y.n := by
  unfold ons
  rw [List.pairwise_map]
  exact h.sublist List.filter_sublist
theorem Jt.sample {L : Ls} {R : Rs} (h : Jt L R) (hr : Rise L.O) {S : List (Int × Int)} (hS : aa S = true) (now : Int) : (if ((L.acked S).any fun p => p.e) = true then tks (hi S) now (L.acked S) else -1) = smp (L.acked S) (hi S) now := by
  have hak : L.acked S = (ons L.O).filter (inS S) := ak_all S L.O
  refine (smp_is _ ?_ _ _ ?_).symm
  · rw [hak]
    exact (ons_rise hr).sublist List.filter_sublist
  · intro p hp
    rw [hak] at hp
    have h1 := (List.mem_filter.1 hp).2
    simp only [inS, List.any_eq_true, Bool.and_eq_true, decide_eq_true_eq] at h1
    obtain ⟨s, hs, _, h2⟩ := h1
    have := aa_hi hS s hs
    omega
end Go.Proofs.Ytkjcapmhjhnckaa
