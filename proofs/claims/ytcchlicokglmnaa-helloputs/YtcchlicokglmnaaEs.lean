/- What the putter lays, and what the reference lays, are the same. -/
import Derived.Test.YtcchlicokglmnaaRc
namespace Go.Proofs.Ytcchlicokglmnaa
open Go.ChangeShapes Go.WideShapes Go.ChangeAt Go.RowKit Go.Lib
set_option linter.unusedVariables false

def encS (S : ByteArray) : List UInt8 := [UInt8.ofNat S.size] ++ S.data.toList
def encL (l : List UInt8) : List UInt8 := [UInt8.ofNat (l.length / 256), UInt8.ofNat l.length] ++ l
theorem be1 (n : Nat) (h : n < 18446744073709551616) : be 1 (uN (n : Int)) = [UInt8.ofNat n] := by rw [uN_nat n h]; simp [be]
theorem be2 (n : Nat) (h : n < 18446744073709551616) : be 2 (uN (n : Int)) = [UInt8.ofNat (n / 256), UInt8.ofNat n] := by rw [uN_nat n h]; simp [be]
theorem stp_ok {least : Int} {X : List UInt8} {S : ByteArray} (h : least ≤ (S.size : Int) ∧ (S.size : Int) ≤ 255) : stp least (X, false) S = (X ++ encS S, false) := by
  have : decide (least ≤ (S.size : Int) ∧ (S.size : Int) ≤ 255) = true := decide_eq_true h
  unfold stp
  simp only [this]
  rw [be1 _ (by omega)]
  simp [encS]
theorem stp_bad {least : Int} {a : St} {S : ByteArray} (h : a.2 = true ∨ ¬ (least ≤ (S.size : Int) ∧ (S.size : Int) ≤ 255)) : (stp least a S).2 = true := by
  unfold stp
  rcases h with h | h
  · simp [h]
  · have : decide (least ≤ (S.size : Int) ∧ (S.size : Int) ≤ 255) = false := decide_eq_false h
    simp only [this]; simp
theorem nm_iff (S : ByteArray) : nmB S = true ↔ ((1 : Int) ≤ (S.size : Int) ∧ (S.size : Int) ≤ 255) := by unfold nmB; rw [decide_eq_true_eq]; omega
theorem prs_ok : ∀ (Ns : List ByteArray) (X : List UInt8), Ns.all nmB = true → prs (X, false) Ns = (X ++ Ns.flatMap encS, false) := by
  intro Ns
  induction Ns with
  | nil => intro X _; simp [prs]
  | cons S t ih =>
    intro X h
    simp only [List.all_cons, Bool.and_eq_true] at h
    have e : prs (X, false) (S :: t) = prs (stp 1 (X, false) S) t := rfl
    rw [e, stp_ok ((nm_iff S).1 h.1), ih _ h.2]
    simp
theorem prs_true : ∀ (Ns : List ByteArray) (a : St), a.2 = true → (prs a Ns).2 = true := by
  intro Ns
  induction Ns with
  | nil => intro a h; exact h
  | cons S t ih => intro a h; exact ih _ (stp_bad (.inl h))
theorem prs_bad : ∀ (Ns : List ByteArray) (X : List UInt8), Ns.all nmB = false → (prs (X, false) Ns).2 = true := by
  intro Ns
  induction Ns with
  | nil => intro X h; simp at h
  | cons S t ih =>
    intro X h
    have e : prs (X, false) (S :: t) = prs (stp 1 (X, false) S) t := rfl
    rw [e]
    by_cases hs : nmB S = true
    · rw [stp_ok ((nm_iff S).1 hs)]
      exact ih _ (by simpa [hs] using h)
    · exact prs_true _ _ (stp_bad (.inr fun hh => hs ((nm_iff S).2 hh)))
theorem aL_ok {l X : List UInt8} {least most : Int} (h : least ≤ (l.length : Int) ∧ (l.length : Int) ≤ most) (hm : most ≤ 5000) : aL l least most (X, false) = (X ++ encL l, false) := by
  have : decide (least ≤ (l.length : Int) ∧ (l.length : Int) ≤ most) = true := decide_eq_true h
  unfold aL
  simp only [this]
  rw [be2 _ (by omega)]
  simp [encL]
theorem aL_bad {l : List UInt8} {least most : Int} {a : St} (h : a.2 = true ∨ ¬ (least ≤ (l.length : Int) ∧ (l.length : Int) ≤ most)) : (aL l least most a).2 = true := by
  unfold aL
  rcases h with h | h
  · simp [h]
  · have : decide (least ≤ (l.length : Int) ∧ (l.length : Int) ≤ most) = false := decide_eq_false h
    simp only [this]; simp
theorem aN_ok {n : Nat} {x least most : Int} {X : List UInt8} (h : least ≤ x ∧ x ≤ most) : aN n x least most (X, false) = (X ++ be n (uN x), false) := by
  have : decide (least ≤ x ∧ x ≤ most) = true := decide_eq_true h
  unfold aN; simp only [this]; rfl
theorem aN_bad {n : Nat} {x least most : Int} {a : St} (h : a.2 = true ∨ ¬ (least ≤ x ∧ x ≤ most)) : (aN n x least most a).2 = true := by
  unfold aN
  rcases h with h | h
  · simp [h]
  · have : decide (least ≤ x ∧ x ≤ most) = false := decide_eq_false h
    simp only [this]; simp
theorem aP_ok {Ns : List ByteArray} {count : Int} {X : List UInt8} (h : (Ns.length : Int) = count) (ha : Ns.all nmB = true) : aP Ns count (X, false) = (X ++ Ns.flatMap encS, false) := by
  have : decide ((Ns.length : Int) = count) = true := decide_eq_true h
  unfold aP
  simp only [this, prs_ok Ns X ha]
  rfl
theorem aP_bad {Ns : List ByteArray} {count : Int} {a : St} (h : a.2 = true ∨ ¬ (Ns.length : Int) = count ∨ Ns.all nmB = false) : (aP Ns count a).2 = true := by
  obtain ⟨X, r⟩ := a
  unfold aP
  by_cases hc : (r || !(decide ((Ns.length : Int) = count))) = true
  · simp only [hc, if_true]
  · have hc' : (r || !(decide ((Ns.length : Int) = count))) = false := by simpa using hc
    simp only [hc']
    simp only [Bool.or_eq_false_iff, Bool.not_eq_false', decide_eq_true_eq] at hc'
    rcases h with h | h | h
    · simp only at h; rw [hc'.1] at h; cases h
    · exact absurd hc'.2 h
    · exact prs_bad Ns X h
theorem aF_2 (n : Nat) (a : St) : (aF n a).2 = a.2 := rfl
theorem aH_2 (h : List (List UInt8)) (a : St) : (aH h a).2 = a.2 := rfl
/-- The client's bytes ahead of its ticket. -/
def cliL (m : Msg) : List UInt8 := m.random ++ m.share ++ encS m.name ++ [UInt8.ofNat m.protos.length] ++ m.protos.flatMap encS ++ encL m.params ++ [UInt8.ofNat (bitN (decide (0 < m.ticket.length)) 1 + bitN m.early 2)]
theorem pro_iff (Ns : List ByteArray) (most : Int) : proB Ns most = true ↔ (Ns.all nmB = true ∧ 1 ≤ Ns.length ∧ (Ns.length : Int) ≤ most) := by
  simp only [proB, Bool.and_eq_true, decide_eq_true_eq]; exact ⟨fun h => ⟨h.1.1, h.1.2, h.2⟩, fun h => ⟨⟨h.1, h.2.1⟩, h.2.2⟩⟩
theorem body1 (m : Msg) (hk : m.kind = 1) (hm : mayB m = true) : bodyS m = (if 0 < m.ticket.length then cliL m ++ encL m.ticket ++ m.binder else cliL m, false) := by
  unfold mayB at hm
  rw [if_pos hk] at hm
  simp only [Bool.and_eq_true, decide_eq_true_eq, pro_iff, Bool.or_eq_true] at hm
  obtain ⟨h1, ⟨h2, h3, h4⟩, h5, h6, h7⟩ := hm
  unfold bodyS
  rw [if_pos hk]
  have e1 : aH [m.random, m.share] ([], false) = (m.random ++ m.share, false) := by simp [aH]
  have e3 : be 1 (uN (m.protos.length : Int)) = [UInt8.ofNat m.protos.length] := be1 _ (by omega)
  rw [e1, stp_ok (by omega), aN_ok (by omega), e3, aP_ok rfl h2, aL_ok (by omega) (by decide)]
  have e4 : aF (bitN (decide (0 < m.ticket.length)) 1 + bitN m.early 2) (m.random ++ m.share ++ encS m.name ++ [UInt8.ofNat m.protos.length] ++ m.protos.flatMap encS ++ encL m.params, false) = (cliL m, false) := rfl
  simp only
  rw [e4]
  by_cases ht : 0 < m.ticket.length
  · rw [if_pos ht, if_pos ht, aL_ok (by omega) (by decide)]
    simp [aH]
  · rw [if_neg ht, if_neg ht]
    have : (!m.early && (m.binder == z16)) = true := by
      rcases h7 with h7 | h7
      · exact absurd h7 ht
      · simpa using h7
    simp [aM, this]
theorem body1_bad (m : Msg) (hk : m.kind = 1) (hm : mayB m = false) : (bodyS m).2 = true := by
  apply Classical.byContradiction
  intro hn
  have hn' : (bodyS m).2 = false := by simpa using hn
  unfold bodyS at hn'
  rw [if_pos hk] at hn'
  simp only at hn'
  apply absurd hm
  rw [Bool.not_eq_false]
  unfold mayB
  rw [if_pos hk]
  simp only [Bool.and_eq_true, decide_eq_true_eq, pro_iff, Bool.or_eq_true]
  have key : ∀ b : Bool, b = false → ¬ b = true := fun b h => by simp [h]
  have hpre : (aL m.params 0 4096 (aP m.protos m.protos.length (aN 1 m.protos.length 1 8 (stp 0 (aH [m.random, m.share] ([], false)) m.name)))).2 = false := by
    by_cases ht : 0 < m.ticket.length
    · rw [if_pos ht, aH_2] at hn'
      by_cases hh : (aL m.params 0 4096 (aP m.protos m.protos.length (aN 1 m.protos.length 1 8 (stp 0 (aH [m.random, m.share] ([], false)) m.name)))).2 = true
      · rw [aL_bad (.inl (by rw [aF_2]; exact hh))] at hn'; cases hn'
      · simpa using hh
    · rw [if_neg ht] at hn'
      simp only [aM, Bool.or_eq_false_iff] at hn'
      exact hn'.1
  have p1 : (m.name.size : Int) ≤ 255 := by
    apply Classical.byContradiction
    intro h
    exact key _ hpre (aL_bad (.inl (aP_bad (.inl (aN_bad (.inl (stp_bad (.inr (by omega)))))))))
  have p2 : m.protos.all nmB = true := by
    apply Classical.byContradiction
    intro h
    exact key _ hpre (aL_bad (.inl (aP_bad (.inr (.inr (by simpa using h))))))
  have p3 : 1 ≤ (m.protos.length : Int) ∧ (m.protos.length : Int) ≤ 8 := by
    apply Classical.byContradiction
    intro h
    exact key _ hpre (aL_bad (.inl (aP_bad (.inl (aN_bad (.inr h))))))
  have p4 : (m.params.length : Int) ≤ 4096 := by
    apply Classical.byContradiction
    intro h
    exact key _ hpre (aL_bad (.inr (by omega)))
  refine ⟨by omega, ⟨p2, by omega, by omega⟩, by omega, ?_⟩
  by_cases ht : 0 < m.ticket.length
  · rw [if_pos ht, aH_2] at hn'
    have : (m.ticket.length : Int) ≤ 512 := by
      apply Classical.byContradiction
      intro h
      exact key _ hn' (aL_bad (.inr (by omega)))
    exact ⟨by omega, .inl ht⟩
  · rw [if_neg ht] at hn'
    simp only [aM, Bool.or_eq_false_iff] at hn'
    refine ⟨by omega, .inr ?_⟩
    have := hn'.2
    revert this
    cases m.early <;> cases (m.binder == z16) <;> simp
theorem body8 (m : Msg) (hk : m.kind = 8) : (mayB m = true → ∃ S, m.protos = [S] ∧ bodyS m = (encS S ++ encL m.params ++ [UInt8.ofNat (bitN m.early 1)], false)) ∧ (mayB m = false → (bodyS m).2 = true) := by
  have e1 : mayB m = (proB m.protos 1 && decide (m.params.length ≤ 4096)) := by simp [mayB, hk]
  have e2 : bodyS m = aF (bitN m.early 1) (aL m.params 0 4096 (aP m.protos 1 ([], false))) := by simp [bodyS, hk]
  rw [e1, e2]
  constructor
  · intro h
    simp only [Bool.and_eq_true, decide_eq_true_eq, pro_iff] at h
    obtain ⟨⟨h1, h2, h3⟩, h4⟩ := h
    obtain ⟨S, hS⟩ : ∃ S, m.protos = [S] := List.length_eq_one_iff.1 (by omega)
    refine ⟨S, hS, ?_⟩
    rw [aP_ok (by omega) h1, aL_ok (by omega) (by decide), hS]
    simp [aF]
  · intro h
    rw [aF_2]
    by_cases hp : (m.params.length : Int) ≤ 4096
    · apply aL_bad (.inl (aP_bad (.inr ?_)))
      by_cases hl : (m.protos.length : Int) = 1
      · right
        apply Classical.byContradiction
        intro ha
        have ha' : m.protos.all nmB = true := by simpa using ha
        have : proB m.protos 1 = true := (pro_iff _ _).2 ⟨ha', by omega, by omega⟩
        simp [this] at h
        omega
      · exact .inl hl
    · exact aL_bad (.inr (by omega))
theorem body11 (m : Msg) (hk : m.kind = 11) : (mayB m = true → bodyS m = (encS m.name ++ m.mark, false)) ∧ (mayB m = false → (bodyS m).2 = true) := by
  have e1 : mayB m = decide (m.name.size ≤ 255) := by simp [mayB, hk]
  have e2 : bodyS m = aH [m.mark] (stp 0 ([], false) m.name) := by simp [bodyS, hk]
  rw [e1, e2]
  constructor
  · intro h
    have := of_decide_eq_true h
    rw [stp_ok (by omega)]
    simp [aH]
  · intro h
    have := of_decide_eq_false h
    rw [aH_2]
    exact stp_bad (.inr (by omega))
theorem body4 (m : Msg) (hk : m.kind = 4) : (mayB m = true → 0 ≤ m.life ∧ m.life ≤ 4294967295 ∧ m.ticket.length ≤ 512 ∧ bodyS m = (be 4 (uN m.life) ++ encL m.ticket ++ [UInt8.ofNat (bitN m.early 1)], false)) ∧ (mayB m = false → (bodyS m).2 = true) := by
  have e1 : mayB m = (decide (0 ≤ m.life) && (decide (m.life ≤ 4294967295) && (decide (1 ≤ m.ticket.length) && decide (m.ticket.length ≤ 512)))) := by simp [mayB, hk]
  have e2 : bodyS m = aF (bitN m.early 1) (aL m.ticket 1 512 (aN 4 m.life 0 4294967295 ([], false))) := by simp [bodyS, hk]
  rw [e1, e2]
  constructor
  · intro h
    simp only [Bool.and_eq_true, decide_eq_true_eq] at h
    obtain ⟨h1, h2, h3, h4⟩ := h
    refine ⟨h1, h2, h4, ?_⟩
    rw [aN_ok ⟨h1, h2⟩, aL_ok (by omega) (by decide)]
    simp [aF]
  · intro h
    rw [aF_2]
    by_cases hl : 0 ≤ m.life ∧ m.life ≤ 4294967295
    · refine aL_bad (.inr fun ht => ?_)
      have : (decide (0 ≤ m.life) && (decide (m.life ≤ 4294967295) && (decide (1 ≤ m.ticket.length) && decide (m.ticket.length ≤ 512)))) = true := by
        simp only [Bool.and_eq_true, decide_eq_true_eq]; exact ⟨hl.1, hl.2, by omega, by omega⟩
      rw [this] at h; cases h
    · exact aL_bad (.inl (aN_bad (.inr hl)))
theorem body2 (m : Msg) (hk : m.kind = 2) : mayB m = true ∧ bodyS m = (m.random ++ m.share ++ [UInt8.ofNat (bitN m.again 1)], false) := by simp [mayB, bodyS, hk, aF, aH]
theorem body15 (m : Msg) (hk : m.kind = 15 ∨ m.kind = 20) : mayB m = true ∧ bodyS m = (m.mark, false) := by rcases hk with hk | hk <;> simp [mayB, bodyS, hk, aH]
theorem may_iff (m : Msg) (hk : isK m.kind = true) : (bodyS m).2 = !(mayB m) := by
  rcases of_decide_eq_true hk with hk | hk | hk | hk | hk | hk | hk
  · cases h : mayB m
    · exact body1_bad m hk h
    · rw [body1 m hk h]; rfl
  · rw [(body2 m hk).1, (body2 m hk).2]; rfl
  · cases h : mayB m
    · exact (body8 m hk).2 h
    · obtain ⟨S, _, e⟩ := (body8 m hk).1 h; rw [e]; rfl
  · cases h : mayB m
    · exact (body11 m hk).2 h
    · rw [(body11 m hk).1 h]; rfl
  · rw [(body15 m (.inl hk)).1, (body15 m (.inl hk)).2]; rfl
  · rw [(body15 m (.inr hk)).1, (body15 m (.inr hk)).2]; rfl
  · cases h : mayB m
    · exact (body4 m hk).2 h
    · rw [((body4 m hk).1 h).2.2.2]; rfl
end Go.Proofs.Ytcchlicokglmnaa
