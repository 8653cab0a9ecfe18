/- What is laid is read again: a body. -/
import Derived.Test.YtcchlicokglmnaaBc
namespace Go.Proofs.Ytcchlicokglmnaa
open Go.ChangeShapes Go.WideShapes Go.ChangeAt Go.RowKit Go.Lib
set_option linter.unusedVariables false

section
variable {L : List UInt8} {a : St} {m : Msg}
theorem pre_aH (hs : List (List UInt8)) : a.1 <+: (aH hs a).1 := List.prefix_append _ _
theorem pre_aF (n : Nat) : a.1 <+: (aF n a).1 := List.prefix_append _ _
theorem pre_aN (n : Nat) (x l q : Int) : a.1 <+: (aN n x l q a).1 := List.prefix_append _ _
theorem pre_aL (l : List UInt8) (p q : Int) : a.1 <+: (aL l p q a).1 := by unfold aL; rw [List.append_assoc]; exact List.prefix_append _ _
theorem pre_stp (p : Int) (S : ByteArray) : a.1 <+: (stp p a S).1 := by unfold stp; rw [List.append_assoc]; exact List.prefix_append _ _
theorem bit_le1 (b : Bool) : bitN b 1 ≤ 1 := by cases b <;> decide
theorem bit_le3 (b c : Bool) : bitN b 1 + bitN c 2 ≤ 3 := by cases b <;> cases c <;> decide
theorem two_h (hl : m.len) (h : (aH [m.random, m.share] ([], false)).1 <+: L) : (dT L 16 (dT L 16 (false, 0)).1).1 = (false, (aH [m.random, m.share] ([], false)).1.length) := by
  rw [aH_two] at h ⊢
  have e1 := A_H (L := L) (a := ([], false)) hl.r ((pre_aH [m.share]).trans h)
  have e1' : dT L 16 (false, 0) = _ := e1
  rw [e1', A_H hl.s h]
theorem rr2 (hk : m.kind = 2) (hl : m.len) (ho : (bodyS m).2 = false) : (rd 2 (bodyS m).1 (false, 0)).1 = (false, (bodyS m).1.length) := by
  have e : bodyS m = aF (bitN m.again 1) (aH [m.random, m.share] ([], false)) := by unfold bodyS; simp [hk]
  rw [e]
  show (dN _ 1 0 1 (dT _ 16 (dT _ 16 (false, 0)).1).1).1 = _
  have hb := bit_le1 m.again
  rw [two_h hl (pre_aF _), A_F (by omega) (by omega) List.prefix_rfl]
theorem rr8 (hk : m.kind = 8) (ho : (bodyS m).2 = false) : (rd 8 (bodyS m).1 (false, 0)).1 = (false, (bodyS m).1.length) := by
  have e : bodyS m = aF (bitN m.early 1) (aL m.params 0 4096 (aP m.protos 1 ([], false))) := by unfold bodyS; simp [hk]
  rw [e] at ho ⊢
  have h2 : (aL m.params 0 4096 (aP m.protos 1 ([], false))).2 = false := ho
  have h1 := (aL_ok (by decide) h2).1
  have hc : (m.protos.length : Int) = 1 := by
    unfold aP at h1
    by_cases hd : (m.protos.length : Int) = 1
    · exact hd
    · simp [hd] at h1
  rw [aP_eq rfl hc] at h1 h2 ⊢
  show (dN _ 1 0 1 (dL _ 0 4096 (dPs _ 1 (false, 0) []).1).1).1 = _
  have hb := bit_le1 m.early
  have p2 : (aL m.params 0 4096 (prs ([], false) m.protos)).1 <+: (aF (bitN m.early 1) (aL m.params 0 4096 (prs ([], false) m.protos))).1 := pre_aF _
  have e1 := A_P m.protos [] h1 ((pre_aL _ _ _).trans p2)
  have hn : m.protos.length = 1 := by omega
  rw [hn] at e1
  have e1' : dPs _ 1 (false, 0) [] = _ := e1
  rw [e1', A_L (by decide) h2 p2, A_F (by omega) (by omega) List.prefix_rfl]
theorem rr11 (hk : m.kind = 11) (hl : m.len) (ho : (bodyS m).2 = false) : (rd 11 (bodyS m).1 (false, 0)).1 = (false, (bodyS m).1.length) := by
  have e : bodyS m = aH [m.mark] (stp 0 ([], false) m.name) := by unfold bodyS; simp [hk]
  rw [e] at ho ⊢
  show (dT _ 16 (dS _ 0 (false, 0)).1).1 = _
  have e1 : dS (aH [m.mark] (stp 0 ([], false) m.name)).1 0 (false, 0) = _ := A_S (a := ([], false)) (S := m.name) (least := 0) ho (pre_aH _)
  rw [e1, A_H hl.k List.prefix_rfl]
theorem rr4 (hk : m.kind = 4) (ho : (bodyS m).2 = false) : (rd 4 (bodyS m).1 (false, 0)).1 = (false, (bodyS m).1.length) := by
  have e : bodyS m = aF (bitN m.early 1) (aL m.ticket 1 512 (aN 4 m.life 0 4294967295 ([], false))) := by unfold bodyS; simp [hk]
  rw [e] at ho ⊢
  have h2 : (aL m.ticket 1 512 (aN 4 m.life 0 4294967295 ([], false))).2 = false := ho
  have h1 := (aL_ok (by decide) h2).1
  show (dN _ 1 0 1 (dL _ 1 512 (dN _ 4 0 4294967295 (false, 0)).1).1).1 = _
  have hb := bit_le1 m.early
  have p2 : (aL m.ticket 1 512 (aN 4 m.life 0 4294967295 ([], false))).1 <+: (aF (bitN m.early 1) (aL m.ticket 1 512 (aN 4 m.life 0 4294967295 ([], false)))).1 := pre_aF _
  have e1 := (A_aN h1 (by decide) (by decide) (by decide) ((pre_aL _ _ _).trans p2)).1
  have e1' : dN _ 4 0 4294967295 (false, 0) = _ := e1
  rw [e1', A_L (by decide) h2 p2, A_F (by omega) (by omega) List.prefix_rfl]
theorem rr_mark (hk : m.kind = 15 ∨ m.kind = 20) (hl : m.len) : (rd m.kind (bodyS m).1 (false, 0)).1 = (false, (bodyS m).1.length) := by
  have e : bodyS m = aH [m.mark] ([], false) := by unfold bodyS; rcases hk with hk | hk <;> simp [hk]
  have e0 : ∀ L, (rd m.kind L (false, 0)).1 = (dT L 16 (false, 0)).1 := by intro L; rcases hk with hk | hk <;> rw [hk] <;> rfl
  rw [e0, e]
  have e1 : dT (aH [m.mark] ([], false)).1 16 (false, 0) = _ := A_H (a := ([], false)) hl.k List.prefix_rfl
  rw [e1]
theorem rr1 (hk : m.kind = 1) (hl : m.len) (ho : (bodyS m).2 = false) : (rd 1 (bodyS m).1 (false, 0)).1 = (false, (bodyS m).1.length) := by
  obtain ⟨s2, e2⟩ : ∃ s2, aH [m.random, m.share] ([], false) = s2 := ⟨_, rfl⟩
  obtain ⟨s3, e3⟩ : ∃ s3, stp 0 s2 m.name = s3 := ⟨_, rfl⟩
  obtain ⟨s4, e4⟩ : ∃ s4, aN 1 m.protos.length 1 8 s3 = s4 := ⟨_, rfl⟩
  obtain ⟨s5, e5⟩ : ∃ s5, aP m.protos m.protos.length s4 = s5 := ⟨_, rfl⟩
  obtain ⟨s6, e6⟩ : ∃ s6, aL m.params 0 4096 s5 = s6 := ⟨_, rfl⟩
  obtain ⟨f, ef⟩ : ∃ f, bitN (decide (0 < m.ticket.length)) 1 + bitN m.early 2 = f := ⟨_, rfl⟩
  obtain ⟨s7, e7⟩ : ∃ s7, aF f s6 = s7 := ⟨_, rfl⟩
  have hf : f ≤ 3 := by rw [← ef]; exact bit_le3 _ _
  have e : bodyS m = if 0 < m.ticket.length then aH [m.binder] (aL m.ticket 1 512 s7) else aM (!m.early && (m.binder == z16)) s7 := by
    unfold bodyS; rw [if_pos hk]; simp only [e2, e3, e4, e5, e6, ef, e7]
  have base : ∀ L, s7.1 <+: L → s7.2 = false → ck6 L (false, 0) = ((false, s7.1.length), f) := by
    intro L hp h7
    have h6 : (aL m.params 0 4096 s5).2 = false := by rw [e6]; rw [← e7] at h7; exact h7
    have h5 := (aL_ok (by decide) h6).1
    have h4 : s4.2 = false := by
      rw [← e5] at h5; unfold aP at h5
      cases h : s4.2
      · rfl
      · rw [h] at h5; simp at h5
    have e5' : prs s4 m.protos = s5 := by rw [← e5, aP_eq h4 rfl]
    have p6 : (aL m.params 0 4096 s5).1 <+: L := by rw [e6]; rw [← e7] at hp; exact (pre_aF _).trans hp
    have p5 : (prs s4 m.protos).1 <+: L := by rw [e5']; exact (pre_aL _ _ _).trans p6
    have h5' : (prs s4 m.protos).2 = false := by rw [e5']; exact h5
    have p4 : (aN 1 m.protos.length 1 8 s3).1 <+: L := by rw [e4]; exact (prs_ok _ h5').2.trans p5
    obtain ⟨q4, h3⟩ := A_aN (by rw [e4]; exact h4) (by decide) (by decide) (by decide) p4
    have p3 : (stp 0 s2 m.name).1 <+: L := by rw [e3]; exact (pre_aN _ _ _ _).trans p4
    have q3 := A_S (by rw [e3]; exact h3) p3
    have q2 := two_h (L := L) hl (by rw [e2]; exact (pre_stp _ _).trans p3)
    rw [e2] at q2
    rw [e3] at q3
    rw [e4] at q4
    have q5 := A_P m.protos [] h5' p5
    rw [e5'] at q5
    have q6 := A_L (by decide) h6 p6
    rw [e6] at q6
    have q7 := A_F (a := s6) (n := f) (most := 3) (by omega) (by omega) (by rw [e7]; exact hp)
    rw [e7] at q7
    have hpn : ((m.protos.length : Int)).toNat = m.protos.length := by simp
    rw [hpn] at q4
    unfold ck6 ck5 ck4 ck3 ck2 ck1
    rw [q2, q3, q4, q5, q6, q7]
  by_cases ht : 0 < m.ticket.length
  · rw [if_pos ht] at e
    rw [e] at ho ⊢
    have h8 : (aL m.ticket 1 512 s7).2 = false := ho
    have h7 := (aL_ok (by decide) h8).1
    have p8 : (aL m.ticket 1 512 s7).1 <+: (aH [m.binder] (aL m.ticket 1 512 s7)).1 := pre_aH _
    have b := base _ ((pre_aL _ _ _).trans p8) h7
    have hf1 : f % 2 = 1 := by rw [← ef, decide_eq_true ht]; cases m.early <;> decide
    unfold rd
    rw [if_pos rfl, if_pos (by rw [b]; exact hf1)]
    show (dT _ 16 (dL _ 1 512 (ck6 _ (false, 0)).1).1).1 = _
    rw [b, A_L (by decide) h8 p8, A_H hl.b List.prefix_rfl]
  · rw [if_neg ht] at e
    rw [e] at ho ⊢
    have ho' : (s7.2 || !(!m.early && (m.binder == z16))) = false := ho
    have h7 : s7.2 = false := by revert ho'; cases s7.2 <;> simp
    have hE : m.early = false := by revert ho'; cases m.early <;> simp
    have hf0 : f = 0 := by rw [← ef, hE, decide_eq_false ht]; rfl
    have b := base (aM (!m.early && (m.binder == z16)) s7).1 List.prefix_rfl h7
    unfold rd
    rw [if_pos rfl, if_neg (by rw [b, hf0]; simp)]
    have hck : ckE (aM (!m.early && (m.binder == z16)) s7).1 (false, 0) = false := by unfold ckE; rw [b, hf0]; simp
    have hz : ((m0 1).binder == z16) = true := by decide
    simp only [hck, hz, b]
    rfl
/-- What is laid is read again. -/
theorem rd_reads (hk : isK m.kind = true) (hl : m.len) (ho : (bodyS m).2 = false) : (rd m.kind (bodyS m).1 (false, 0)).1 = (false, (bodyS m).1.length) := by
  rcases of_decide_eq_true hk with h | h | h | h | h | h | h
  · rw [h]; exact rr1 h hl ho
  · rw [h]; exact rr2 h hl ho
  · rw [h]; exact rr8 h ho
  · rw [h]; exact rr11 h hl ho
  · exact rr_mark (.inl h) hl
  · exact rr_mark (.inr h) hl
  · rw [h]; exact rr4 h ho
end
end Go.Proofs.Ytcchlicokglmnaa
