/- The reference's reading of a body and the program's come to the same. A body read by the reference, of any kind. A body read by the reference: the kinds 8, 4 and 1. -/
import Derived.Test.YtcchlicokglmnaaQd
import Derived.Test.YtcchlicokglmnaaIv
import Derived.Test.YtcchlicokglmnaaRd
namespace Go.Proofs.Ytcchlicokglmnaa
open Go.ChangeShapes Go.WideShapes Go.ChangeAt Go.RowKit Go.Lib
set_option linter.unusedVariables false

section
variable {L : List UInt8} {n : Nat} {s : Sd}
theorem rT_yes (h : s.1 = false) (hn : s.2 + n ≤ L.length) : rT L n s = ((false, s.2 + n), sub L s.2 n) := by unfold rT; rw [if_neg (by simp [h]; omega)]
theorem rT_no (h : ¬ (s.1 = false ∧ s.2 + n ≤ L.length)) : rT L n s = ((true, s.2), List.replicate n 0) := by
  unfold rT; rw [if_pos]
  by_cases h1 : s.1 = false
  · exact .inr (Nat.lt_of_not_le fun h2 => h ⟨h1, h2⟩)
  · exact .inl (by simpa using h1)
theorem dT_yes (h : s.1 = false) (hn : s.2 + n ≤ L.length) : dT L n s = ((false, s.2 + n), sub L s.2 n) := by unfold dT; simp [h, hn]
theorem dT_no (h : ¬ (s.1 = false ∧ s.2 + n ≤ L.length)) : dT L n s = ((true, s.2), []) := by
  unfold dT
  by_cases h1 : s.1 = false
  · have : ¬ s.2 + n ≤ L.length := fun h2 => h ⟨h1, h2⟩
    simp [h1, this]
  · have : s.1 = true := by simpa using h1
    simp [this]
theorem rT_st : (rT L n s).1.1 = false ↔ s.1 = false ∧ s.2 + n ≤ L.length := by
  by_cases h : s.1 = false ∧ s.2 + n ≤ L.length
  · rw [rT_yes h.1 h.2]; simp [h]
  · rw [rT_no h]; simp [h]
theorem dT_st : (dT L n s).1.1 = false ↔ s.1 = false ∧ s.2 + n ≤ L.length := by
  by_cases h : s.1 = false ∧ s.2 + n ≤ L.length
  · rw [dT_yes h.1 h.2]; simp [h]
  · rw [dT_no h]; simp [h]
theorem dT_eq (h : (dT L n s).1.1 = false) : dT L n s = rT L n s := by
  have := dT_st.1 h
  rw [dT_yes this.1 this.2, rT_yes this.1 this.2]
theorem dT_iff : (dT L n s).1.1 = false ↔ (rT L n s).1.1 = false := by rw [dT_st, rT_st]
theorem dN_st {least most : Int} : (dN L n least most s).1.1 = false ↔ s.1 = false ∧ s.2 + n ≤ L.length ∧ least ≤ (num (sub L s.2 n) : Int) ∧ (num (sub L s.2 n) : Int) ≤ most := by
  unfold dN nmOk
  simp
theorem dN_yes {least most : Int} (h : (dN L n least most s).1.1 = false) : dN L n least most s = ((false, s.2 + n), num (sub L s.2 n)) := by
  have h' : (s.1 || !(nmOk L s.2 n least most)) = false := by unfold dN at h; simpa using h
  unfold dN
  simp only [h']
  simp
theorem num_one (l : List UInt8) (h : l.length = 1) : num l = (l.headD 0).toNat := by
  match l, h with
  | [b], _ => simp [num]
theorem num_two (l : List UInt8) (h : l.length = 2) : num l = rLn l := by
  match l, h with
  | [a, b], _ => simp [num, rLn]
/-- flags. -/
theorem rF_st {most : Nat} : (rF L most s).1.1 = false ↔ s.1 = false ∧ s.2 + 1 ≤ L.length ∧ num (sub L s.2 1) ≤ most := by
  unfold rF
  by_cases h : s.1 = false ∧ s.2 + 1 ≤ L.length
  · rw [rT_yes h.1 h.2, num_one _ (sub_length L s.2 1 h.2)]
    simp [h]
  · rw [rT_no h]
    simp
    intro h1 h2
    exact absurd ⟨h1, h2⟩ h
theorem rF_yes {most : Nat} (h : (rF L most s).1.1 = false) : (rF L most s).1 = (false, s.2 + 1) ∧ (rF L most s).2.toNat = num (sub L s.2 1) := by
  obtain ⟨h1, h2, h3⟩ := rF_st.1 h
  have e : (rF L most s).1 = ((rF L most s).1.1, (rF L most s).1.2) := rfl
  rw [e, h]
  unfold rF
  rw [rT_yes h1 h2, num_one _ (sub_length L s.2 1 h2)]
  exact ⟨rfl, rfl⟩
theorem dF_iff {most : Nat} : (dN L 1 0 most s).1.1 = false ↔ (rF L most s).1.1 = false := by
  rw [dN_st, rF_st]
  constructor
  · rintro ⟨h1, h2, h3, h4⟩; exact ⟨h1, h2, by omega⟩
  · rintro ⟨h1, h2, h3⟩; exact ⟨h1, h2, by omega, by omega⟩
theorem dF_eq {most : Nat} (h : (dN L 1 0 most s).1.1 = false) : (dN L 1 0 most s).1 = (rF L most s).1 ∧ (dN L 1 0 most s).2 = (rF L most s).2.toNat := by
  have h2 := rF_yes (dF_iff.1 h)
  rw [dN_yes h, h2.1, h2.2]
  exact ⟨rfl, rfl⟩
/-- short texts. -/
theorem rS_st : (rS L s).1.1 = false ↔ s.1 = false ∧ s.2 + 1 ≤ L.length ∧ s.2 + 1 + num (sub L s.2 1) ≤ L.length := by
  unfold rS
  simp only
  by_cases h : s.1 = false ∧ s.2 + 1 ≤ L.length
  · rw [rT_yes h.1 h.2, rT_st, num_one _ (sub_length L s.2 1 h.2)]
    simp [h]
  · rw [rT_no h, rT_st]
    simp
    intro h1 h2
    exact absurd ⟨h1, h2⟩ h
theorem rS_yes (h : (rS L s).1.1 = false) : rS L s = ((false, s.2 + 1 + num (sub L s.2 1)), ⟨(sub L (s.2 + 1) (num (sub L s.2 1))).toArray⟩) := by
  obtain ⟨h1, h2, h3⟩ := rS_st.1 h
  unfold rS
  rw [rT_yes h1 h2, num_one _ (sub_length L s.2 1 h2)]
  rw [num_one _ (sub_length L s.2 1 h2)] at h3
  simp only
  rw [rT_yes rfl h3]
  simp
theorem dS_st {least : Int} : (dS L least s).1.1 = false ↔ s.1 = false ∧ s.2 + 1 ≤ L.length ∧ least ≤ (num (sub L s.2 1) : Int) ∧ s.2 + 1 + num (sub L s.2 1) ≤ L.length := by
  unfold dS
  rw [dT_st]
  constructor
  · rintro ⟨h1, h2⟩
    rw [dN_yes h1] at h2
    obtain ⟨a, b, c, d⟩ := dN_st.1 h1
    exact ⟨a, b, c, h2⟩
  · rintro ⟨a, b, c, d⟩
    have h1 : (dN L 1 least 255 s).1.1 = false := dN_st.2 ⟨a, b, c, by have := num_sub_lt L s.2 1 b; omega⟩
    refine ⟨h1, ?_⟩
    rw [dN_yes h1]
    exact d
theorem dS_yes {least : Int} (h : (dS L least s).1.1 = false) : dS L least s = ((false, s.2 + 1 + num (sub L s.2 1)), sub L (s.2 + 1) (num (sub L s.2 1))) := by
  obtain ⟨h1, h2, h3, h4⟩ := dS_st.1 h
  unfold dS
  have h5 : (dN L 1 least 255 s).1.1 = false := dN_st.2 ⟨h1, h2, h3, by have := num_sub_lt L s.2 1 h2; omega⟩
  rw [dN_yes h5]
  exact dT_yes rfl h4
theorem rS_size (h : (rS L s).1.1 = false) : (rS L s).2.size = num (sub L s.2 1) := by
  obtain ⟨h1, h2, h3⟩ := rS_st.1 h
  rw [rS_yes h]
  show (sub L (s.2 + 1) (num (sub L s.2 1))).toArray.size = _
  simp [sub_length L (s.2 + 1) _ h3]
theorem rS_255 (h : (rS L s).1.1 = false) : (rS L s).2.size ≤ 255 := by
  rw [rS_size h]
  have := num_sub_lt L s.2 1 (rS_st.1 h).2.1
  omega
theorem dS_iff {least : Int} : (dS L least s).1.1 = false ↔ (rS L s).1.1 = false ∧ least ≤ ((rS L s).2.size : Int) := by
  constructor
  · intro h
    obtain ⟨h1, h2, h3, h4⟩ := dS_st.1 h
    have h5 := rS_st.2 ⟨h1, h2, h4⟩
    exact ⟨h5, by rw [rS_size h5]; exact h3⟩
  · rintro ⟨h5, h6⟩
    rw [rS_size h5] at h6
    obtain ⟨h1, h2, h4⟩ := rS_st.1 h5
    exact dS_st.2 ⟨h1, h2, h6, h4⟩
theorem dS_eq {least : Int} (h : (dS L least s).1.1 = false) : (dS L least s).1 = (rS L s).1 ∧ (⟨(dS L least s).2.toArray⟩ : ByteArray) = (rS L s).2 := by
  rw [rS_yes (dS_iff.1 h).1, dS_yes h]
  exact ⟨rfl, rfl⟩
/-- long bytes. -/
theorem rL_st : (rL L s).1.1 = false ↔ s.1 = false ∧ s.2 + 2 ≤ L.length ∧ s.2 + 2 + num (sub L s.2 2) ≤ L.length := by
  unfold rL
  by_cases h : s.1 = false ∧ s.2 + 2 ≤ L.length
  · rw [rT_yes h.1 h.2, rT_st, num_two _ (sub_length L s.2 2 h.2)]
    simp [h]
  · rw [rT_no h, rT_st]
    simp
    intro h1 h2
    exact absurd ⟨h1, h2⟩ h
theorem rL_yes (h : (rL L s).1.1 = false) : rL L s = ((false, s.2 + 2 + num (sub L s.2 2)), sub L (s.2 + 2) (num (sub L s.2 2))) := by
  obtain ⟨h1, h2, h3⟩ := rL_st.1 h
  unfold rL
  rw [rT_yes h1 h2, num_two _ (sub_length L s.2 2 h2)]
  rw [num_two _ (sub_length L s.2 2 h2)] at h3
  exact rT_yes rfl h3
theorem dL_st {least most : Int} : (dL L least most s).1.1 = false ↔ s.1 = false ∧ s.2 + 2 ≤ L.length ∧ (least ≤ (num (sub L s.2 2) : Int) ∧ (num (sub L s.2 2) : Int) ≤ most) ∧ s.2 + 2 + num (sub L s.2 2) ≤ L.length := by
  unfold dL
  rw [dT_st]
  constructor
  · rintro ⟨h1, h2⟩
    rw [dN_yes h1] at h2
    obtain ⟨a, b, c⟩ := dN_st.1 h1
    exact ⟨a, b, c, h2⟩
  · rintro ⟨a, b, c, d⟩
    have h1 : (dN L 2 least most s).1.1 = false := dN_st.2 ⟨a, b, c⟩
    refine ⟨h1, ?_⟩
    rw [dN_yes h1]
    exact d
theorem dL_yes {least most : Int} (h : (dL L least most s).1.1 = false) : dL L least most s = ((false, s.2 + 2 + num (sub L s.2 2)), sub L (s.2 + 2) (num (sub L s.2 2))) := by
  obtain ⟨h1, h2, h3, h4⟩ := dL_st.1 h
  unfold dL
  have h5 : (dN L 2 least most s).1.1 = false := dN_st.2 ⟨h1, h2, h3⟩
  rw [dN_yes h5]
  exact dT_yes rfl h4
theorem rL_len (h : (rL L s).1.1 = false) : (rL L s).2.length = num (sub L s.2 2) := by
  obtain ⟨h1, h2, h3⟩ := rL_st.1 h
  rw [rL_yes h]
  exact sub_length L (s.2 + 2) _ h3
theorem dL_iff {least most : Int} : (dL L least most s).1.1 = false ↔ (rL L s).1.1 = false ∧ least ≤ ((rL L s).2.length : Int) ∧ ((rL L s).2.length : Int) ≤ most := by
  constructor
  · intro h
    obtain ⟨h1, h2, h3, h4⟩ := dL_st.1 h
    have h5 := rL_st.2 ⟨h1, h2, h4⟩
    exact ⟨h5, by rw [rL_len h5]; exact h3⟩
  · rintro ⟨h5, h6⟩
    rw [rL_len h5] at h6
    obtain ⟨h1, h2, h4⟩ := rL_st.1 h5
    exact dL_st.2 ⟨h1, h2, h6, h4⟩
theorem dL_eq {least most : Int} (h : (dL L least most s).1.1 = false) : dL L least most s = rL L s := by
  rw [rL_yes (dL_iff.1 h).1, dL_yes h]
/-- texts. -/
def rPs (L : List UInt8) : Nat → Sd → List ByteArray → Sd × List ByteArray
  | 0, s, ns => (s, ns)
  | n + 1, s, ns => if s.1 = true then (s, ns) else rPs L n (rS L s).1 (ns ++ [(rS L s).2])
theorem rPs_bad (ns : List ByteArray) (h : s.1 = true) : rPs L n s ns = (s, ns) := by
  cases n with
  | zero => rfl
  | succ n => unfold rPs; rw [if_pos h]
theorem rPs_len : ∀ (n : Nat) (s : Sd) (ns : List ByteArray), (rPs L n s ns).1.1 = false → (rPs L n s ns).2.length = ns.length + n ∧ ((∀ S ∈ ns, S.size ≤ 255) → ∀ S ∈ (rPs L n s ns).2, S.size ≤ 255)
  | 0, s, ns, h => ⟨rfl, fun h => h⟩
  | n + 1, s, ns, h => by
    unfold rPs at h ⊢
    by_cases hs : s.1 = true
    · rw [if_pos hs] at h; rw [hs] at h; cases h
    · rw [if_neg hs] at h ⊢
      have ih := rPs_len n _ _ h
      refine ⟨by rw [ih.1]; simp; omega, fun hn => ih.2 ?_⟩
      intro S hS
      rcases List.mem_append.1 hS with hS | hS
      · exact hn S hS
      · obtain rfl := List.mem_singleton.1 hS
        by_cases hb : (rS L s).1.1 = false
        · exact rS_255 hb
        · have : (rS L s).1.1 = true := by simpa using hb
          rw [rPs_bad _ this, this] at h
          cases h
theorem rPs_ge : ∀ (n : Nat) (s : Sd) (ns : List ByteArray), ∀ S ∈ ns, S ∈ (rPs L n s ns).2
  | 0, s, ns => fun S h => h
  | n + 1, s, ns => fun S h => by
    unfold rPs
    split
    · exact h
    · exact rPs_ge n _ _ S (List.mem_append_left _ h)
theorem dPs_iff : ∀ (n : Nat) (s : Sd) (ns : List ByteArray), (∀ S ∈ ns, 1 ≤ S.size) → (((dPs L n s ns).1.1 = false ↔ (rPs L n s ns).1.1 = false ∧ ∀ S ∈ (rPs L n s ns).2, 1 ≤ S.size) ∧ ((dPs L n s ns).1.1 = false → dPs L n s ns = rPs L n s ns))
  | 0, s, ns, hn => ⟨⟨fun h => ⟨h, hn⟩, fun h => h.1⟩, fun _ => rfl⟩
  | n + 1, s, ns, hn => by
    unfold rPs dPs
    by_cases hb : (dS L 1 s).1.1 = false
    · have e := dS_eq hb
      have hh := dS_iff.1 hb
      have hs : ¬ s.1 = true := by have := (dS_st.1 hb).1; simp [this]
      rw [if_neg (by simp [hb]), if_neg hs, e.1, e.2]
      refine dPs_iff n _ _ ?_
      intro S hS
      rcases List.mem_append.1 hS with hS | hS
      · exact hn S hS
      · obtain rfl := List.mem_singleton.1 hS
        have := hh.2; omega
    · have hb' : (dS L 1 s).1.1 = true := by simpa using hb
      rw [if_pos hb']
      refine ⟨⟨fun h => absurd h hb, ?_⟩, fun h => absurd h hb⟩
      rintro ⟨h1, h2⟩
      exfalso
      apply hb
      by_cases hs : s.1 = true
      · rw [if_pos hs, hs] at h1; cases h1
      · rw [if_neg hs] at h1 h2
        refine dS_iff.2 ⟨?_, ?_⟩
        · apply Classical.byContradiction
          intro hc
          have : (rS L s).1.1 = true := by simpa using hc
          rw [rPs_bad _ this, this] at h1
          cases h1
        · have := h2 (rS L s).2 (rPs_ge _ _ _ _ (by simp))
          omega
end
end Go.Proofs.Ytcchlicokglmnaa
namespace Go.Proofs.Ytcchlicokglmnaa
open Go.ChangeShapes Go.WideShapes Go.ChangeAt Go.RowKit Go.Lib
set_option linter.unusedVariables false

/-- A Client read part by part. -/
def rk1 (L : List UInt8) (s : Sd) : Sd × List UInt8 := rT L 16 (rT L 16 s).1
def rk2 (L : List UInt8) (s : Sd) : Sd × ByteArray := rS L (rk1 L s).1
def rk3 (L : List UInt8) (s : Sd) : Sd × List UInt8 := rT L 1 (rk2 L s).1
def rk4 (L : List UInt8) (s : Sd) : Sd × List ByteArray := rPs L (num (rk3 L s).2) (rk3 L s).1 []
def rk5 (L : List UInt8) (s : Sd) : Sd × List UInt8 := rL L (rk4 L s).1
def rk6 (L : List UInt8) (s : Sd) : Sd × UInt8 := rF L 3 (rk5 L s).1
def rk7 (L : List UInt8) (s : Sd) : Sd × List UInt8 := rL L (rk6 L s).1
def rk8 (L : List UInt8) (s : Sd) : Sd × List UInt8 := rT L 16 (rk7 L s).1
def rm6 (L : List UInt8) (s : Sd) : Msg := { m0 1 with random := (rT L 16 s).2, share := (rk1 L s).2, name := (rk2 L s).2, protos := (rk4 L s).2, params := (rk5 L s).2, early := decide (2 ≤ (rk6 L s).2.toNat) }
/-- Where the reference stands behind a body, and the message. -/
def rr (k : Int) (L : List UInt8) (s : Sd) : Sd × Msg :=
  if k = 1 then (if (rk6 L s).2.toNat % 2 = 1 then (((rk8 L s).1.1 || decide ((rk7 L s).2.length = 0), (rk8 L s).1.2), { rm6 L s with ticket := (rk7 L s).2, binder := (rk8 L s).2 }) else ((rk6 L s).1, rm6 L s))
  else if k = 2 then ((rF L 1 (rT L 16 (rT L 16 s).1).1).1, { m0 2 with random := (rT L 16 s).2, share := (rT L 16 (rT L 16 s).1).2, again := decide ((rF L 1 (rT L 16 (rT L 16 s).1).1).2.toNat = 1) })
  else if k = 8 then ((rF L 1 (rL L (rS L s).1).1).1, { m0 8 with protos := [(rS L s).2], params := (rL L (rS L s).1).2, early := decide ((rF L 1 (rL L (rS L s).1).1).2.toNat = 1) })
  else if k = 11 then ((rT L 16 (rS L s).1).1, { m0 11 with name := (rS L s).2, mark := (rT L 16 (rS L s).1).2 })
  else if k = 4 then ((rF L 1 (rL L (rT L 4 s).1).1).1, { m0 4 with life := (num (rT L 4 s).2 : Int), ticket := (rL L (rT L 4 s).1).2, early := decide ((rF L 1 (rL L (rT L 4 s).1).1).2.toNat = 1) })
  else ((rT L 16 s).1, { m0 k with mark := (rT L 16 s).2 })
/-- Both come to the same. -/
def Agr (d r : Sd × Msg) : Prop := (d.1.1 = false ↔ r.1.1 = false ∧ mayB r.2 = true) ∧ (d.1.1 = false → d = r)
section
variable {L : List UInt8} {n : Nat} {s : Sd}
theorem newH_rT {old : List UInt8} (h : (rT L 16 s).1.1 = false) : newH old (rT L 16 s).2 = (rT L 16 s).2 := by
  have := rT_st.1 h
  unfold newH
  rw [rT_yes this.1 this.2, if_pos (sub_length L s.2 16 this.2)]
theorem rT_e (h : (rT L n s).1.1 = false) : dT L n s = rT L n s := dT_eq (dT_iff.2 h)
theorem agr_15 (k : Int) (h : k ≠ 1 ∧ k ≠ 2 ∧ k ≠ 8 ∧ k ≠ 11 ∧ k ≠ 4) : Agr (rd k L s) (rr k L s) := by
  obtain ⟨h1, h2, h3, h4, h5⟩ := h
  unfold rd rr
  rw [if_neg h1, if_neg h2, if_neg h3, if_neg h4, if_neg h5, if_neg h1, if_neg h2, if_neg h3, if_neg h4, if_neg h5]
  have hm : mayB { m0 k with mark := (rT L 16 s).2 } = true := by
    simp [mayB, m0, h1, h3, h4, h5]
  refine ⟨⟨fun h => ⟨dT_iff.1 h, hm⟩, fun h => dT_iff.2 h.1⟩, fun h => ?_⟩
  simp only
  rw [dT_eq h, newH_rT (dT_iff.1 h)]
theorem agr_2 : Agr (rd 2 L s) (rr 2 L s) := by
  have e1 : rd 2 L s = ((dN L 1 0 1 (dT L 16 (dT L 16 s).1).1).1, { m0 2 with random := newH z16 (dT L 16 s).2, share := newH z16 (dT L 16 (dT L 16 s).1).2, again := decide ((dN L 1 0 1 (dT L 16 (dT L 16 s).1).1).2 = 1) }) := by simp [rd]
  have e2 : rr 2 L s = ((rF L 1 (rT L 16 (rT L 16 s).1).1).1, { m0 2 with random := (rT L 16 s).2, share := (rT L 16 (rT L 16 s).1).2, again := decide ((rF L 1 (rT L 16 (rT L 16 s).1).1).2.toNat = 1) }) := by simp [rr]
  rw [e1, e2]
  have hm : ∀ a b c, mayB { m0 2 with random := a, share := b, again := c } = true := fun _ _ _ => rfl
  have key : (rF L 1 (rT L 16 (rT L 16 s).1).1).1.1 = false → dT L 16 s = rT L 16 s ∧ dT L 16 (rT L 16 s).1 = rT L 16 (rT L 16 s).1 ∧ (rT L 16 s).1.1 = false ∧ (rT L 16 (rT L 16 s).1).1.1 = false := by
    intro h
    have a2 := (rF_st.1 h).1
    have a1 := (rT_st.1 a2).1
    exact ⟨rT_e a1, rT_e a2, a1, a2⟩
  have key2 : (dN L 1 0 1 (dT L 16 (dT L 16 s).1).1).1.1 = false → dT L 16 s = rT L 16 s ∧ dT L 16 (rT L 16 s).1 = rT L 16 (rT L 16 s).1 := by
    intro h
    have a2 := (dN_st.1 h).1
    have a1 := (dT_st.1 a2).1
    have b1 := dT_eq a1
    rw [b1] at a2
    exact ⟨b1, dT_eq a2⟩
  refine ⟨⟨fun h => ⟨?_, hm _ _ _⟩, fun h => ?_⟩, fun h => ?_⟩
  · obtain ⟨b1, b2⟩ := key2 h
    have h' := h
    simp only [b1, b2] at h' ⊢
    exact (dF_iff (most := 1)).1 h'
  · obtain ⟨b1, b2, _⟩ := key h.1
    have h' := h.1
    simp only [b1, b2] at h' ⊢
    exact (dF_iff (most := 1)).2 h'
  · obtain ⟨b1, b2⟩ := key2 h
    have h' := h
    simp only [b1, b2] at h' ⊢
    have c := (dF_iff (most := 1)).1 h'
    obtain ⟨_, _, a1, a2⟩ := key c
    obtain ⟨c1, c2⟩ := dF_eq (most := 1) h'
    rw [newH_rT a1, newH_rT a2]
    refine Prod.ext c1 ?_
    simp only
    rw [show (dN L 1 0 1 (rT L 16 (rT L 16 s).1).1).2 = (rF L 1 (rT L 16 (rT L 16 s).1).1).2.toNat from c2]
theorem agr_11 : Agr (rd 11 L s) (rr 11 L s) := by
  have e1 : rd 11 L s = ((dT L 16 (dS L 0 s).1).1, { m0 11 with name := ⟨(dS L 0 s).2.toArray⟩, mark := newH z16 (dT L 16 (dS L 0 s).1).2 }) := by simp [rd]
  have e2 : rr 11 L s = ((rT L 16 (rS L s).1).1, { m0 11 with name := (rS L s).2, mark := (rT L 16 (rS L s).1).2 }) := by simp [rr]
  rw [e1, e2]
  refine ⟨⟨fun h => ?_, fun h => ?_⟩, fun h => ?_⟩
  · have a1 := (dT_st.1 h).1
    have b1 := dS_eq a1
    have b2 := dS_iff.1 a1
    have h' := h
    simp only [b1.1] at h' ⊢
    exact ⟨dT_iff.1 h', by show decide _ = true; simp; exact rS_255 b2.1⟩
  · have a1 := (rT_st.1 h.1).1
    have a2 : (dS L 0 s).1.1 = false := dS_iff.2 ⟨a1, by omega⟩
    have b1 := dS_eq a2
    simp only [b1.1]
    exact dT_iff.2 h.1
  · have a1 := (dT_st.1 h).1
    have b1 := dS_eq a1
    have h' := h
    simp only [b1.1] at h' ⊢
    rw [b1.2, dT_eq h', newH_rT (dT_iff.1 h')]
end
end Go.Proofs.Ytcchlicokglmnaa
namespace Go.Proofs.Ytcchlicokglmnaa
open Go.ChangeShapes Go.WideShapes Go.ChangeAt Go.RowKit Go.Lib
set_option linter.unusedVariables false

section
variable {L : List UInt8} {n : Nat} {s : Sd}
theorem proB_iff (Ns : List ByteArray) (most : Int) : proB Ns most = true ↔ ((∀ S ∈ Ns, 1 ≤ S.size ∧ S.size ≤ 255) ∧ 1 ≤ Ns.length ∧ (Ns.length : Int) ≤ most) := by
  simp only [proB, Bool.and_eq_true, decide_eq_true_eq, List.all_eq_true, nmB]
  exact ⟨fun h => ⟨h.1.1, h.1.2, h.2⟩, fun h => ⟨⟨h.1, h.2.1⟩, h.2.2⟩⟩
theorem rPs_one (h : s.1 = false) : rPs L 1 s [] = ((rS L s).1, [(rS L s).2]) := by
  show (if s.1 = true then _ else _) = _
  rw [if_neg (by simp [h])]
  rfl
theorem agr_8 (hs : s.1 = false) : Agr (rd 8 L s) (rr 8 L s) := by
  have e1 : rd 8 L s = ((dN L 1 0 1 (dL L 0 4096 (dPs L 1 s []).1).1).1, { m0 8 with protos := (dPs L 1 s []).2, params := (dL L 0 4096 (dPs L 1 s []).1).2, early := decide ((dN L 1 0 1 (dL L 0 4096 (dPs L 1 s []).1).1).2 = 1) }) := by simp [rd]
  have e2 : rr 8 L s = ((rF L 1 (rL L (rS L s).1).1).1, { m0 8 with protos := [(rS L s).2], params := (rL L (rS L s).1).2, early := decide ((rF L 1 (rL L (rS L s).1).1).2.toNat = 1) }) := by simp [rr]
  have hm : ∀ P A E, mayB { m0 8 with protos := P, params := A, early := E } = (proB P 1 && decide (A.length ≤ 4096)) := fun P A E => by simp [mayB, m0]
  obtain ⟨q1, q2⟩ := dPs_iff (L := L) 1 s [] (by simp)
  rw [rPs_one hs] at q1 q2
  rw [e1, e2]
  have fwd : (dN L 1 0 1 (dL L 0 4096 (dPs L 1 s []).1).1).1.1 = false → dPs L 1 s [] = ((rS L s).1, [(rS L s).2]) ∧ dL L 0 4096 (rS L s).1 = rL L (rS L s).1 ∧ (rS L s).1.1 = false ∧ 1 ≤ (rS L s).2.size ∧ (rL L (rS L s).1).2.length ≤ 4096 ∧ (dN L 1 0 1 (rL L (rS L s).1).1).1.1 = false := by
    intro h
    have a2 := (dN_st.1 h).1
    have a1 := (dL_st.1 a2).1
    have b1 := q2 a1
    have b2 := q1.1 a1
    rw [b1] at a2 h
    have c1 := dL_eq a2
    have c2 := dL_iff.1 a2
    simp only at c1
    rw [c1] at h
    exact ⟨b1, c1, b2.1, b2.2 _ (by simp), by have := c2.2.2; simp only at this; omega, h⟩
  refine ⟨⟨fun h => ?_, fun h => ?_⟩, fun h => ?_⟩
  · obtain ⟨b1, b2, b3, b4, b5, b6⟩ := fwd h
    refine ⟨(dF_iff (most := 1)).1 b6, ?_⟩
    simp only
    rw [hm, Bool.and_eq_true, proB_iff]
    refine ⟨⟨?_, by simp, by simp⟩, by simpa using b5⟩
    intro S hS
    obtain rfl := List.mem_singleton.1 hS
    exact ⟨b4, rS_255 b3⟩
  · obtain ⟨h1, h2⟩ := h
    simp only at h1 h2
    rw [hm, Bool.and_eq_true, proB_iff, decide_eq_true_eq] at h2
    have a2 := (rF_st.1 h1).1
    have a1 := (rL_st.1 a2).1
    have c1 := q1.2 ⟨a1, fun S hS => (h2.1.1 S hS).1⟩
    have c2 := q2 c1
    simp only [c2]
    have c3 : (dL L 0 4096 (rS L s).1).1.1 = false := dL_iff.2 ⟨a2, by omega, by have := h2.2; omega⟩
    rw [dL_eq c3]
    exact (dF_iff (most := 1)).2 h1
  · obtain ⟨b1, b2, b3, b4, b5, b6⟩ := fwd h
    simp only [b1, b2]
    obtain ⟨c1, c2⟩ := dF_eq (most := 1) b6
    refine Prod.ext c1 ?_
    simp only
    rw [show (dN L 1 0 1 (rL L (rS L s).1).1).2 = _ from c2]
theorem d4_iff : (dN L 4 0 4294967295 s).1.1 = false ↔ (rT L 4 s).1.1 = false := by
  rw [dN_st, rT_st]
  constructor
  · rintro ⟨h1, h2, h3, h4⟩; exact ⟨h1, h2⟩
  · rintro ⟨h1, h2⟩; exact ⟨h1, h2, by omega, by have := num_sub_lt L s.2 4 h2; omega⟩
theorem d4_eq (h : (dN L 4 0 4294967295 s).1.1 = false) : (dN L 4 0 4294967295 s).1 = (rT L 4 s).1 ∧ newN L 4 0 4294967295 s 0 = (num (rT L 4 s).2 : Int) ∧ (num (rT L 4 s).2 : Int) ≤ 4294967295 := by
  obtain ⟨h1, h2, h3, h4⟩ := dN_st.1 h
  have h' : (s.1 || !(nmOk L s.2 4 0 4294967295)) = false := by unfold dN at h; simpa using h
  rw [dN_yes h, rT_yes h1 h2]
  refine ⟨rfl, ?_, h4⟩
  unfold newN
  rw [h']
  rfl
theorem agr_4 : Agr (rd 4 L s) (rr 4 L s) := by
  have e1 : rd 4 L s = ((dN L 1 0 1 (dL L 1 512 (dN L 4 0 4294967295 s).1).1).1, { m0 4 with life := newN L 4 0 4294967295 s 0, ticket := (dL L 1 512 (dN L 4 0 4294967295 s).1).2, early := decide ((dN L 1 0 1 (dL L 1 512 (dN L 4 0 4294967295 s).1).1).2 = 1) }) := by simp [rd]
  have e2 : rr 4 L s = ((rF L 1 (rL L (rT L 4 s).1).1).1, { m0 4 with life := (num (rT L 4 s).2 : Int), ticket := (rL L (rT L 4 s).1).2, early := decide ((rF L 1 (rL L (rT L 4 s).1).1).2.toNat = 1) }) := by simp [rr]
  have hm : ∀ P A E, mayB { m0 4 with life := P, ticket := A, early := E } = (decide (0 ≤ P) && (decide (P ≤ 4294967295) && (decide (1 ≤ A.length) && decide (A.length ≤ 512)))) := fun P A E => by simp [mayB, m0]
  rw [e1, e2]
  have fwd : (dN L 1 0 1 (dL L 1 512 (dN L 4 0 4294967295 s).1).1).1.1 = false → (dN L 4 0 4294967295 s).1 = (rT L 4 s).1 ∧ newN L 4 0 4294967295 s 0 = (num (rT L 4 s).2 : Int) ∧ (num (rT L 4 s).2 : Int) ≤ 4294967295 ∧ dL L 1 512 (rT L 4 s).1 = rL L (rT L 4 s).1 ∧ 1 ≤ (rL L (rT L 4 s).1).2.length ∧ (rL L (rT L 4 s).1).2.length ≤ 512 ∧ (dN L 1 0 1 (rL L (rT L 4 s).1).1).1.1 = false := by
    intro h
    have a2 := (dN_st.1 h).1
    have a1 := (dL_st.1 a2).1
    obtain ⟨b1, b2, b3⟩ := d4_eq a1
    rw [b1] at a2 h
    have c1 := dL_eq a2
    have c2 := dL_iff.1 a2
    rw [c1] at h
    exact ⟨b1, b2, b3, c1, by have := c2.2.1; omega, by have := c2.2.2; omega, h⟩
  refine ⟨⟨fun h => ?_, fun h => ?_⟩, fun h => ?_⟩
  · obtain ⟨b1, b2, b3, b4, b5, b6, b7⟩ := fwd h
    refine ⟨(dF_iff (most := 1)).1 b7, ?_⟩
    simp only
    rw [hm]
    simp only [Bool.and_eq_true, decide_eq_true_eq]
    exact ⟨by omega, b3, b5, b6⟩
  · obtain ⟨h1, h2⟩ := h
    simp only at h1 h2
    rw [hm] at h2
    simp only [Bool.and_eq_true, decide_eq_true_eq] at h2
    have a2 := (rF_st.1 h1).1
    have a1 := (rL_st.1 a2).1
    obtain ⟨b1, _⟩ := d4_eq (d4_iff.2 a1)
    simp only [b1]
    have c3 : (dL L 1 512 (rT L 4 s).1).1.1 = false := dL_iff.2 ⟨a2, by omega, by omega⟩
    rw [dL_eq c3]
    exact (dF_iff (most := 1)).2 h1
  · obtain ⟨b1, b2, b3, b4, b5, b6, b7⟩ := fwd h
    simp only [b1, b2, b4]
    obtain ⟨c1, c2⟩ := dF_eq (most := 1) b7
    refine Prod.ext c1 ?_
    simp only
    rw [show (dN L 1 0 1 (rL L (rT L 4 s).1).1).2 = _ from c2]
/-- A Client, up to its flags. -/
structure Fw (L : List UInt8) (s : Sd) : Prop where
  a0 : dT L 16 s = rT L 16 s ∧ (rT L 16 s).1.1 = false
  a1 : ck1 L s = rk1 L s ∧ (rk1 L s).1.1 = false
  a2 : (ck2 L s).1 = (rk2 L s).1 ∧ (⟨(ck2 L s).2.toArray⟩ : ByteArray) = (rk2 L s).2 ∧ (rk2 L s).1.1 = false
  a3 : 1 ≤ num (rk3 L s).2 ∧ num (rk3 L s).2 ≤ 8
  a4 : ck4 L s = rk4 L s ∧ (rk4 L s).1.1 = false ∧ ∀ S ∈ (rk4 L s).2, 1 ≤ S.size
  a5 : ck5 L s = rk5 L s ∧ (rk5 L s).2.length ≤ 4096
  a6 : (ck6 L s).1 = (rk6 L s).1 ∧ (ck6 L s).2 = (rk6 L s).2.toNat ∧ (rk6 L s).1.1 = false ∧ (ck6 L s).1.1 = false
theorem fw_of (h : (ck6 L s).1.1 = false) : Fw L s := by
  have h5 : (ck5 L s).1.1 = false := (dN_st.1 h).1
  have h4 : (ck4 L s).1.1 = false := (dL_st.1 h5).1
  have h3 : (ck3 L s).1.1 = false := by
    apply Classical.byContradiction
    intro hc
    have hc' : (ck3 L s).1.1 = true := by simpa using hc
    unfold ck4 at h4
    revert h4
    cases (ck3 L s).2 with
    | zero => show (ck3 L s).1.1 = false → False; exact hc
    | succ k =>
      intro h4
      unfold dPs at h4
      by_cases hb : (dS L 1 (ck3 L s).1).1.1 = true
      · rw [if_pos hb, hb] at h4; cases h4
      · have := (dS_st.1 (by simpa using hb : (dS L 1 (ck3 L s).1).1.1 = false)).1
        exact hc this
  have h2 : (ck2 L s).1.1 = false := (dN_st.1 h3).1
  have h1 : (ck1 L s).1.1 = false := (dS_st.1 h2).1
  have h0 : (dT L 16 s).1.1 = false := (dT_st.1 h1).1
  have b0 := dT_eq h0
  have e1 : ck1 L s = rk1 L s := by unfold ck1 rk1; rw [← b0]; exact dT_eq h1
  have e2 : (ck2 L s).1 = (rk2 L s).1 ∧ (⟨(ck2 L s).2.toArray⟩ : ByteArray) = (rk2 L s).2 := by
    have := dS_eq (show (dS L 0 (ck1 L s).1).1.1 = false from h2)
    unfold rk2
    rw [← e1]
    exact this
  have e3 : rk3 L s = ((ck3 L s).1, sub L (ck2 L s).1.2 1) ∧ (ck3 L s).2 = num (sub L (ck2 L s).1.2 1) := by
    obtain ⟨x1, x2, x3, x4⟩ := dN_st.1 (show (dN L 1 1 8 (ck2 L s).1).1.1 = false from h3)
    have y := dN_yes (show (dN L 1 1 8 (ck2 L s).1).1.1 = false from h3)
    have z := rT_yes x1 x2
    unfold rk3 ck3
    rw [← e2.1, y, z]
    exact ⟨rfl, rfl⟩
  have n3 : num (rk3 L s).2 = (ck3 L s).2 := by rw [e3.1, e3.2]
  have b3 : 1 ≤ num (rk3 L s).2 ∧ num (rk3 L s).2 ≤ 8 := by
    obtain ⟨x1, x2, x3, x4⟩ := dN_st.1 (show (dN L 1 1 8 (ck2 L s).1).1.1 = false from h3)
    rw [n3, e3.2]
    exact ⟨by omega, by omega⟩
  have e4 : ck4 L s = rk4 L s ∧ ∀ S ∈ (rk4 L s).2, 1 ≤ S.size := by
    obtain ⟨q1, q2⟩ := dPs_iff (L := L) (ck3 L s).2 (ck3 L s).1 [] (by simp)
    have x : rk4 L s = rPs L (ck3 L s).2 (ck3 L s).1 [] := by unfold rk4; rw [n3, e3.1]
    rw [x]
    exact ⟨q2 h4, (q1.1 h4).2⟩
  have e5 : ck5 L s = rk5 L s ∧ (rk5 L s).2.length ≤ 4096 := by
    have x := dL_eq (show (dL L 0 4096 (ck4 L s).1).1.1 = false from h5)
    have y := dL_iff.1 (show (dL L 0 4096 (ck4 L s).1).1.1 = false from h5)
    have e : ck5 L s = rk5 L s := by unfold rk5; rw [← e4.1]; exact x
    refine ⟨e, ?_⟩
    unfold rk5
    rw [← e4.1]
    have := y.2.2
    omega
  have e6 : (ck6 L s).1 = (rk6 L s).1 ∧ (ck6 L s).2 = (rk6 L s).2.toNat := by
    have x := dF_eq (most := 3) (show (dN L 1 0 3 (ck5 L s).1).1.1 = false from h)
    unfold rk6
    rw [← e5.1]
    exact x
  exact ⟨⟨b0, by rw [← b0]; exact h0⟩, ⟨e1, by rw [← e1]; exact h1⟩, ⟨e2.1, e2.2, by rw [← e2.1]; exact h2⟩, b3, ⟨e4.1, by rw [← e4.1]; exact h4, e4.2⟩, e5, ⟨e6.1, e6.2, by rw [← e6.1]; exact h, h⟩⟩
theorem fw_to (h : (rk6 L s).1.1 = false) (h3 : 1 ≤ (rk4 L s).2.length ∧ (rk4 L s).2.length ≤ 8) (h4 : ∀ S ∈ (rk4 L s).2, 1 ≤ S.size) (h5 : (rk5 L s).2.length ≤ 4096) : (ck6 L s).1.1 = false := by
  have r5 : (rk5 L s).1.1 = false := (rF_st.1 h).1
  have r4 : (rk4 L s).1.1 = false := (rL_st.1 r5).1
  have r3 : (rk3 L s).1.1 = false := by
    apply Classical.byContradiction
    intro hc
    have hc' : (rk3 L s).1.1 = true := by simpa using hc
    unfold rk4 at r4
    rw [rPs_bad _ hc', hc'] at r4
    cases r4
  have n4 : (rk4 L s).2.length = num (rk3 L s).2 := by
    have := (rPs_len _ _ _ r4).1
    unfold rk4
    rw [this]; simp
  have r2 : (rk2 L s).1.1 = false := (rT_st.1 r3).1
  have r1 : (rk1 L s).1.1 = false := (rS_st.1 r2).1
  have r0 : (rT L 16 s).1.1 = false := (rT_st.1 r1).1
  have e1 : ck1 L s = rk1 L s := by unfold ck1 rk1; rw [rT_e r0]; exact rT_e r1
  have d2 : (ck2 L s).1.1 = false := dS_iff.2 ⟨by rw [e1]; exact r2, by omega⟩
  have e2 : (ck2 L s).1 = (rk2 L s).1 := by
    have := (dS_eq (show (dS L 0 (ck1 L s).1).1.1 = false from d2)).1
    unfold rk2
    rw [← e1]
    exact this
  obtain ⟨x1, x2⟩ := rT_st.1 (show (rT L 1 (rk2 L s).1).1.1 = false from r3)
  have y3 : rk3 L s = ((false, (rk2 L s).1.2 + 1), sub L (rk2 L s).1.2 1) := rT_yes x1 x2
  have d3 : (ck3 L s).1.1 = false := by
    refine dN_st.2 ?_
    rw [e2]
    rw [y3] at n4
    simp only at n4
    exact ⟨x1, x2, by omega, by omega⟩
  have e3 : (ck3 L s).1 = (rk3 L s).1 ∧ (ck3 L s).2 = num (rk3 L s).2 := by
    have := dN_yes (show (dN L 1 1 8 (ck2 L s).1).1.1 = false from d3)
    unfold ck3
    rw [this, y3, e2]
    exact ⟨rfl, rfl⟩
  obtain ⟨q1, q2⟩ := dPs_iff (L := L) (ck3 L s).2 (ck3 L s).1 [] (by simp)
  have x : rPs L (ck3 L s).2 (ck3 L s).1 [] = rk4 L s := by unfold rk4; rw [e3.1, e3.2]
  rw [x] at q1 q2
  have d4 : (ck4 L s).1.1 = false := q1.2 ⟨r4, h4⟩
  have e4 : ck4 L s = rk4 L s := q2 d4
  have d5 : (ck5 L s).1.1 = false := by
    unfold ck5
    rw [e4]
    exact dL_iff.2 ⟨r5, by omega, by have := h5; unfold rk5 at this; omega⟩
  have e5 : ck5 L s = rk5 L s := by
    have := dL_eq (show (dL L 0 4096 (ck4 L s).1).1.1 = false from d5)
    unfold rk5
    rw [← e4]
    exact this
  unfold ck6
  rw [e5]
  exact (dF_iff (most := 3)).2 h
theorem may1 (L : List UInt8) (s : Sd) (t b : List UInt8) (h : (rk6 L s).1.1 = false) : mayB { rm6 L s with ticket := t, binder := b } = true ↔ (((∀ S ∈ (rk4 L s).2, 1 ≤ S.size) ∧ 1 ≤ (rk4 L s).2.length ∧ (rk4 L s).2.length ≤ 8) ∧ (rk5 L s).2.length ≤ 4096 ∧ t.length ≤ 512 ∧ (0 < t.length ∨ (¬ 2 ≤ (rk6 L s).2.toNat ∧ b = z16))) := by
  have r5 : (rk5 L s).1.1 = false := (rF_st.1 h).1
  have r4 : (rk4 L s).1.1 = false := (rL_st.1 r5).1
  have r3 : (rk3 L s).1.1 = false := by
    apply Classical.byContradiction
    intro hc
    have hc' : (rk3 L s).1.1 = true := by simpa using hc
    unfold rk4 at r4
    rw [rPs_bad _ hc', hc'] at r4
    cases r4
  have r2 : (rk2 L s).1.1 = false := (rT_st.1 r3).1
  have hn : (rk2 L s).2.size ≤ 255 := rS_255 r2
  have hp : ∀ S ∈ (rk4 L s).2, S.size ≤ 255 := (rPs_len _ _ _ r4).2 (by simp)
  have e : mayB { rm6 L s with ticket := t, binder := b } = (decide ((rk2 L s).2.size ≤ 255) && (proB (rk4 L s).2 8 && (decide ((rk5 L s).2.length ≤ 4096) && (decide (t.length ≤ 512) && (decide (0 < t.length) || (!(decide (2 ≤ (rk6 L s).2.toNat)) && (b == z16))))))) := rfl
  rw [e]
  simp only [Bool.and_eq_true, decide_eq_true_eq, Bool.or_eq_true, proB_iff, Bool.not_eq_true', decide_eq_false_iff_not, beq_iff_eq]
  constructor
  · rintro ⟨h1, ⟨h2, h3, h4⟩, h5, h6, h7⟩
    exact ⟨⟨fun S hS => (h2 S hS).1, h3, by omega⟩, h5, h6, h7⟩
  · rintro ⟨⟨h2, h3, h4⟩, h5, h6, h7⟩
    exact ⟨hn, ⟨fun S hS => ⟨h2 S hS, hp S hS⟩, h3, by omega⟩, h5, h6, h7⟩
theorem c6le (h : (ck6 L s).1.1 = false) : (ck6 L s).2 ≤ 3 := by
  have x := dN_yes (show (dN L 1 0 3 (ck5 L s).1).1.1 = false from h)
  obtain ⟨x1, x2, x3, x4⟩ := dN_st.1 (show (dN L 1 0 3 (ck5 L s).1).1.1 = false from h)
  unfold ck6
  rw [x]
  show num _ ≤ 3
  omega
theorem cm6_eq (f : Fw L s) : cm6 (m0 1) L s none 0 none 0 = rm6 L s := by
  have hle := c6le f.a6.2.2.2
  have e0 : newH z16 (dT L 16 s).2 = (rT L 16 s).2 := by rw [f.a0.1]; exact newH_rT f.a0.2
  have e1 : newH z16 (ck1 L s).2 = (rk1 L s).2 := by rw [f.a1.1]; exact newH_rT (s := (rT L 16 s).1) f.a1.2
  have e6 : ckE L s = decide (2 ≤ (rk6 L s).2.toNat) := by
    unfold ckE
    rw [← f.a6.2.1]
    apply decide_eq_decide.2
    omega
  show ({ m0 1 with random := newH z16 (dT L 16 s).2, share := newH z16 (ck1 L s).2, name := ⟨(ck2 L s).2.toArray⟩, protos := (ck4 L s).2, params := (ck5 L s).2, early := ckE L s } : Msg) = rm6 L s
  rw [e0, e1, e6, f.a2.2.1, f.a4.1, f.a5.1]
  rfl
theorem may_fw (f : Fw L s) (t b : List UInt8) : mayB { rm6 L s with ticket := t, binder := b } = true ↔ (t.length ≤ 512 ∧ (0 < t.length ∨ (¬ 2 ≤ (rk6 L s).2.toNat ∧ b = z16))) := by
  rw [may1 L s t b f.a6.2.2.1]
  have n4 : (rk4 L s).2.length = num (rk3 L s).2 := by
    have := (rPs_len _ _ _ f.a4.2.1).1
    unfold rk4
    rw [this]; simp
  have := f.a3
  exact ⟨fun h => h.2.2, fun h => ⟨⟨f.a4.2.2, by omega, by omega⟩, f.a5.2, h⟩⟩
theorem agr_1 : Agr (rd 1 L s) (rr 1 L s) := by
  have e1 : rd 1 L s = if (ck6 L s).2 % 2 = 1 then ((ck8 L s).1, { cm6 (m0 1) L s none 0 none 0 with ticket := (ck7 L s).2, binder := newH z16 (ck8 L s).2 }) else (((ck6 L s).1.1 || !(!ckE L s && (z16 == z16)), (ck6 L s).1.2), cm6 (m0 1) L s none 0 none 0) := rfl
  have e2 : rr 1 L s = if (rk6 L s).2.toNat % 2 = 1 then (((rk8 L s).1.1 || decide ((rk7 L s).2.length = 0), (rk8 L s).1.2), { rm6 L s with ticket := (rk7 L s).2, binder := (rk8 L s).2 }) else ((rk6 L s).1, rm6 L s) := rfl
  have mw : rm6 L s = { rm6 L s with ticket := [], binder := z16 } := rfl
  /- from the program's side -/
  have fwd : (rd 1 L s).1.1 = false → Fw L s ∧ ((rr 1 L s).1.1 = false ∧ mayB (rr 1 L s).2 = true) ∧ rd 1 L s = rr 1 L s := by
    rw [e1, e2]
    by_cases ho : (ck6 L s).2 % 2 = 1
    · rw [if_pos ho]
      intro h
      have h7 : (ck7 L s).1.1 = false := (dT_st.1 h).1
      have h6 : (ck6 L s).1.1 = false := (dL_st.1 h7).1
      have f := fw_of h6
      have x7 := dL_eq (show (dL L 1 512 (ck6 L s).1).1.1 = false from h7)
      have y7 := dL_iff.1 (show (dL L 1 512 (ck6 L s).1).1.1 = false from h7)
      have e7 : ck7 L s = rk7 L s := by unfold rk7; rw [← f.a6.1]; exact x7
      have z7 : 1 ≤ (rk7 L s).2.length ∧ (rk7 L s).2.length ≤ 512 := by
        unfold rk7
        rw [← f.a6.1]
        have := y7.2
        omega
      have x8 := dT_eq (show (dT L 16 (ck7 L s).1).1.1 = false from h)
      have e8 : ck8 L s = rk8 L s := by unfold rk8; rw [← e7]; exact x8
      have h8 : (rk8 L s).1.1 = false := by rw [← e8]; exact h
      rw [if_pos (by rw [← f.a6.2.1]; exact ho)]
      have hz : decide ((rk7 L s).2.length = 0) = false := by simp; intro hc; rw [hc] at z7; simp at z7
      refine ⟨f, ⟨by simp only [h8, hz]; rfl, (may_fw f _ _).2 ⟨z7.2, .inl (by omega)⟩⟩, ?_⟩
      have n8 : newH z16 (rk8 L s).2 = (rk8 L s).2 := newH_rT (s := (rk7 L s).1) h8
      rw [cm6_eq f, e7, e8, n8]
      refine Prod.ext ?_ rfl
      show (rk8 L s).1 = _
      rw [hz, Bool.or_false]
    · rw [if_neg ho]
      intro h
      simp only [Bool.or_eq_false_iff] at h
      have f := fw_of h.1
      have hE : ckE L s = false := by have := h.2; cases hh : ckE L s <;> simp [hh] at this ⊢
      have hE' : ¬ 2 ≤ (rk6 L s).2.toNat := by
        have hle := c6le h.1
        unfold ckE at hE
        rw [f.a6.2.1] at hE hle
        simp at hE
        omega
      rw [if_neg (by rw [← f.a6.2.1]; exact ho)]
      refine ⟨f, ⟨f.a6.2.2.1, ?_⟩, ?_⟩
      · rw [mw]
        exact (may_fw f _ _).2 ⟨by simp, .inr ⟨hE', rfl⟩⟩
      · rw [cm6_eq f, hE, f.a6.1]
        refine Prod.ext ?_ rfl
        show ((rk6 L s).1.1 || !(!false && (z16 == z16)), (rk6 L s).1.2) = (rk6 L s).1
        rw [show (z16 == z16) = true from rfl]
        simp
  refine ⟨⟨fun h => (fwd h).2.1, ?_⟩, fun h => (fwd h).2.2⟩
  rw [e1, e2]
  by_cases ho : (rk6 L s).2.toNat % 2 = 1
  · rw [if_pos ho]
    rintro ⟨h1, h2⟩
    simp only [Bool.or_eq_false_iff, decide_eq_false_iff_not] at h1
    have r7 : (rk7 L s).1.1 = false := (rT_st.1 h1.1).1
    have r6 : (rk6 L s).1.1 = false := (rL_st.1 r7).1
    have q := (may1 L s _ _ r6).1 h2
    have f := fw_of (fw_to r6 q.1.2 q.1.1 q.2.1)
    rw [if_pos (by rw [f.a6.2.1]; exact ho)]
    have d7 : (ck7 L s).1.1 = false := by
      unfold ck7
      rw [f.a6.1]
      have z := q.2.2.1
      have z' := h1.2
      unfold rk7 at z z'
      exact dL_iff.2 ⟨r7, by omega, by omega⟩
    have e7 : ck7 L s = rk7 L s := by
      have := dL_eq (show (dL L 1 512 (ck6 L s).1).1.1 = false from d7)
      unfold rk7
      rw [← f.a6.1]
      exact this
    show (dT L 16 (ck7 L s).1).1.1 = false
    rw [e7]
    exact dT_iff.2 h1.1
  · rw [if_neg ho]
    rintro ⟨r6, h2⟩
    rw [mw] at h2
    have q := (may1 L s _ _ r6).1 h2
    have f := fw_of (fw_to r6 q.1.2 q.1.1 q.2.1)
    rw [if_neg (by rw [f.a6.2.1]; exact ho)]
    have hE' : ¬ 2 ≤ (rk6 L s).2.toNat := by
      rcases q.2.2.2 with h | h
      · simp at h
      · exact h.1
    have hE : ckE L s = false := by unfold ckE; rw [f.a6.2.1]; simp; omega
    show ((ck6 L s).1.1 || !(!ckE L s && (z16 == z16))) = false
    rw [hE, f.a6.2.2.2, show (z16 == z16) = true from rfl]
    rfl
theorem agr_all (k : Int) (hs : s.1 = false) : Agr (rd k L s) (rr k L s) := by
  by_cases h1 : k = 1
  · subst h1; exact agr_1
  by_cases h2 : k = 2
  · subst h2; exact agr_2
  by_cases h3 : k = 8
  · subst h3; exact agr_8 hs
  by_cases h4 : k = 11
  · subst h4; exact agr_11
  by_cases h5 : k = 4
  · subst h5; exact agr_4
  exact agr_15 k ⟨h1, h2, h3, h4, h5⟩
end
end Go.Proofs.Ytcchlicokglmnaa
