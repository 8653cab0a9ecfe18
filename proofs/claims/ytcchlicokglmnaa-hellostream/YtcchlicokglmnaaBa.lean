/- What is read is laid so: the parts. -/
import Derived.Test.YtcchlicokglmnaaRx
namespace Go.Proofs.Ytcchlicokglmnaa
open Go.ChangeShapes Go.WideShapes Go.ChangeAt Go.RowKit Go.Lib
set_option linter.unusedVariables false

theorem be_add (k v c : Nat) : be k (v + c * 256 ^ k) = be k v := by
  induction k generalizing c with
  | zero => rfl
  | succ k ih =>
    rw [be_head, be_head]
    have h1 : v + c * 256 ^ (k + 1) = v + c * 256 * 256 ^ k := by rw [Nat.pow_succ, Nat.mul_assoc, Nat.mul_comm (256 ^ k) 256]
    rw [h1, ih (c * 256)]
    congr 1
    rw [Nat.add_mul_div_right _ _ (Nat.pow_pos (by decide))]
    apply UInt8.toNat_inj.1
    simp [UInt8.toNat_ofNat']
theorem be_num : ∀ l : List UInt8, be l.length (num l) = l
  | [] => rfl
  | x :: t => by
    have h1 : num (x :: t) = num t + x.toNat * 256 ^ t.length := by
      have := num_append [x] t
      simp only [List.singleton_append] at this
      rw [this, Nat.add_comm]
      simp [num]
    show be (t.length + 1) (num (x :: t)) = x :: t
    rw [be_head, h1, be_add, be_num t, Nat.add_mul_div_right _ _ (Nat.pow_pos (by decide)), Nat.div_eq_of_lt (num_lt t)]
    simp
/-- A reader and a putter that stand at the same place: the bytes so far. -/
structure Pre (L : List UInt8) (s : Sd) (a : St) : Prop where
  ok : a.2 = false
  le : s.2 ≤ L.length
  eq : a.1 = L.take s.2
section
variable {L : List UInt8} {s : Sd} {a : St}
theorem take_sub {n : Nat} (h : s.2 ≤ L.length) : L.take s.2 ++ sub L s.2 n = L.take (s.2 + n) := by
  rw [sub, List.take_add]
theorem B_T {n : Nat} (h : Pre L s a) (hs : (dT L n s).1.1 = false) : s.1 = false ∧ (dT L n s).2.length = n ∧ Pre L (dT L n s).1 (a.1 ++ (dT L n s).2, false) := by
  unfold dT at hs ⊢
  simp only at hs ⊢
  have hh := hs
  simp only [Bool.or_eq_false_iff, Bool.not_eq_false', decide_eq_true_eq] at hh
  simp only [hs, Bool.false_eq_true, if_false]
  refine ⟨hh.1, sub_length _ _ _ hh.2, rfl, hh.2, ?_⟩
  rw [h.eq]
  exact take_sub h.le
theorem B_N {n : Nat} {least most : Int} (h : Pre L s a) (hs : (dN L n least most s).1.1 = false) : s.1 = false ∧ least ≤ ((dN L n least most s).2 : Int) ∧ ((dN L n least most s).2 : Int) ≤ most ∧ Pre L (dN L n least most s).1 (a.1 ++ be n (dN L n least most s).2, false) := by
  unfold dN at hs ⊢
  simp only at hs ⊢
  have hh := hs
  simp only [nmOk, Bool.or_eq_false_iff, Bool.not_eq_false', decide_eq_true_eq, Bool.and_eq_true] at hh
  simp only [hs, Bool.false_eq_true, if_false]
  refine ⟨hh.1, hh.2.2.1, hh.2.2.2, rfl, hh.2.1, ?_⟩
  have hl := sub_length L s.2 n hh.2.1
  have hb := be_num (sub L s.2 n)
  rw [hl] at hb
  show a.1 ++ be n (num (sub L s.2 n)) = _
  rw [hb, h.eq]
  exact take_sub h.le
theorem dT_ok {n : Nat} (hs : (dT L n s).1.1 = false) : s.1 = false := by
  unfold dT at hs
  simp only [Bool.or_eq_false_iff] at hs
  exact hs.1
theorem dN_ok {n : Nat} {least most : Int} (hs : (dN L n least most s).1.1 = false) : s.1 = false := by
  unfold dN at hs
  simp only [Bool.or_eq_false_iff] at hs
  exact hs.1
/-- A short text. -/
theorem B_S {least : Int} (h : Pre L s a) (hs : (dS L least s).1.1 = false) : s.1 = false ∧ least ≤ ((dS L least s).2.length : Int) ∧ (dS L least s).2.length ≤ 255 ∧ Pre L (dS L least s).1 (stp least a ⟨(dS L least s).2.toArray⟩) := by
  unfold dS at hs ⊢
  obtain ⟨g1, g2, g3, g4⟩ := B_N h (dT_ok hs)
  obtain ⟨h1, h2, h3⟩ := B_T g4 hs
  generalize dN L 1 least 255 s = N at *
  generalize dT L N.2 N.1 = T at *
  refine ⟨g1, by rw [h2]; exact g2, by omega, ?_⟩
  have hz : (⟨T.2.toArray⟩ : ByteArray).size = N.2 := by rw [← h2]; rfl
  have hd : decide (least ≤ (N.2 : Int) ∧ (N.2 : Int) ≤ 255) = true := decide_eq_true ⟨g2, g3⟩
  unfold stp
  rw [hz, h.ok, hd, uN_nat _ (by omega)]
  exact h3
/-- A long text. -/
theorem B_L {least most : Int} (hm : most ≤ 65535) (h : Pre L s a) (hs : (dL L least most s).1.1 = false) : s.1 = false ∧ least ≤ ((dL L least most s).2.length : Int) ∧ ((dL L least most s).2.length : Int) ≤ most ∧ Pre L (dL L least most s).1 (aL (dL L least most s).2 least most a) := by
  unfold dL at hs ⊢
  obtain ⟨g1, g2, g3, g4⟩ := B_N h (dT_ok hs)
  obtain ⟨h1, h2, h3⟩ := B_T g4 hs
  generalize dN L 2 least most s = N at *
  generalize dT L N.2 N.1 = T at *
  refine ⟨g1, by rw [h2]; exact g2, by rw [h2]; exact g3, ?_⟩
  have hd : decide (least ≤ (N.2 : Int) ∧ (N.2 : Int) ≤ most) = true := decide_eq_true ⟨g2, g3⟩
  unfold aL
  rw [h2, h.ok, hd, uN_nat _ (by omega)]
  exact h3
/-- A number of a putter. -/
theorem B_aN {n : Nat} {least most : Int} (hm : most ≤ 4294967295) (h : Pre L s a) (hs : (dN L n least most s).1.1 = false) : s.1 = false ∧ Pre L (dN L n least most s).1 (aN n ((dN L n least most s).2 : Int) least most a) := by
  obtain ⟨g1, g2, g3, g4⟩ := B_N h hs
  refine ⟨g1, ?_⟩
  generalize dN L n least most s = N at *
  have hd : decide (least ≤ (N.2 : Int) ∧ (N.2 : Int) ≤ most) = true := decide_eq_true ⟨g2, g3⟩
  unfold aN
  rw [h.ok, hd, uN_nat _ (by omega)]
  exact g4
/-- A byte of flags. -/
theorem B_F {most : Int} (hm : most ≤ 255) (h : Pre L s a) (hs : (dN L 1 0 most s).1.1 = false) : s.1 = false ∧ Pre L (dN L 1 0 most s).1 (aF (dN L 1 0 most s).2 a) := by
  obtain ⟨g1, g2, g3, g4⟩ := B_N h hs
  refine ⟨g1, ?_⟩
  generalize dN L 1 0 most s = N at *
  unfold aF
  rw [h.ok]
  have : be 1 N.2 = [UInt8.ofNat N.2] := by simp [be]
  rw [this] at g4
  exact g4
/-- Texts, one behind the other. -/
theorem B_P (n : Nat) : ∀ {s : Sd} {a : St} (ns : List ByteArray), Pre L s a → (dPs L n s ns).1.1 = false → s.1 = false → ∃ ms : List ByteArray, (dPs L n s ns).2 = ns ++ ms ∧ ms.length = n ∧ Pre L (dPs L n s ns).1 (prs a ms) := by
  induction n with
  | zero => intro s a ns h hs _; exact ⟨[], by simp [dPs], rfl, h⟩
  | succ n ih =>
    intro s a ns h hs h0
    unfold dPs at hs ⊢
    by_cases hb : (dS L 1 s).1.1 = true
    · rw [if_pos hb] at hs; rw [hb] at hs; cases hs
    · rw [if_neg hb] at hs ⊢
      have hb' : (dS L 1 s).1.1 = false := by simpa using hb
      obtain ⟨g1, g2, g3, g4⟩ := B_S h hb'
      obtain ⟨ms, e1, e2, e3⟩ := ih _ g4 hs hb'
      exact ⟨⟨(dS L 1 s).2.toArray⟩ :: ms, by rw [e1]; simp, by simp [e2], e3⟩
theorem dPs_ok (n : Nat) : ∀ {s : Sd} (ns : List ByteArray), (dPs L n s ns).1.1 = false → s.1 = false := by
  induction n with
  | zero => intro s ns h; exact h
  | succ n ih =>
    intro s ns h
    unfold dPs at h
    by_cases hb : (dS L 1 s).1.1 = true
    · rw [if_pos hb] at h; rw [hb] at h; cases h
    · rw [if_neg hb] at h
      have hb' : (dS L 1 s).1.1 = false := by simpa using hb
      exact dN_ok (dT_ok hb')
/-- Handles. -/
theorem B_H (h : Pre L s a) (hs : (dT L 16 s).1.1 = false) (old : List UInt8) : s.1 = false ∧ Pre L (dT L 16 s).1 (aH [newH old (dT L 16 s).2] a) := by
  obtain ⟨h1, h2, h3⟩ := B_T h hs
  refine ⟨h1, ?_⟩
  unfold newH aH
  rw [if_pos h2, h.ok]
  simpa using h3
end
end Go.Proofs.Ytcchlicokglmnaa
