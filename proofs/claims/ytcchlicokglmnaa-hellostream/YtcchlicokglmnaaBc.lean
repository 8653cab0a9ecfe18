/- What is laid is read again: the parts. -/
import Derived.Test.YtcchlicokglmnaaBb
namespace Go.Proofs.Ytcchlicokglmnaa
open Go.ChangeShapes Go.WideShapes Go.ChangeAt Go.RowKit Go.Lib
set_option linter.unusedVariables false

section
variable {L : List UInt8} {a : St}
theorem A_T (P T : List UInt8) (h : P ++ T <+: L) : dT L T.length (false, P.length) = ((false, P.length + T.length), T) := by
  obtain ⟨R, rfl⟩ := h
  unfold dT
  have h1 : decide (P.length + T.length ≤ (P ++ T ++ R).length) = true := decide_eq_true (by simp)
  have h2 : sub (P ++ T ++ R) P.length T.length = T := by simp [sub]
  simp only [h1, h2]
  rfl
theorem A_N (P : List UInt8) (n v : Nat) (least most : Int) (hv : v < 256 ^ n) (h1 : least ≤ v) (h2 : (v : Int) ≤ most) (h : P ++ be n v <+: L) : dN L n least most (false, P.length) = ((false, P.length + n), v) := by
  obtain ⟨R, rfl⟩ := h
  have hl := be_length n v
  have hsub : sub (P ++ be n v ++ R) P.length n = be n v := by
    have : sub (P ++ be n v ++ R) P.length (be n v).length = be n v := by simp [sub]
    rw [hl] at this; exact this
  have hnum : num (be n v) = v := by rw [num_be, Nat.mod_eq_of_lt hv]
  have hok : nmOk (P ++ be n v ++ R) P.length n least most = true := by
    unfold nmOk
    rw [hsub, hnum]
    simp [hl, h1, h2]
  unfold dN
  simp only [hok, hsub, hnum]
  rfl
theorem pre_left {P Q : List UInt8} (h : P ++ Q <+: L) : P <+: L := (List.prefix_append P Q).trans h
theorem stp_ok {least : Int} {S : ByteArray} (h : (stp least a S).2 = false) : a.2 = false ∧ least ≤ (S.size : Int) ∧ S.size ≤ 255 ∧ (stp least a S).1 = a.1 ++ be 1 S.size ++ S.data.toList := by
  unfold stp at h ⊢
  simp only at h ⊢
  have hh := h
  simp only [Bool.or_eq_false_iff, Bool.not_eq_false', decide_eq_true_eq] at hh
  refine ⟨hh.1, hh.2.1, by omega, ?_⟩
  rw [h, uN_nat _ (by omega)]
  rfl
theorem aL_ok {l : List UInt8} {least most : Int} (hm : most ≤ 65535) (h : (aL l least most a).2 = false) : a.2 = false ∧ least ≤ (l.length : Int) ∧ (l.length : Int) ≤ most ∧ (aL l least most a).1 = a.1 ++ be 2 l.length ++ l := by
  unfold aL at h ⊢
  simp only at h ⊢
  have hh := h
  simp only [Bool.or_eq_false_iff, Bool.not_eq_false', decide_eq_true_eq] at hh
  refine ⟨hh.1, hh.2.1, hh.2.2, ?_⟩
  rw [h, uN_nat _ (by omega)]
  rfl
theorem A_S {least : Int} {S : ByteArray} (h : (stp least a S).2 = false) (hp : (stp least a S).1 <+: L) : dS L least (false, a.1.length) = ((false, (stp least a S).1.length), S.data.toList) := by
  obtain ⟨h1, h2, h3, h4⟩ := stp_ok h
  rw [h4] at hp ⊢
  have hl : S.data.toList.length = S.size := rfl
  have e1 := A_N a.1 1 S.size least 255 (by omega) h2 (by omega) (pre_left hp)
  have e2 := A_T (a.1 ++ be 1 S.size) S.data.toList hp
  rw [hl] at e2
  unfold dS
  rw [e1]
  have e3 : (a.1 ++ be 1 S.size).length = a.1.length + 1 := by simp [be_length]
  rw [e3] at e2
  simp only
  rw [e2]
  simp only [List.length_append, be_length, hl]
theorem A_L {l : List UInt8} {least most : Int} (hm : most ≤ 65535) (h : (aL l least most a).2 = false) (hp : (aL l least most a).1 <+: L) : dL L least most (false, a.1.length) = ((false, (aL l least most a).1.length), l) := by
  obtain ⟨h1, h2, h3, h4⟩ := aL_ok hm h
  rw [h4] at hp ⊢
  have e1 := A_N a.1 2 l.length least most (by omega) h2 h3 (pre_left hp)
  have e2 := A_T (a.1 ++ be 2 l.length) l hp
  unfold dL
  rw [e1]
  have e3 : (a.1 ++ be 2 l.length).length = a.1.length + 2 := by simp [be_length]
  rw [e3] at e2
  simp only
  rw [e2]
  simp only [List.length_append, be_length]
theorem prs_ok : ∀ (Ns : List ByteArray) {a : St}, (prs a Ns).2 = false → a.2 = false ∧ a.1 <+: (prs a Ns).1
  | [], a, h => ⟨h, List.prefix_rfl⟩
  | S :: t, a, h => by
    obtain ⟨h1, h2⟩ := prs_ok t (a := stp 1 a S) h
    obtain ⟨g1, _, _, g4⟩ := stp_ok h1
    refine ⟨g1, List.IsPrefix.trans ?_ h2⟩
    rw [g4, List.append_assoc]
    exact List.prefix_append _ _
theorem A_P : ∀ (Ns : List ByteArray) {a : St} (ns : List ByteArray), (prs a Ns).2 = false → (prs a Ns).1 <+: L → dPs L Ns.length (false, a.1.length) ns = ((false, (prs a Ns).1.length), ns ++ Ns)
  | [], a, ns, h, hp => by simp [dPs, prs]
  | S :: t, a, ns, h, hp => by
    obtain ⟨h1, h2⟩ := prs_ok t (a := stp 1 a S) h
    have e1 := A_S h1 (h2.trans hp)
    show dPs L (t.length + 1) _ _ = _
    unfold dPs
    rw [e1]
    have := A_P t (a := stp 1 a S) (ns ++ [S]) h hp
    simp only [Bool.false_eq_true, if_false]
    have hS : (⟨S.data.toList.toArray⟩ : ByteArray) = S := by simp
    rw [hS, this]
    simp [prs]
theorem A_H {x : List UInt8} (hx : x.length = 16) (hp : (aH [x] a).1 <+: L) : dT L 16 (false, a.1.length) = ((false, (aH [x] a).1.length), x) := by
  have e : (aH [x] a).1 = a.1 ++ x := by simp [aH]
  rw [e] at hp ⊢
  have := A_T a.1 x hp
  rw [hx] at this
  rw [this]
  simp [hx]
theorem A_F {n : Nat} {most : Int} (hn : n < 256) (hm : (n : Int) ≤ most) (hp : (aF n a).1 <+: L) : dN L 1 0 most (false, a.1.length) = ((false, (aF n a).1.length), n) := by
  have e : (aF n a).1 = a.1 ++ be 1 n := by simp [aF, be]
  rw [e] at hp ⊢
  rw [A_N a.1 1 n 0 most (by omega) (by omega) hm hp]
  simp [be_length]
theorem A_aN {n : Nat} {x least most : Int} (h : (aN n x least most a).2 = false) (h0 : 0 ≤ least) (hm : most < ((256 ^ n : Nat) : Int)) (hn : n ≤ 4) (hp : (aN n x least most a).1 <+: L) : dN L n least most (false, a.1.length) = ((false, (aN n x least most a).1.length), x.toNat) ∧ a.2 = false := by
  unfold aN at h hp ⊢
  simp only [Bool.or_eq_false_iff, Bool.not_eq_false', decide_eq_true_eq] at h
  simp only at hp ⊢
  obtain ⟨v, rfl⟩ := Int.eq_ofNat_of_zero_le (show 0 ≤ x by omega)
  have hv : v < 256 ^ n := Int.ofNat_lt.1 (Int.lt_of_le_of_lt h.2.2 hm)
  have h64 : 256 ^ n ≤ 256 ^ 4 := Nat.pow_le_pow_right (by decide) hn
  have hu : uN (v : Int) = v := uN_nat v (by omega)
  rw [hu] at hp ⊢
  refine ⟨?_, h.1⟩
  rw [A_N a.1 n v least most hv h.2.1 h.2.2 hp]
  simp [be_length]
end
end Go.Proofs.Ytcchlicokglmnaa
