/- frame: what the reader's steps took can be laid again in no more bytes. frame: what was read can be put, kind by kind. frame: what was read can be put, is no longer, and is read again. -/
import Derived.Test.YtaeapgkfmofjlaaDoorNa
import Derived.Test.YtaeapgkfmofjlaaDoorNc
namespace Go.Proofs.YtaeapgkfmofjlaaDoor
open Go.ChangeShapes Go.WideShapes Go.ChangeAt Go.RowKit
set_option linter.unusedVariables false
set_option maxRecDepth 100000

theorem vsz {l : List UInt8} {a : Int} (h : vE l a = 0) : szN (vV l a) ≤ vN l a - a := by
  have ho : vOk l a := by
    unfold vE at h
    split at h
    · cases h
    · split at h
      · assumption
      · cases h
  unfold vV vN
  rw [if_pos ho, if_pos ho]
  have hb : (l.getD a.toNat 0).toNat < 256 := (l.getD a.toNat 0).toNat_lt
  have hq : (l.getD a.toNat 0).toNat / 64 = 0 ∨ (l.getD a.toNat 0).toNat / 64 = 1 ∨ (l.getD a.toNat 0).toNat / 64 = 2 ∨ (l.getD a.toNat 0).toNat / 64 = 3 := by omega
  generalize num (sub l a.toNat (wd l a.toNat)) = N
  unfold wd
  have e0 : 2 ^ (8 * 2 ^ 0 - 2) = 64 := rfl
  have e1 : 2 ^ (8 * 2 ^ 1 - 2) = 16384 := rfl
  have e2 : 2 ^ (8 * 2 ^ 2 - 2) = 1073741824 := rfl
  have e3 : 2 ^ (8 * 2 ^ 3 - 2) = 4611686018427387904 := rfl
  unfold szN
  rcases hq with hq | hq | hq | hq <;> rw [hq]
  · rw [e0, if_pos (by omega)]; omega
  · rw [e1]
    split
    · omega
    · rw [if_pos (by omega)]; omega
  · rw [e2]
    split
    · omega
    · split
      · omega
      · rw [if_pos (by omega)]; omega
  · rw [e3]
    split
    · omega
    · split
      · omega
      · split <;> omega
theorem badv_rng {v : Int} (h0 : 0 ≤ v) (h1 : v ≤ 4611686018427387903) : badv v = false := by
  unfold badv vaE
  rw [decide_eq_false]
  rw [if_neg (by omega)]
  simp
theorem encv_len {v : Int} (h : badv v = false) : ((encv v).length : Int) = szN v := by
  obtain ⟨_, _, h2⟩ := badv_ok h
  rw [h2, enc_length]
  have : 1 ≤ szN v := by
    unfold szN
    split
    · decide
    · split
      · decide
      · split <;> decide
  omega
theorem xN_rd {l : List UInt8} {s : Sq} (h : (xN l s).2.2 = 0) : s.2 = 0 ∧ badv (xN l s).1 = false ∧ s.1 + (encv (xN l s).1).length ≤ (xN l s).2.1 := by
  by_cases h0 : s.2 = 0
  · by_cases hv : vE l s.1 = 0
    · have e : xN l s = (vV l s.1, ((vN l s.1).toNat, 0)) := by unfold xN; rw [if_neg (fun q => q h0), if_pos hv]
      rw [e]
      dsimp only
      obtain ⟨r0, r1⟩ := vV_rng l s.1
      have hb := badv_rng r0 r1
      have hl := encv_len hb
      have hz := vsz hv
      exact ⟨h0, hb, by omega⟩
    · exfalso
      have e : xN l s = (0, (s.1, 10)) := by unfold xN; rw [if_neg (fun q => q h0), if_neg hv]
      rw [e] at h
      cases h
  · exfalso
    have e : xN l s = (0, s) := by unfold xN; rw [if_pos h0]
    rw [e] at h
    exact h0 h
theorem xT_rd {l : List UInt8} {s : Sq} {n : Nat} (h : (xT l s n).2.2 = 0) : s.2 = 0 ∧ (xT l s n).1.length = n ∧ (xT l s n).2.1 = s.1 + n := by
  by_cases h0 : s.2 = 0
  · by_cases hv : l.length - s.1 < n
    · exfalso
      have e : xT l s n = ([], (s.1, 10)) := by unfold xT; rw [if_neg (fun q => q h0), if_pos hv]
      rw [e] at h
      cases h
    · have e : xT l s n = (sub l s.1 n, (s.1 + n, 0)) := by unfold xT; rw [if_neg (fun q => q h0), if_neg hv]
      rw [e]
      refine ⟨h0, ?_, rfl⟩
      show (sub l s.1 n).length = n
      unfold sub
      rw [List.length_take, List.length_drop]
      omega
  · exfalso
    have e : xT l s n = ([], s) := by unfold xT; rw [if_pos h0]
    rw [e] at h
    exact h0 h
theorem xT_short (l : List UInt8) (s : Sq) (n : Nat) : (xT l s n).1.length ≤ l.length := by
  unfold xT
  split
  · exact Nat.zero_le _
  · split
    · exact Nat.zero_le _
    · show (sub l s.1 n).length ≤ _
      unfold sub
      rw [List.length_take, List.length_drop]
      omega
theorem yNs_rd {l : List UInt8} : ∀ (js : List Nat) (x : Fa) (s : Sq), (yNs l (x, s) js).2.2 = 0 → ∃ vs : List Int, vs.length = js.length ∧ s.2 = 0 ∧ bads vs = false ∧ (yNs l (x, s) js).1 = puts x js vs ∧ s.1 + (encs vs).length ≤ (yNs l (x, s) js).2.1
  | [], x, s, h => ⟨[], rfl, h, rfl, rfl, Nat.le_refl _⟩
  | j :: js, x, s, h => by
    have h' : (yNs l (x.put j (xN l s).1, (xN l s).2) js).2.2 = 0 := h
    obtain ⟨vs, h1, h2, h3, h4, h5⟩ := yNs_rd js _ _ h'
    obtain ⟨n1, n2, n3⟩ := xN_rd h2
    refine ⟨(xN l s).1 :: vs, by simp [h1], n1, by rw [bads_cons, n2, h3]; rfl, h4, ?_⟩
    rw [encs_cons, List.length_append]
    have h5' : (xN l s).2.1 + (encs vs).length ≤ (yNs l (x, s) (j :: js)).2.1 := h5
    omega
theorem yC_rd {l : List UInt8} {a : Fa × Sq} (h : (yC l a).2.2 = 0) : a.2.2 = 0 ∧ ∃ D : List UInt8, (yC l a).1 = { a.1 with D := D } ∧ D.length ≤ l.length ∧ a.2.1 + (encv D.length).length + D.length ≤ (yC l a).2.1 := by
  have h' : (xT l (xN l a.2).2 (xN l a.2).1.toNat).2.2 = 0 := h
  obtain ⟨t1, t2, t3⟩ := xT_rd h'
  obtain ⟨n1, n2, n3⟩ := xN_rd t1
  refine ⟨n1, _, rfl, xT_short _ _ _, ?_⟩
  show _ ≤ (xT l (xN l a.2).2 (xN l a.2).1.toNat).2.1
  obtain ⟨b0, _, _⟩ := badv_ok n2
  rw [t2, t3, Int.toNat_of_nonneg b0]
  omega
theorem yE_rd {l : List UInt8} {a : Fa × Sq} (h : (yE l a).2.2 = 0) : a.2.2 = 0 ∧ ∃ D : List UInt8, (yE l a).1 = { a.1 with D := D } ∧ D.length ≤ l.length ∧ a.2.1 + D.length ≤ (yE l a).2.1 := by
  have h' : (xT l a.2 (l.length - a.2.1)).2.2 = 0 := h
  obtain ⟨t1, t2, t3⟩ := xT_rd h'
  refine ⟨t1, _, rfl, xT_short _ _ _, ?_⟩
  show _ ≤ (xT l a.2 (l.length - a.2.1)).2.1
  rw [t2, t3]
  exact Nat.le_refl _
theorem yI_rd {l : List UInt8} {a : Fa × Sq} (h : (yI l a).2.2 = 0) : a.2.2 = 0 ∧ ∃ I : List UInt8, (yI l a).1 = { a.1 with I := I } ∧ a.2.1 + 1 + I.length ≤ (yI l a).2.1 := by
  have h' : (xT l (xT l a.2 1).2 ((xT l a.2 1).1.headD 0).toNat).2.2 = 0 := h
  obtain ⟨t1, t2, t3⟩ := xT_rd h'
  obtain ⟨n1, n2, n3⟩ := xT_rd t1
  refine ⟨n1, _, rfl, ?_⟩
  show _ ≤ (xT l (xT l a.2 1).2 ((xT l a.2 1).1.headD 0).toNat).2.1
  rw [t2, t3, n3]
  exact Nat.le_refl _
theorem yR_rd {l : List UInt8} {a : Fa × Sq} (h : (yR l a).2.2 = 0) : a.2.2 = 0 ∧ ∃ R : List UInt8, R.length = 16 ∧ (yR l a).1 = { a.1 with R := R } ∧ a.2.1 + 16 ≤ (yR l a).2.1 := by
  have h' : (xT l a.2 16).2.2 = 0 := h
  obtain ⟨t1, t2, t3⟩ := xT_rd h'
  refine ⟨t1, (xT l a.2 16).1, t2, ?_, ?_⟩
  · unfold yR
    dsimp only
    rw [if_pos t2]
  · show _ ≤ (xT l a.2 16).2.1
    rw [t3]
    exact Nat.le_refl _
theorem yP_rd {l : List UInt8} {a : Fa × Sq} (h : (yP l a).2.2 = 0) : a.2.2 = 0 ∧ ∃ R : List UInt8, R.length = 8 ∧ (yP l a).1 = { a.1 with T := R } ∧ a.2.1 + 8 ≤ (yP l a).2.1 := by
  have h' : (xT l a.2 8).2.2 = 0 := h
  obtain ⟨t1, t2, t3⟩ := xT_rd h'
  refine ⟨t1, (xT l a.2 8).1, t2, ?_, ?_⟩
  · unfold yP
    dsimp only
    rw [if_pos t2]
  · show _ ≤ (xT l a.2 8).2.1
    rw [t3]
    exact Nat.le_refl _
theorem yZ_rd {l : List UInt8} {a : Fa × Sq} (h : (yZ l a).2.2 = 0) : a.2.2 = 0 ∧ ∃ n : Nat, (yZ l a).1 = { a.1 with cnt := 1 + (n : Int) } ∧ a.2.1 + n ≤ (yZ l a).2.1 := ⟨h, zc l a.2.1, rfl, Nat.le_refl _⟩
theorem xD_rd {l : List UInt8} {s : Sq} {x k : Int} (h : (xD l s x k).2.2 = 0) : s.2 = 0 ∧ 0 ≤ (xD l s x k).1 ∧ badv (x - (xD l s x k).1 - k) = false ∧ s.1 + (encv (x - (xD l s x k).1 - k)).length ≤ (xD l s x k).2.1 := by
  by_cases hc : x - (xN l s).1 - k < 0
  · exfalso
    have e : (xD l s x k).2 = flt (xN l s).2 11 := by unfold xD; dsimp only; rw [if_pos hc]
    rw [e] at h
    unfold flt at h
    dsimp only at h
    split at h
    · cases h
    · contradiction
  · have e : xD l s x k = (x - (xN l s).1 - k, (xN l s).2) := by unfold xD; rw [if_neg hc]
    rw [e] at h ⊢
    dsimp only at h ⊢
    obtain ⟨n1, n2, n3⟩ := xN_rd h
    rw [show x - (x - (xN l s).1 - k) - k = (xN l s).1 by omega]
    exact ⟨n1, by omega, n2, n3⟩
theorem sL_rd {l : List UInt8} : ∀ (n : Nat) (x : Int) (s : Sq) (acc : List (Int × Int)), (sL l n x s acc).2.2 = 0 → s.2 = 0 ∧ ∃ t : List (Int × Int), t.length = n ∧ (sL l n x s acc).1 = acc ++ t ∧ okS (x - 2) t = true ∧ bads (pr x t) = false ∧ s.1 + (encs (pr x t)).length ≤ (sL l n x s acc).2.1
  | 0, x, s, acc, h => ⟨h, [], rfl, by simp [sL], rfl, rfl, Nat.le_refl _⟩
  | n + 1, x, s, acc, h => by
    unfold sL at h ⊢
    by_cases hc : (xD l (xD l s x 2).2 (xD l s x 2).1 0).2.2 ≠ 0
    · rw [if_pos hc] at h
      exact absurd h hc
    · rw [if_neg hc] at h ⊢
      have hc' : (xD l (xD l s x 2).2 (xD l s x 2).1 0).2.2 = 0 := by
        by_cases q : (xD l (xD l s x 2).2 (xD l s x 2).1 0).2.2 = 0
        · exact q
        · exact absurd q hc
      obtain ⟨a1, a2, a3, a4⟩ := xD_rd hc'
      obtain ⟨b1, b2, b3, b4⟩ := xD_rd a1
      obtain ⟨_, t, h1, h2, h3, h4, h5⟩ := sL_rd n _ _ _ h
      generalize (xD l (xD l s x 2).2 (xD l s x 2).1 0).1 = a at *
      generalize (xD l s x 2).1 = b at *
      obtain ⟨g1, _, _⟩ := badv_ok a3
      obtain ⟨g2, _, _⟩ := badv_ok b3
      refine ⟨b1, (a, b) :: t, by simp [h1], by rw [h2]; simp, ?_, ?_, ?_⟩
      · simp only [okS, h3, Bool.and_true, Bool.not_eq_true', Bool.or_eq_false_iff, decide_eq_false_iff_not]
        omega
      · simp only [pr, bads_cons, h4, Bool.or_false, Bool.or_eq_false_iff]
        rw [show b - a - 0 = b - a by omega] at a3
        rw [show x - b - 2 = x - b - 2 from rfl] at b3
        exact ⟨b3, a3⟩
      · simp only [pr, encs_cons, List.length_append]
        rw [show b - a - 0 = b - a by omega] at a4
        omega
theorem yA_rd {l : List UInt8} {a : Fa × Sq} (h : (yA l a).2.2 = 0) : a.2.2 = 0 ∧ ∃ (A : List (Int × Int)) (del : Int), (yA l a).1 = { a.1 with del := del, A := A } ∧ ackX A del = false ∧ a.2.1 + (ackB A del).length ≤ (yA l a).2.1 := by
  obtain ⟨N1, hN1⟩ : ∃ z, xN l a.2 = z := ⟨_, rfl⟩
  obtain ⟨N2, hN2⟩ : ∃ z, xN l N1.2 = z := ⟨_, rfl⟩
  obtain ⟨N3, hN3⟩ : ∃ z, xN l N2.2 = z := ⟨_, rfl⟩
  have e : yA l a = ({ a.1 with del := N2.1, A := (xS l (yA3 l N2.2) N1.1 N3.1.toNat).1 }, (xS l (yA3 l N2.2) N1.1 N3.1.toNat).2) := by
    unfold yA
    rw [hN1, hN2, hN3]
  rw [e] at h ⊢
  dsimp only at h ⊢
  have h' : (sL l N3.1.toNat (xD l (yA3 l N2.2) N1.1 0).1 (xD l (yA3 l N2.2) N1.1 0).2 [((xD l (yA3 l N2.2) N1.1 0).1, N1.1)]).2.2 = 0 := h
  obtain ⟨s0, t, t1, t2, t3, t4, t5⟩ := sL_rd _ _ _ _ h'
  obtain ⟨d1, d2, d3, d4⟩ := xD_rd s0
  have h3 : ¬ 256 ≤ N3.1 ∧ yA3 l N2.2 = N3.2 := by
    unfold yA3 at d1 ⊢
    rw [hN3] at d1 ⊢
    by_cases q : 256 ≤ N3.1
    · exfalso
      rw [if_pos q] at d1
      unfold flt at d1
      dsimp only at d1
      split at d1
      · cases d1
      · contradiction
    · rw [if_neg q]
      exact ⟨q, rfl⟩
  obtain ⟨q3, e3⟩ := h3
  have eS : xS l (yA3 l N2.2) N1.1 N3.1.toNat = sL l N3.1.toNat (xD l (yA3 l N2.2) N1.1 0).1 (xD l (yA3 l N2.2) N1.1 0).2 [((xD l (yA3 l N2.2) N1.1 0).1, N1.1)] := rfl
  rw [eS, t2]
  rw [e3] at d1 d2 d3 d4 t2 t3 t4 t5 ⊢
  have k3 := xN_rd (l := l) (s := N2.2) (by rw [hN3]; exact d1)
  rw [hN3] at k3
  have k2 := xN_rd (l := l) (s := N1.2) (by rw [hN2]; exact k3.1)
  rw [hN2] at k2
  have k1 := xN_rd (l := l) (s := a.2) (by rw [hN1]; exact k2.1)
  rw [hN1] at k1
  obtain ⟨f, hf⟩ : ∃ f, (xD l N3.2 N1.1 0).1 = f := ⟨_, rfl⟩
  rw [hf] at d2 d3 d4 t2 t3 t4 t5 ⊢
  obtain ⟨g1, g2, _⟩ := badv_ok k1.2.1
  obtain ⟨g3, _, _⟩ := badv_ok k3.2.1
  obtain ⟨g4, _, _⟩ := badv_ok d3
  rw [show N1.1 - f - 0 = N1.1 - f by omega] at d3 d4
  have hT : (([(f, N1.1)] ++ t : List (Int × Int)).length : Int) - 1 = N3.1 := by
    simp only [List.length_append, List.length_cons, List.length_nil, t1]
    omega
  have hL : ackL ([(f, N1.1)] ++ t) N2.1 = N1.1 :: N2.1 :: N3.1 :: (N1.1 - f) :: pr f t := by
    unfold ackL
    rw [hT, show ([(f, N1.1)] ++ t : List (Int × Int)) = (f, N1.1) :: t from rfl, show ((f, N1.1) :: t : List (Int × Int)).length = t.length + 1 from rfl, pers_pr (f, N1.1) t t.length (Nat.le_refl _), List.take_length]
    rfl
  have hsp : spB ([(f, N1.1)] ++ t) = true := by
    unfold spB
    simp only [Bool.and_eq_true, decide_eq_true_eq]
    refine ⟨⟨by simp, by simp [t1]; omega⟩, ?_⟩
    show okS 4611686018427387903 ((f, N1.1) :: t) = true
    simp only [okS, t3, Bool.and_true, Bool.not_eq_true', Bool.or_eq_false_iff, decide_eq_false_iff_not]
    omega
  refine ⟨k1.1, _, _, rfl, ?_, ?_⟩
  · unfold ackX
    rw [if_pos hsp, hL]
    simp only [bads_cons, k1.2.1, k2.2.1, k3.2.1, d3, t4, Bool.or_false]
  · unfold ackB
    rw [if_pos hsp, hL]
    simp only [encs_cons, List.length_append]
    omega
end Go.Proofs.YtaeapgkfmofjlaaDoor
namespace Go.Proofs.YtaeapgkfmofjlaaDoor
open Go.ChangeShapes Go.WideShapes Go.ChangeAt Go.RowKit
set_option linter.unusedVariables false
set_option maxRecDepth 100000

theorem yNs_rd' {l : List UInt8} (js : List Nat) {a : Fa × Sq} (h : (yNs l a js).2.2 = 0) : ∃ vs : List Int, vs.length = js.length ∧ a.2.2 = 0 ∧ bads vs = false ∧ (yNs l a js).1 = puts a.1 js vs ∧ a.2.1 + (encs vs).length ≤ (yNs l a js).2.1 := by
  obtain ⟨x, s⟩ := a
  exact yNs_rd js x s h
theorem len_1 {vs : List Int} (h : vs.length = 1) : ∃ a, vs = [a] := by
  match vs, h with
  | [a], _ => exact ⟨a, rfl⟩
theorem len_2 {vs : List Int} (h : vs.length = 2) : ∃ a b, vs = [a, b] := by
  match vs, h with
  | [a, b], _ => exact ⟨a, b, rfl⟩
theorem len_3 {vs : List Int} (h : vs.length = 3) : ∃ a b c, vs = [a, b, c] := by
  match vs, h with
  | [a, b, c], _ => exact ⟨a, b, c, rfl⟩
/-- What is much: data of more than 2^20 bytes, more than 2^20 bytes of padding. -/
def much (a : Fa) : Prop := 1048576 < a.D.length ∨ 1048576 < a.cnt
instance (a : Fa) : Decidable (much a) := inferInstanceAs (Decidable (_ ∨ _))
theorem ackX_le {A : List (Int × Int)} {del : Int} (h : ackX A del = false) : A.length ≤ 256 := by
  obtain ⟨h1, _, _⟩ := ackX_ok h
  simp only [spB, Bool.and_eq_true, decide_eq_true_eq] at h1
  exact h1.1.2
/-- What was read can be put. -/
def Kr (l : List UInt8) (n1 : Nat) (a : Fa) (n2 : Nat) : Prop := (a.D.length ≤ l.length ∧ a.A.length ≤ 256) ∧ isKd a.k = true ∧ ¬ (8 < a.k ∧ a.k < 16) ∧ a.R.length = 16 ∧ a.T.length = 8 ∧ can (stB a) a = a ∧ pX (stB a) a = decide (much a) ∧ (¬ much a → n1 + (pB (stB a) a).length ≤ n2)
theorem kr_0 {l : List UInt8} {n1 : Nat} (h : (yW 0 l (ab (bgF 0) dz, (n1, 0))).2.2 = 0) : Kr l n1 (yW 0 l (ab (bgF 0) dz, (n1, 0))).1 (yW 0 l (ab (bgF 0) dz, (n1, 0))).2.1 := by
  have e : yW 0 l (ab (bgF 0) dz, (n1, 0)) = yZ l ((ab (bgF 0) dz, (n1, 0))) := rfl
  rw [e] at h ⊢
  clear e
  obtain ⟨z0, n, p0, q0⟩ := yZ_rd h
  have er : (yZ l ((ab (bgF 0) dz, (n1, 0)))).1 = { (ab (bgF 0) dz) with cnt := 1 + (n : Int) } := by rw [p0]
  rw [er]
  dsimp only at q0
  generalize (yZ l ((ab (bgF 0) dz, (n1, 0)))).2.1 = n2 at *
  clear p0 er h z0
  have hs : stB ({ (ab (bgF 0) dz) with cnt := 1 + (n : Int) }) = 0 := rfl
  have eX : pX 0 ({ (ab (bgF 0) dz) with cnt := 1 + (n : Int) }) = decide ((1048576 : Int) < 1 + (n : Int)) := rfl
  have eB : pB 0 ({ (ab (bgF 0) dz) with cnt := 1 + (n : Int) }) = padB (1 + (n : Int)) := rfl
  have hM : much ({ (ab (bgF 0) dz) with cnt := 1 + (n : Int) }) = (1048576 < (([] : List UInt8)).length ∨ (1048576 : Int) < 1 + (n : Int)) := rfl
  refine ⟨⟨Nat.zero_le _, Nat.zero_le _⟩, (show isKd 0 = true by decide), (show ¬ ((8 : Int) < 0 ∧ (0 : Int) < 16) by decide), rfl, rfl, ?_, ?_, ?_⟩
  · rw [hs]; rfl
  · rw [hs, eX]
    simp [hM]
  · intro hm
    rw [hM] at hm
    rw [hs, eB]
    unfold padB
    rw [if_pos (by omega), List.length_replicate]
    omega
theorem kr_1 {l : List UInt8} {n1 : Nat} (h : (yW 1 l (ab (bgF 1) dz, (n1, 0))).2.2 = 0) : Kr l n1 (yW 1 l (ab (bgF 1) dz, (n1, 0))).1 (yW 1 l (ab (bgF 1) dz, (n1, 0))).2.1 := by
  have e : yW 1 l (ab (bgF 1) dz, (n1, 0)) = (ab (bgF 1) dz, (n1, 0)) := rfl
  rw [e] at h ⊢
  clear e
  have hs : stB (ab (bgF 1) dz) = 1 := rfl
  have eX : pX 1 (ab (bgF 1) dz) = false := rfl
  have eB : pB 1 (ab (bgF 1) dz) = ([] : List UInt8) := rfl
  have hM : much (ab (bgF 1) dz) = (1048576 < (([] : List UInt8)).length ∨ (1048576 : Int) < 0) := rfl
  refine ⟨⟨Nat.zero_le _, Nat.zero_le _⟩, (show isKd 1 = true by decide), (show ¬ ((8 : Int) < 1 ∧ (1 : Int) < 16) by decide), rfl, rfl, ?_, ?_, ?_⟩
  · rw [hs]; rfl
  · rw [hs, eX]
    simp [hM]
  · intro hm
    rw [hM] at hm
    rw [hs, eB]
    exact Nat.le_refl _
theorem kr_2 {l : List UInt8} {n1 : Nat} (h : (yW 2 l (ab (bgF 2) dz, (n1, 0))).2.2 = 0) : Kr l n1 (yW 2 l (ab (bgF 2) dz, (n1, 0))).1 (yW 2 l (ab (bgF 2) dz, (n1, 0))).2.1 := by
  have e : yW 2 l (ab (bgF 2) dz, (n1, 0)) = yA l ((ab (bgF 2) dz, (n1, 0))) := rfl
  rw [e] at h ⊢
  clear e
  obtain ⟨z0, A, del, p0, b0, q0⟩ := yA_rd h
  have er : (yA l ((ab (bgF 2) dz, (n1, 0)))).1 = { (ab (bgF 2) dz) with del := del, A := A } := by rw [p0]
  rw [er]
  dsimp only at q0
  generalize (yA l ((ab (bgF 2) dz, (n1, 0)))).2.1 = n2 at *
  clear p0 er h z0
  have hs : stB ({ (ab (bgF 2) dz) with del := del, A := A }) = 2 := rfl
  have eX : pX 2 ({ (ab (bgF 2) dz) with del := del, A := A }) = ackX A del := rfl
  have eB : pB 2 ({ (ab (bgF 2) dz) with del := del, A := A }) = ackB A del := rfl
  have hM : much ({ (ab (bgF 2) dz) with del := del, A := A }) = (1048576 < (([] : List UInt8)).length ∨ (1048576 : Int) < 0) := rfl
  refine ⟨⟨Nat.zero_le _, ackX_le b0⟩, (show isKd 2 = true by decide), (show ¬ ((8 : Int) < 2 ∧ (2 : Int) < 16) by decide), rfl, rfl, ?_, ?_, ?_⟩
  · rw [hs]; rfl
  · rw [hs, eX, b0]
    simp [hM]
  · intro hm
    rw [hM] at hm
    rw [hs, eB]
    omega
theorem kr_3 {l : List UInt8} {n1 : Nat} (h : (yW 3 l (ab (bgF 3) dz, (n1, 0))).2.2 = 0) : Kr l n1 (yW 3 l (ab (bgF 3) dz, (n1, 0))).1 (yW 3 l (ab (bgF 3) dz, (n1, 0))).2.1 := by
  have e : yW 3 l (ab (bgF 3) dz, (n1, 0)) = yNs l (yA l ((ab (bgF 3) dz, (n1, 0)))) [11, 12, 13] := rfl
  rw [e] at h ⊢
  clear e
  obtain ⟨v1, l1, z1, b1, p1, q1⟩ := yNs_rd' [11, 12, 13] h
  obtain ⟨z0, A, del, p0, b0, q0⟩ := yA_rd z1
  obtain ⟨x0, x1, x2, rfl⟩ := len_3 l1
  have er : (yNs l (yA l ((ab (bgF 3) dz, (n1, 0)))) [11, 12, 13]).1 = puts ({ (ab (bgF 3) dz) with del := del, A := A }) [11, 12, 13] [x0, x1, x2] := by rw [p1, p0]
  rw [er]
  dsimp only at q0 q1
  generalize (yNs l (yA l ((ab (bgF 3) dz, (n1, 0)))) [11, 12, 13]).2.1 = n2 at *
  clear p1 p0 er h z0 z1
  have hs : stB (puts ({ (ab (bgF 3) dz) with del := del, A := A }) [11, 12, 13] [x0, x1, x2]) = 3 := rfl
  have eX : pX 3 (puts ({ (ab (bgF 3) dz) with del := del, A := A }) [11, 12, 13] [x0, x1, x2]) = (ackX A del || bads [x0, x1, x2]) := rfl
  have eB : pB 3 (puts ({ (ab (bgF 3) dz) with del := del, A := A }) [11, 12, 13] [x0, x1, x2]) = (ackB A del ++ encs [x0, x1, x2]) := rfl
  have hM : much (puts ({ (ab (bgF 3) dz) with del := del, A := A }) [11, 12, 13] [x0, x1, x2]) = (1048576 < (([] : List UInt8)).length ∨ (1048576 : Int) < 0) := rfl
  refine ⟨⟨Nat.zero_le _, ackX_le b0⟩, (show isKd 3 = true by decide), (show ¬ ((8 : Int) < 3 ∧ (3 : Int) < 16) by decide), rfl, rfl, ?_, ?_, ?_⟩
  · rw [hs]; rfl
  · rw [hs, eX, b0, b1]
    simp [hM]
  · intro hm
    rw [hM] at hm
    rw [hs, eB]
    simp only [List.length_append]
    omega
theorem kr_4 {l : List UInt8} {n1 : Nat} (h : (yW 4 l (ab (bgF 4) dz, (n1, 0))).2.2 = 0) : Kr l n1 (yW 4 l (ab (bgF 4) dz, (n1, 0))).1 (yW 4 l (ab (bgF 4) dz, (n1, 0))).2.1 := by
  have e : yW 4 l (ab (bgF 4) dz, (n1, 0)) = yNs l ((ab (bgF 4) dz, (n1, 0))) [1, 7, 6] := rfl
  rw [e] at h ⊢
  clear e
  obtain ⟨v0, l0, z0, b0, p0, q0⟩ := yNs_rd' [1, 7, 6] h
  obtain ⟨x0, x1, x2, rfl⟩ := len_3 l0
  have er : (yNs l ((ab (bgF 4) dz, (n1, 0))) [1, 7, 6]).1 = puts (ab (bgF 4) dz) [1, 7, 6] [x0, x1, x2] := by rw [p0]
  rw [er]
  dsimp only at q0
  generalize (yNs l ((ab (bgF 4) dz, (n1, 0))) [1, 7, 6]).2.1 = n2 at *
  clear p0 er h z0
  have hs : stB (puts (ab (bgF 4) dz) [1, 7, 6] [x0, x1, x2]) = 4 := rfl
  have eX : pX 4 (puts (ab (bgF 4) dz) [1, 7, 6] [x0, x1, x2]) = bads [x0, x1, x2] := rfl
  have eB : pB 4 (puts (ab (bgF 4) dz) [1, 7, 6] [x0, x1, x2]) = encs [x0, x1, x2] := rfl
  have hM : much (puts (ab (bgF 4) dz) [1, 7, 6] [x0, x1, x2]) = (1048576 < (([] : List UInt8)).length ∨ (1048576 : Int) < 0) := rfl
  refine ⟨⟨Nat.zero_le _, Nat.zero_le _⟩, (show isKd 4 = true by decide), (show ¬ ((8 : Int) < 4 ∧ (4 : Int) < 16) by decide), rfl, rfl, ?_, ?_, ?_⟩
  · rw [hs]; rfl
  · rw [hs, eX, b0]
    simp [hM]
  · intro hm
    rw [hM] at hm
    rw [hs, eB]
    omega
theorem kr_5 {l : List UInt8} {n1 : Nat} (h : (yW 5 l (ab (bgF 5) dz, (n1, 0))).2.2 = 0) : Kr l n1 (yW 5 l (ab (bgF 5) dz, (n1, 0))).1 (yW 5 l (ab (bgF 5) dz, (n1, 0))).2.1 := by
  have e : yW 5 l (ab (bgF 5) dz, (n1, 0)) = yNs l ((ab (bgF 5) dz, (n1, 0))) [1, 7] := rfl
  rw [e] at h ⊢
  clear e
  obtain ⟨v0, l0, z0, b0, p0, q0⟩ := yNs_rd' [1, 7] h
  obtain ⟨x0, x1, rfl⟩ := len_2 l0
  have er : (yNs l ((ab (bgF 5) dz, (n1, 0))) [1, 7]).1 = puts (ab (bgF 5) dz) [1, 7] [x0, x1] := by rw [p0]
  rw [er]
  dsimp only at q0
  generalize (yNs l ((ab (bgF 5) dz, (n1, 0))) [1, 7]).2.1 = n2 at *
  clear p0 er h z0
  have hs : stB (puts (ab (bgF 5) dz) [1, 7] [x0, x1]) = 5 := rfl
  have eX : pX 5 (puts (ab (bgF 5) dz) [1, 7] [x0, x1]) = bads [x0, x1] := rfl
  have eB : pB 5 (puts (ab (bgF 5) dz) [1, 7] [x0, x1]) = encs [x0, x1] := rfl
  have hM : much (puts (ab (bgF 5) dz) [1, 7] [x0, x1]) = (1048576 < (([] : List UInt8)).length ∨ (1048576 : Int) < 0) := rfl
  refine ⟨⟨Nat.zero_le _, Nat.zero_le _⟩, (show isKd 5 = true by decide), (show ¬ ((8 : Int) < 5 ∧ (5 : Int) < 16) by decide), rfl, rfl, ?_, ?_, ?_⟩
  · rw [hs]; rfl
  · rw [hs, eX, b0]
    simp [hM]
  · intro hm
    rw [hM] at hm
    rw [hs, eB]
    omega
theorem kr_6 {l : List UInt8} {n1 : Nat} (h : (yW 6 l (ab (bgF 6) dz, (n1, 0))).2.2 = 0) : Kr l n1 (yW 6 l (ab (bgF 6) dz, (n1, 0))).1 (yW 6 l (ab (bgF 6) dz, (n1, 0))).2.1 := by
  have e : yW 6 l (ab (bgF 6) dz, (n1, 0)) = yC l (yNs l ((ab (bgF 6) dz, (n1, 0))) [2]) := rfl
  rw [e] at h ⊢
  clear e
  obtain ⟨z1, D, p1, c1, q1⟩ := yC_rd h
  obtain ⟨v0, l0, z0, b0, p0, q0⟩ := yNs_rd' [2] z1
  obtain ⟨x0, rfl⟩ := len_1 l0
  have er : (yC l (yNs l ((ab (bgF 6) dz, (n1, 0))) [2])).1 = { (puts (ab (bgF 6) dz) [2] [x0]) with D := D } := by rw [p1, p0]
  rw [er]
  dsimp only at q0 q1
  generalize (yC l (yNs l ((ab (bgF 6) dz, (n1, 0))) [2])).2.1 = n2 at *
  clear p1 p0 er h z0 z1
  have hs : stB ({ (puts (ab (bgF 6) dz) [2] [x0]) with D := D }) = 6 := rfl
  have eX : pX 6 ({ (puts (ab (bgF 6) dz) [2] [x0]) with D := D }) = (bads [x0] || bg D) := rfl
  have eB : pB 6 ({ (puts (ab (bgF 6) dz) [2] [x0]) with D := D }) = (encs [x0] ++ (encv D.length ++ rB D)) := rfl
  have hM : much ({ (puts (ab (bgF 6) dz) [2] [x0]) with D := D }) = (1048576 < (D).length ∨ (1048576 : Int) < 0) := rfl
  refine ⟨⟨c1, Nat.zero_le _⟩, (show isKd 6 = true by decide), (show ¬ ((8 : Int) < 6 ∧ (6 : Int) < 16) by decide), rfl, rfl, ?_, ?_, ?_⟩
  · rw [hs]; rfl
  · rw [hs, eX, b0]
    simp [hM, bg]
  · intro hm
    rw [hM] at hm
    rw [hs, eB]
    have hr : rB D = D := if_pos (by omega)
    rw [hr]
    simp only [List.length_append]
    omega
theorem kr_7 {l : List UInt8} {n1 : Nat} (h : (yW 7 l (ab (bgF 7) dz, (n1, 0))).2.2 = 0) : Kr l n1 (yW 7 l (ab (bgF 7) dz, (n1, 0))).1 (yW 7 l (ab (bgF 7) dz, (n1, 0))).2.1 := by
  have e : yW 7 l (ab (bgF 7) dz, (n1, 0)) = yC l ((ab (bgF 7) dz, (n1, 0))) := rfl
  rw [e] at h ⊢
  clear e
  obtain ⟨z0, D, p0, c0, q0⟩ := yC_rd h
  have er : (yC l ((ab (bgF 7) dz, (n1, 0)))).1 = { (ab (bgF 7) dz) with D := D } := by rw [p0]
  rw [er]
  dsimp only at q0
  generalize (yC l ((ab (bgF 7) dz, (n1, 0)))).2.1 = n2 at *
  clear p0 er h z0
  have hs : stB ({ (ab (bgF 7) dz) with D := D }) = 7 := rfl
  have eX : pX 7 ({ (ab (bgF 7) dz) with D := D }) = bg D := rfl
  have eB : pB 7 ({ (ab (bgF 7) dz) with D := D }) = (encv D.length ++ rB D) := rfl
  have hM : much ({ (ab (bgF 7) dz) with D := D }) = (1048576 < (D).length ∨ (1048576 : Int) < 0) := rfl
  refine ⟨⟨c0, Nat.zero_le _⟩, (show isKd 7 = true by decide), (show ¬ ((8 : Int) < 7 ∧ (7 : Int) < 16) by decide), rfl, rfl, ?_, ?_, ?_⟩
  · rw [hs]; rfl
  · rw [hs, eX]
    simp [hM, bg]
  · intro hm
    rw [hM] at hm
    rw [hs, eB]
    have hr : rB D = D := if_pos (by omega)
    rw [hr]
    simp only [List.length_append]
    omega
theorem kr_8 {l : List UInt8} {n1 : Nat} (h : (yW 8 l (ab (bgF 8) dz, (n1, 0))).2.2 = 0) : Kr l n1 (yW 8 l (ab (bgF 8) dz, (n1, 0))).1 (yW 8 l (ab (bgF 8) dz, (n1, 0))).2.1 := by
  have e : yW 8 l (ab (bgF 8) dz, (n1, 0)) = yE l (yNs l ((ab (bgF 8) dz, (n1, 0))) [1]) := rfl
  rw [e] at h ⊢
  clear e
  obtain ⟨z1, D, p1, c1, q1⟩ := yE_rd h
  obtain ⟨v0, l0, z0, b0, p0, q0⟩ := yNs_rd' [1] z1
  obtain ⟨x0, rfl⟩ := len_1 l0
  have er : (yE l (yNs l ((ab (bgF 8) dz, (n1, 0))) [1])).1 = { (puts (ab (bgF 8) dz) [1] [x0]) with D := D } := by rw [p1, p0]
  rw [er]
  dsimp only at q0 q1
  generalize (yE l (yNs l ((ab (bgF 8) dz, (n1, 0))) [1])).2.1 = n2 at *
  clear p1 p0 er h z0 z1
  have hs : stB ({ (puts (ab (bgF 8) dz) [1] [x0]) with D := D }) = 8 := by
    show (if (8 : Int) = 8 then 8 + (if (0 : Int) = 0 then 0 else 4) + (if false = true then 2 else 0) + (if false = true then 1 else 0) else 8 : Int) = 8
    rfl
  have eX : pX 8 ({ (puts (ab (bgF 8) dz) [1] [x0]) with D := D }) = (bads [x0] || bg D) := rfl
  have eB : pB 8 ({ (puts (ab (bgF 8) dz) [1] [x0]) with D := D }) = (encs [x0] ++ rB D) := rfl
  have hM : much ({ (puts (ab (bgF 8) dz) [1] [x0]) with D := D }) = (1048576 < (D).length ∨ (1048576 : Int) < 0) := rfl
  refine ⟨⟨c1, Nat.zero_le _⟩, (show isKd 8 = true by decide), (show ¬ ((8 : Int) < 8 ∧ (8 : Int) < 16) by decide), rfl, rfl, ?_, ?_, ?_⟩
  · rw [hs]; rfl
  · rw [hs, eX, b0]
    simp [hM, bg]
  · intro hm
    rw [hM] at hm
    rw [hs, eB]
    have hr : rB D = D := if_pos (by omega)
    rw [hr]
    simp only [List.length_append]
    omega
theorem kr_9 {l : List UInt8} {n1 : Nat} (h : (yW 9 l (ab (bgF 9) dz, (n1, 0))).2.2 = 0) : Kr l n1 (yW 9 l (ab (bgF 9) dz, (n1, 0))).1 (yW 9 l (ab (bgF 9) dz, (n1, 0))).2.1 := by
  have e : yW 9 l (ab (bgF 9) dz, (n1, 0)) = yE l (yNs l ((ab (bgF 9) dz, (n1, 0))) [1]) := rfl
  rw [e] at h ⊢
  clear e
  obtain ⟨z1, D, p1, c1, q1⟩ := yE_rd h
  obtain ⟨v0, l0, z0, b0, p0, q0⟩ := yNs_rd' [1] z1
  obtain ⟨x0, rfl⟩ := len_1 l0
  have er : (yE l (yNs l ((ab (bgF 9) dz, (n1, 0))) [1])).1 = { (puts (ab (bgF 9) dz) [1] [x0]) with D := D } := by rw [p1, p0]
  rw [er]
  dsimp only at q0 q1
  generalize (yE l (yNs l ((ab (bgF 9) dz, (n1, 0))) [1])).2.1 = n2 at *
  clear p1 p0 er h z0 z1
  have hs : stB ({ (puts (ab (bgF 9) dz) [1] [x0]) with D := D }) = 9 := by
    show (if (8 : Int) = 8 then 8 + (if (0 : Int) = 0 then 0 else 4) + (if false = true then 2 else 0) + (if true = true then 1 else 0) else 8 : Int) = 9
    rfl
  have eX : pX 9 ({ (puts (ab (bgF 9) dz) [1] [x0]) with D := D }) = (bads [x0] || bg D) := rfl
  have eB : pB 9 ({ (puts (ab (bgF 9) dz) [1] [x0]) with D := D }) = (encs [x0] ++ rB D) := rfl
  have hM : much ({ (puts (ab (bgF 9) dz) [1] [x0]) with D := D }) = (1048576 < (D).length ∨ (1048576 : Int) < 0) := rfl
  refine ⟨⟨c1, Nat.zero_le _⟩, (show isKd 8 = true by decide), (show ¬ ((8 : Int) < 8 ∧ (8 : Int) < 16) by decide), rfl, rfl, ?_, ?_, ?_⟩
  · rw [hs]; rfl
  · rw [hs, eX, b0]
    simp [hM, bg]
  · intro hm
    rw [hM] at hm
    rw [hs, eB]
    have hr : rB D = D := if_pos (by omega)
    rw [hr]
    simp only [List.length_append]
    omega
theorem kr_10 {l : List UInt8} {n1 : Nat} (h : (yW 10 l (ab (bgF 10) dz, (n1, 0))).2.2 = 0) : Kr l n1 (yW 10 l (ab (bgF 10) dz, (n1, 0))).1 (yW 10 l (ab (bgF 10) dz, (n1, 0))).2.1 := by
  have e : yW 10 l (ab (bgF 10) dz, (n1, 0)) = yC l (yNs l ((ab (bgF 10) dz, (n1, 0))) [1]) := rfl
  rw [e] at h ⊢
  clear e
  obtain ⟨z1, D, p1, c1, q1⟩ := yC_rd h
  obtain ⟨v0, l0, z0, b0, p0, q0⟩ := yNs_rd' [1] z1
  obtain ⟨x0, rfl⟩ := len_1 l0
  have er : (yC l (yNs l ((ab (bgF 10) dz, (n1, 0))) [1])).1 = { (puts (ab (bgF 10) dz) [1] [x0]) with D := D } := by rw [p1, p0]
  rw [er]
  dsimp only at q0 q1
  generalize (yC l (yNs l ((ab (bgF 10) dz, (n1, 0))) [1])).2.1 = n2 at *
  clear p1 p0 er h z0 z1
  have hs : stB ({ (puts (ab (bgF 10) dz) [1] [x0]) with D := D }) = 10 := by
    show (if (8 : Int) = 8 then 8 + (if (0 : Int) = 0 then 0 else 4) + (if true = true then 2 else 0) + (if false = true then 1 else 0) else 8 : Int) = 10
    rfl
  have eX : pX 10 ({ (puts (ab (bgF 10) dz) [1] [x0]) with D := D }) = (bads [x0] || bg D) := rfl
  have eB : pB 10 ({ (puts (ab (bgF 10) dz) [1] [x0]) with D := D }) = (encs [x0] ++ (encv D.length ++ rB D)) := rfl
  have hM : much ({ (puts (ab (bgF 10) dz) [1] [x0]) with D := D }) = (1048576 < (D).length ∨ (1048576 : Int) < 0) := rfl
  refine ⟨⟨c1, Nat.zero_le _⟩, (show isKd 8 = true by decide), (show ¬ ((8 : Int) < 8 ∧ (8 : Int) < 16) by decide), rfl, rfl, ?_, ?_, ?_⟩
  · rw [hs]; rfl
  · rw [hs, eX, b0]
    simp [hM, bg]
  · intro hm
    rw [hM] at hm
    rw [hs, eB]
    have hr : rB D = D := if_pos (by omega)
    rw [hr]
    simp only [List.length_append]
    omega
theorem kr_11 {l : List UInt8} {n1 : Nat} (h : (yW 11 l (ab (bgF 11) dz, (n1, 0))).2.2 = 0) : Kr l n1 (yW 11 l (ab (bgF 11) dz, (n1, 0))).1 (yW 11 l (ab (bgF 11) dz, (n1, 0))).2.1 := by
  have e : yW 11 l (ab (bgF 11) dz, (n1, 0)) = yC l (yNs l ((ab (bgF 11) dz, (n1, 0))) [1]) := rfl
  rw [e] at h ⊢
  clear e
  obtain ⟨z1, D, p1, c1, q1⟩ := yC_rd h
  obtain ⟨v0, l0, z0, b0, p0, q0⟩ := yNs_rd' [1] z1
  obtain ⟨x0, rfl⟩ := len_1 l0
  have er : (yC l (yNs l ((ab (bgF 11) dz, (n1, 0))) [1])).1 = { (puts (ab (bgF 11) dz) [1] [x0]) with D := D } := by rw [p1, p0]
  rw [er]
  dsimp only at q0 q1
  generalize (yC l (yNs l ((ab (bgF 11) dz, (n1, 0))) [1])).2.1 = n2 at *
  clear p1 p0 er h z0 z1
  have hs : stB ({ (puts (ab (bgF 11) dz) [1] [x0]) with D := D }) = 11 := by
    show (if (8 : Int) = 8 then 8 + (if (0 : Int) = 0 then 0 else 4) + (if true = true then 2 else 0) + (if true = true then 1 else 0) else 8 : Int) = 11
    rfl
  have eX : pX 11 ({ (puts (ab (bgF 11) dz) [1] [x0]) with D := D }) = (bads [x0] || bg D) := rfl
  have eB : pB 11 ({ (puts (ab (bgF 11) dz) [1] [x0]) with D := D }) = (encs [x0] ++ (encv D.length ++ rB D)) := rfl
  have hM : much ({ (puts (ab (bgF 11) dz) [1] [x0]) with D := D }) = (1048576 < (D).length ∨ (1048576 : Int) < 0) := rfl
  refine ⟨⟨c1, Nat.zero_le _⟩, (show isKd 8 = true by decide), (show ¬ ((8 : Int) < 8 ∧ (8 : Int) < 16) by decide), rfl, rfl, ?_, ?_, ?_⟩
  · rw [hs]; rfl
  · rw [hs, eX, b0]
    simp [hM, bg]
  · intro hm
    rw [hM] at hm
    rw [hs, eB]
    have hr : rB D = D := if_pos (by omega)
    rw [hr]
    simp only [List.length_append]
    omega
theorem kr_12 {l : List UInt8} {n1 : Nat} (h : (yW 12 l (ab (bgF 12) dz, (n1, 0))).2.2 = 0) : Kr l n1 (yW 12 l (ab (bgF 12) dz, (n1, 0))).1 (yW 12 l (ab (bgF 12) dz, (n1, 0))).2.1 := by
  have e : yW 12 l (ab (bgF 12) dz, (n1, 0)) = yE l (yNs l (yNs l ((ab (bgF 12) dz, (n1, 0))) [1]) [2]) := rfl
  rw [e] at h ⊢
  clear e
  obtain ⟨z2, D, p2, c2, q2⟩ := yE_rd h
  obtain ⟨v1, l1, z1, b1, p1, q1⟩ := yNs_rd' [2] z2
  obtain ⟨v0, l0, z0, b0, p0, q0⟩ := yNs_rd' [1] z1
  obtain ⟨x0, rfl⟩ := len_1 l0
  obtain ⟨x1, rfl⟩ := len_1 l1
  have er : (yE l (yNs l (yNs l ((ab (bgF 12) dz, (n1, 0))) [1]) [2])).1 = { (puts (puts (ab (bgF 12) dz) [1] [x0]) [2] [x1]) with D := D } := by rw [p2, p1, p0]
  rw [er]
  dsimp only at q0 q1 q2
  generalize (yE l (yNs l (yNs l ((ab (bgF 12) dz, (n1, 0))) [1]) [2])).2.1 = n2 at *
  clear p2 p1 p0 er h z0 z1 z2
  by_cases ho : x1 = 0
  · skip
    subst ho
    have hs : stB ({ (puts (puts (ab (bgF 12) dz) [1] [x0]) [2] [0]) with D := D }) = 8 := by
      show (if (8 : Int) = 8 then 8 + (if (0 : Int) = 0 then 0 else 4) + (if false = true then 2 else 0) + (if false = true then 1 else 0) else 8 : Int) = 8
      rfl
    have eX : pX 8 ({ (puts (puts (ab (bgF 12) dz) [1] [x0]) [2] [0]) with D := D }) = (bads [x0] || bg D) := rfl
    have eB : pB 8 ({ (puts (puts (ab (bgF 12) dz) [1] [x0]) [2] [0]) with D := D }) = (encs [x0] ++ rB D) := rfl
    have hM : much ({ (puts (puts (ab (bgF 12) dz) [1] [x0]) [2] [0]) with D := D }) = (1048576 < (D).length ∨ (1048576 : Int) < 0) := rfl
    refine ⟨⟨c2, Nat.zero_le _⟩, (show isKd 8 = true by decide), (show ¬ ((8 : Int) < 8 ∧ (8 : Int) < 16) by decide), rfl, rfl, ?_, ?_, ?_⟩
    · rw [hs]; rfl
    · rw [hs, eX, b0]
      simp [hM, bg]
    · intro hm
      rw [hM] at hm
      rw [hs, eB]
      have hr : rB D = D := if_pos (by omega)
      rw [hr]
      simp only [List.length_append]
      omega
  · skip
    have hs : stB ({ (puts (puts (ab (bgF 12) dz) [1] [x0]) [2] [x1]) with D := D }) = 12 := by
      show (if (8 : Int) = 8 then 8 + (if (x1 : Int) = 0 then 0 else 4) + (if false = true then 2 else 0) + (if false = true then 1 else 0) else 8 : Int) = 12
      rw [if_pos rfl, if_neg ho]
      rfl
    have eX : pX 12 ({ (puts (puts (ab (bgF 12) dz) [1] [x0]) [2] [x1]) with D := D }) = (bads [x0] || (bads [x1] || bg D)) := rfl
    have eB : pB 12 ({ (puts (puts (ab (bgF 12) dz) [1] [x0]) [2] [x1]) with D := D }) = (encs [x0] ++ (encs [x1] ++ rB D)) := rfl
    have hM : much ({ (puts (puts (ab (bgF 12) dz) [1] [x0]) [2] [x1]) with D := D }) = (1048576 < (D).length ∨ (1048576 : Int) < 0) := rfl
    refine ⟨⟨c2, Nat.zero_le _⟩, (show isKd 8 = true by decide), (show ¬ ((8 : Int) < 8 ∧ (8 : Int) < 16) by decide), rfl, rfl, ?_, ?_, ?_⟩
    · rw [hs]; rfl
    · rw [hs, eX, b0, b1]
      simp [hM, bg]
    · intro hm
      rw [hM] at hm
      rw [hs, eB]
      have hr : rB D = D := if_pos (by omega)
      rw [hr]
      simp only [List.length_append]
      omega
theorem kr_13 {l : List UInt8} {n1 : Nat} (h : (yW 13 l (ab (bgF 13) dz, (n1, 0))).2.2 = 0) : Kr l n1 (yW 13 l (ab (bgF 13) dz, (n1, 0))).1 (yW 13 l (ab (bgF 13) dz, (n1, 0))).2.1 := by
  have e : yW 13 l (ab (bgF 13) dz, (n1, 0)) = yE l (yNs l (yNs l ((ab (bgF 13) dz, (n1, 0))) [1]) [2]) := rfl
  rw [e] at h ⊢
  clear e
  obtain ⟨z2, D, p2, c2, q2⟩ := yE_rd h
  obtain ⟨v1, l1, z1, b1, p1, q1⟩ := yNs_rd' [2] z2
  obtain ⟨v0, l0, z0, b0, p0, q0⟩ := yNs_rd' [1] z1
  obtain ⟨x0, rfl⟩ := len_1 l0
  obtain ⟨x1, rfl⟩ := len_1 l1
  have er : (yE l (yNs l (yNs l ((ab (bgF 13) dz, (n1, 0))) [1]) [2])).1 = { (puts (puts (ab (bgF 13) dz) [1] [x0]) [2] [x1]) with D := D } := by rw [p2, p1, p0]
  rw [er]
  dsimp only at q0 q1 q2
  generalize (yE l (yNs l (yNs l ((ab (bgF 13) dz, (n1, 0))) [1]) [2])).2.1 = n2 at *
  clear p2 p1 p0 er h z0 z1 z2
  by_cases ho : x1 = 0
  · skip
    subst ho
    have hs : stB ({ (puts (puts (ab (bgF 13) dz) [1] [x0]) [2] [0]) with D := D }) = 9 := by
      show (if (8 : Int) = 8 then 8 + (if (0 : Int) = 0 then 0 else 4) + (if false = true then 2 else 0) + (if true = true then 1 else 0) else 8 : Int) = 9
      rfl
    have eX : pX 9 ({ (puts (puts (ab (bgF 13) dz) [1] [x0]) [2] [0]) with D := D }) = (bads [x0] || bg D) := rfl
    have eB : pB 9 ({ (puts (puts (ab (bgF 13) dz) [1] [x0]) [2] [0]) with D := D }) = (encs [x0] ++ rB D) := rfl
    have hM : much ({ (puts (puts (ab (bgF 13) dz) [1] [x0]) [2] [0]) with D := D }) = (1048576 < (D).length ∨ (1048576 : Int) < 0) := rfl
    refine ⟨⟨c2, Nat.zero_le _⟩, (show isKd 8 = true by decide), (show ¬ ((8 : Int) < 8 ∧ (8 : Int) < 16) by decide), rfl, rfl, ?_, ?_, ?_⟩
    · rw [hs]; rfl
    · rw [hs, eX, b0]
      simp [hM, bg]
    · intro hm
      rw [hM] at hm
      rw [hs, eB]
      have hr : rB D = D := if_pos (by omega)
      rw [hr]
      simp only [List.length_append]
      omega
  · skip
    have hs : stB ({ (puts (puts (ab (bgF 13) dz) [1] [x0]) [2] [x1]) with D := D }) = 13 := by
      show (if (8 : Int) = 8 then 8 + (if (x1 : Int) = 0 then 0 else 4) + (if false = true then 2 else 0) + (if true = true then 1 else 0) else 8 : Int) = 13
      rw [if_pos rfl, if_neg ho]
      rfl
    have eX : pX 13 ({ (puts (puts (ab (bgF 13) dz) [1] [x0]) [2] [x1]) with D := D }) = (bads [x0] || (bads [x1] || bg D)) := rfl
    have eB : pB 13 ({ (puts (puts (ab (bgF 13) dz) [1] [x0]) [2] [x1]) with D := D }) = (encs [x0] ++ (encs [x1] ++ rB D)) := rfl
    have hM : much ({ (puts (puts (ab (bgF 13) dz) [1] [x0]) [2] [x1]) with D := D }) = (1048576 < (D).length ∨ (1048576 : Int) < 0) := rfl
    refine ⟨⟨c2, Nat.zero_le _⟩, (show isKd 8 = true by decide), (show ¬ ((8 : Int) < 8 ∧ (8 : Int) < 16) by decide), rfl, rfl, ?_, ?_, ?_⟩
    · rw [hs]; rfl
    · rw [hs, eX, b0, b1]
      simp [hM, bg]
    · intro hm
      rw [hM] at hm
      rw [hs, eB]
      have hr : rB D = D := if_pos (by omega)
      rw [hr]
      simp only [List.length_append]
      omega
theorem kr_14 {l : List UInt8} {n1 : Nat} (h : (yW 14 l (ab (bgF 14) dz, (n1, 0))).2.2 = 0) : Kr l n1 (yW 14 l (ab (bgF 14) dz, (n1, 0))).1 (yW 14 l (ab (bgF 14) dz, (n1, 0))).2.1 := by
  have e : yW 14 l (ab (bgF 14) dz, (n1, 0)) = yC l (yNs l (yNs l ((ab (bgF 14) dz, (n1, 0))) [1]) [2]) := rfl
  rw [e] at h ⊢
  clear e
  obtain ⟨z2, D, p2, c2, q2⟩ := yC_rd h
  obtain ⟨v1, l1, z1, b1, p1, q1⟩ := yNs_rd' [2] z2
  obtain ⟨v0, l0, z0, b0, p0, q0⟩ := yNs_rd' [1] z1
  obtain ⟨x0, rfl⟩ := len_1 l0
  obtain ⟨x1, rfl⟩ := len_1 l1
  have er : (yC l (yNs l (yNs l ((ab (bgF 14) dz, (n1, 0))) [1]) [2])).1 = { (puts (puts (ab (bgF 14) dz) [1] [x0]) [2] [x1]) with D := D } := by rw [p2, p1, p0]
  rw [er]
  dsimp only at q0 q1 q2
  generalize (yC l (yNs l (yNs l ((ab (bgF 14) dz, (n1, 0))) [1]) [2])).2.1 = n2 at *
  clear p2 p1 p0 er h z0 z1 z2
  by_cases ho : x1 = 0
  · skip
    subst ho
    have hs : stB ({ (puts (puts (ab (bgF 14) dz) [1] [x0]) [2] [0]) with D := D }) = 10 := by
      show (if (8 : Int) = 8 then 8 + (if (0 : Int) = 0 then 0 else 4) + (if true = true then 2 else 0) + (if false = true then 1 else 0) else 8 : Int) = 10
      rfl
    have eX : pX 10 ({ (puts (puts (ab (bgF 14) dz) [1] [x0]) [2] [0]) with D := D }) = (bads [x0] || bg D) := rfl
    have eB : pB 10 ({ (puts (puts (ab (bgF 14) dz) [1] [x0]) [2] [0]) with D := D }) = (encs [x0] ++ (encv D.length ++ rB D)) := rfl
    have hM : much ({ (puts (puts (ab (bgF 14) dz) [1] [x0]) [2] [0]) with D := D }) = (1048576 < (D).length ∨ (1048576 : Int) < 0) := rfl
    refine ⟨⟨c2, Nat.zero_le _⟩, (show isKd 8 = true by decide), (show ¬ ((8 : Int) < 8 ∧ (8 : Int) < 16) by decide), rfl, rfl, ?_, ?_, ?_⟩
    · rw [hs]; rfl
    · rw [hs, eX, b0]
      simp [hM, bg]
    · intro hm
      rw [hM] at hm
      rw [hs, eB]
      have hr : rB D = D := if_pos (by omega)
      rw [hr]
      simp only [List.length_append]
      omega
  · skip
    have hs : stB ({ (puts (puts (ab (bgF 14) dz) [1] [x0]) [2] [x1]) with D := D }) = 14 := by
      show (if (8 : Int) = 8 then 8 + (if (x1 : Int) = 0 then 0 else 4) + (if true = true then 2 else 0) + (if false = true then 1 else 0) else 8 : Int) = 14
      rw [if_pos rfl, if_neg ho]
      rfl
    have eX : pX 14 ({ (puts (puts (ab (bgF 14) dz) [1] [x0]) [2] [x1]) with D := D }) = (bads [x0] || (bads [x1] || bg D)) := rfl
    have eB : pB 14 ({ (puts (puts (ab (bgF 14) dz) [1] [x0]) [2] [x1]) with D := D }) = (encs [x0] ++ (encs [x1] ++ (encv D.length ++ rB D))) := rfl
    have hM : much ({ (puts (puts (ab (bgF 14) dz) [1] [x0]) [2] [x1]) with D := D }) = (1048576 < (D).length ∨ (1048576 : Int) < 0) := rfl
    refine ⟨⟨c2, Nat.zero_le _⟩, (show isKd 8 = true by decide), (show ¬ ((8 : Int) < 8 ∧ (8 : Int) < 16) by decide), rfl, rfl, ?_, ?_, ?_⟩
    · rw [hs]; rfl
    · rw [hs, eX, b0, b1]
      simp [hM, bg]
    · intro hm
      rw [hM] at hm
      rw [hs, eB]
      have hr : rB D = D := if_pos (by omega)
      rw [hr]
      simp only [List.length_append]
      omega
theorem kr_15 {l : List UInt8} {n1 : Nat} (h : (yW 15 l (ab (bgF 15) dz, (n1, 0))).2.2 = 0) : Kr l n1 (yW 15 l (ab (bgF 15) dz, (n1, 0))).1 (yW 15 l (ab (bgF 15) dz, (n1, 0))).2.1 := by
  have e : yW 15 l (ab (bgF 15) dz, (n1, 0)) = yC l (yNs l (yNs l ((ab (bgF 15) dz, (n1, 0))) [1]) [2]) := rfl
  rw [e] at h ⊢
  clear e
  obtain ⟨z2, D, p2, c2, q2⟩ := yC_rd h
  obtain ⟨v1, l1, z1, b1, p1, q1⟩ := yNs_rd' [2] z2
  obtain ⟨v0, l0, z0, b0, p0, q0⟩ := yNs_rd' [1] z1
  obtain ⟨x0, rfl⟩ := len_1 l0
  obtain ⟨x1, rfl⟩ := len_1 l1
  have er : (yC l (yNs l (yNs l ((ab (bgF 15) dz, (n1, 0))) [1]) [2])).1 = { (puts (puts (ab (bgF 15) dz) [1] [x0]) [2] [x1]) with D := D } := by rw [p2, p1, p0]
  rw [er]
  dsimp only at q0 q1 q2
  generalize (yC l (yNs l (yNs l ((ab (bgF 15) dz, (n1, 0))) [1]) [2])).2.1 = n2 at *
  clear p2 p1 p0 er h z0 z1 z2
  by_cases ho : x1 = 0
  · skip
    subst ho
    have hs : stB ({ (puts (puts (ab (bgF 15) dz) [1] [x0]) [2] [0]) with D := D }) = 11 := by
      show (if (8 : Int) = 8 then 8 + (if (0 : Int) = 0 then 0 else 4) + (if true = true then 2 else 0) + (if true = true then 1 else 0) else 8 : Int) = 11
      rfl
    have eX : pX 11 ({ (puts (puts (ab (bgF 15) dz) [1] [x0]) [2] [0]) with D := D }) = (bads [x0] || bg D) := rfl
    have eB : pB 11 ({ (puts (puts (ab (bgF 15) dz) [1] [x0]) [2] [0]) with D := D }) = (encs [x0] ++ (encv D.length ++ rB D)) := rfl
    have hM : much ({ (puts (puts (ab (bgF 15) dz) [1] [x0]) [2] [0]) with D := D }) = (1048576 < (D).length ∨ (1048576 : Int) < 0) := rfl
    refine ⟨⟨c2, Nat.zero_le _⟩, (show isKd 8 = true by decide), (show ¬ ((8 : Int) < 8 ∧ (8 : Int) < 16) by decide), rfl, rfl, ?_, ?_, ?_⟩
    · rw [hs]; rfl
    · rw [hs, eX, b0]
      simp [hM, bg]
    · intro hm
      rw [hM] at hm
      rw [hs, eB]
      have hr : rB D = D := if_pos (by omega)
      rw [hr]
      simp only [List.length_append]
      omega
  · skip
    have hs : stB ({ (puts (puts (ab (bgF 15) dz) [1] [x0]) [2] [x1]) with D := D }) = 15 := by
      show (if (8 : Int) = 8 then 8 + (if (x1 : Int) = 0 then 0 else 4) + (if true = true then 2 else 0) + (if true = true then 1 else 0) else 8 : Int) = 15
      rw [if_pos rfl, if_neg ho]
      rfl
    have eX : pX 15 ({ (puts (puts (ab (bgF 15) dz) [1] [x0]) [2] [x1]) with D := D }) = (bads [x0] || (bads [x1] || bg D)) := rfl
    have eB : pB 15 ({ (puts (puts (ab (bgF 15) dz) [1] [x0]) [2] [x1]) with D := D }) = (encs [x0] ++ (encs [x1] ++ (encv D.length ++ rB D))) := rfl
    have hM : much ({ (puts (puts (ab (bgF 15) dz) [1] [x0]) [2] [x1]) with D := D }) = (1048576 < (D).length ∨ (1048576 : Int) < 0) := rfl
    refine ⟨⟨c2, Nat.zero_le _⟩, (show isKd 8 = true by decide), (show ¬ ((8 : Int) < 8 ∧ (8 : Int) < 16) by decide), rfl, rfl, ?_, ?_, ?_⟩
    · rw [hs]; rfl
    · rw [hs, eX, b0, b1]
      simp [hM, bg]
    · intro hm
      rw [hM] at hm
      rw [hs, eB]
      have hr : rB D = D := if_pos (by omega)
      rw [hr]
      simp only [List.length_append]
      omega
theorem kr_16 {l : List UInt8} {n1 : Nat} (h : (yW 16 l (ab (bgF 16) dz, (n1, 0))).2.2 = 0) : Kr l n1 (yW 16 l (ab (bgF 16) dz, (n1, 0))).1 (yW 16 l (ab (bgF 16) dz, (n1, 0))).2.1 := by
  have e : yW 16 l (ab (bgF 16) dz, (n1, 0)) = yNs l ((ab (bgF 16) dz, (n1, 0))) [6] := rfl
  rw [e] at h ⊢
  clear e
  obtain ⟨v0, l0, z0, b0, p0, q0⟩ := yNs_rd' [6] h
  obtain ⟨x0, rfl⟩ := len_1 l0
  have er : (yNs l ((ab (bgF 16) dz, (n1, 0))) [6]).1 = puts (ab (bgF 16) dz) [6] [x0] := by rw [p0]
  rw [er]
  dsimp only at q0
  generalize (yNs l ((ab (bgF 16) dz, (n1, 0))) [6]).2.1 = n2 at *
  clear p0 er h z0
  have hs : stB (puts (ab (bgF 16) dz) [6] [x0]) = 16 := rfl
  have eX : pX 16 (puts (ab (bgF 16) dz) [6] [x0]) = bads [x0] := rfl
  have eB : pB 16 (puts (ab (bgF 16) dz) [6] [x0]) = encs [x0] := rfl
  have hM : much (puts (ab (bgF 16) dz) [6] [x0]) = (1048576 < (([] : List UInt8)).length ∨ (1048576 : Int) < 0) := rfl
  refine ⟨⟨Nat.zero_le _, Nat.zero_le _⟩, (show isKd 16 = true by decide), (show ¬ ((8 : Int) < 16 ∧ (16 : Int) < 16) by decide), rfl, rfl, ?_, ?_, ?_⟩
  · rw [hs]; rfl
  · rw [hs, eX, b0]
    simp [hM]
  · intro hm
    rw [hM] at hm
    rw [hs, eB]
    omega
theorem kr_17 {l : List UInt8} {n1 : Nat} (h : (yW 17 l (ab (bgF 17) dz, (n1, 0))).2.2 = 0) : Kr l n1 (yW 17 l (ab (bgF 17) dz, (n1, 0))).1 (yW 17 l (ab (bgF 17) dz, (n1, 0))).2.1 := by
  have e : yW 17 l (ab (bgF 17) dz, (n1, 0)) = yNs l (yNs l ((ab (bgF 17) dz, (n1, 0))) [1]) [6] := rfl
  rw [e] at h ⊢
  clear e
  obtain ⟨v1, l1, z1, b1, p1, q1⟩ := yNs_rd' [6] h
  obtain ⟨v0, l0, z0, b0, p0, q0⟩ := yNs_rd' [1] z1
  obtain ⟨x0, rfl⟩ := len_1 l0
  obtain ⟨x1, rfl⟩ := len_1 l1
  have er : (yNs l (yNs l ((ab (bgF 17) dz, (n1, 0))) [1]) [6]).1 = puts (puts (ab (bgF 17) dz) [1] [x0]) [6] [x1] := by rw [p1, p0]
  rw [er]
  dsimp only at q0 q1
  generalize (yNs l (yNs l ((ab (bgF 17) dz, (n1, 0))) [1]) [6]).2.1 = n2 at *
  clear p1 p0 er h z0 z1
  have hs : stB (puts (puts (ab (bgF 17) dz) [1] [x0]) [6] [x1]) = 17 := rfl
  have eX : pX 17 (puts (puts (ab (bgF 17) dz) [1] [x0]) [6] [x1]) = (bads [x0] || bads [x1]) := rfl
  have eB : pB 17 (puts (puts (ab (bgF 17) dz) [1] [x0]) [6] [x1]) = (encs [x0] ++ encs [x1]) := rfl
  have hM : much (puts (puts (ab (bgF 17) dz) [1] [x0]) [6] [x1]) = (1048576 < (([] : List UInt8)).length ∨ (1048576 : Int) < 0) := rfl
  refine ⟨⟨Nat.zero_le _, Nat.zero_le _⟩, (show isKd 17 = true by decide), (show ¬ ((8 : Int) < 17 ∧ (17 : Int) < 16) by decide), rfl, rfl, ?_, ?_, ?_⟩
  · rw [hs]; rfl
  · rw [hs, eX, b0, b1]
    simp [hM]
  · intro hm
    rw [hM] at hm
    rw [hs, eB]
    simp only [List.length_append]
    omega
theorem kr_18 {l : List UInt8} {n1 : Nat} (h : (yW 18 l (ab (bgF 18) dz, (n1, 0))).2.2 = 0) : Kr l n1 (yW 18 l (ab (bgF 18) dz, (n1, 0))).1 (yW 18 l (ab (bgF 18) dz, (n1, 0))).2.1 := by
  have e : yW 18 l (ab (bgF 18) dz, (n1, 0)) = yNs l ((ab (bgF 18) dz, (n1, 0))) [6] := rfl
  rw [e] at h ⊢
  clear e
  obtain ⟨v0, l0, z0, b0, p0, q0⟩ := yNs_rd' [6] h
  obtain ⟨x0, rfl⟩ := len_1 l0
  have er : (yNs l ((ab (bgF 18) dz, (n1, 0))) [6]).1 = puts (ab (bgF 18) dz) [6] [x0] := by rw [p0]
  rw [er]
  dsimp only at q0
  generalize (yNs l ((ab (bgF 18) dz, (n1, 0))) [6]).2.1 = n2 at *
  clear p0 er h z0
  have hs : stB (puts (ab (bgF 18) dz) [6] [x0]) = 18 := rfl
  have eX : pX 18 (puts (ab (bgF 18) dz) [6] [x0]) = bads [x0] := rfl
  have eB : pB 18 (puts (ab (bgF 18) dz) [6] [x0]) = encs [x0] := rfl
  have hM : much (puts (ab (bgF 18) dz) [6] [x0]) = (1048576 < (([] : List UInt8)).length ∨ (1048576 : Int) < 0) := rfl
  refine ⟨⟨Nat.zero_le _, Nat.zero_le _⟩, (show isKd 18 = true by decide), (show ¬ ((8 : Int) < 18 ∧ (18 : Int) < 16) by decide), rfl, rfl, ?_, ?_, ?_⟩
  · rw [hs]; rfl
  · rw [hs, eX, b0]
    simp [hM]
  · intro hm
    rw [hM] at hm
    rw [hs, eB]
    omega
theorem kr_19 {l : List UInt8} {n1 : Nat} (h : (yW 19 l (ab (bgF 19) dz, (n1, 0))).2.2 = 0) : Kr l n1 (yW 19 l (ab (bgF 19) dz, (n1, 0))).1 (yW 19 l (ab (bgF 19) dz, (n1, 0))).2.1 := by
  have e : yW 19 l (ab (bgF 19) dz, (n1, 0)) = yNs l ((ab (bgF 19) dz, (n1, 0))) [6] := rfl
  rw [e] at h ⊢
  clear e
  obtain ⟨v0, l0, z0, b0, p0, q0⟩ := yNs_rd' [6] h
  obtain ⟨x0, rfl⟩ := len_1 l0
  have er : (yNs l ((ab (bgF 19) dz, (n1, 0))) [6]).1 = puts (ab (bgF 19) dz) [6] [x0] := by rw [p0]
  rw [er]
  dsimp only at q0
  generalize (yNs l ((ab (bgF 19) dz, (n1, 0))) [6]).2.1 = n2 at *
  clear p0 er h z0
  have hs : stB (puts (ab (bgF 19) dz) [6] [x0]) = 19 := rfl
  have eX : pX 19 (puts (ab (bgF 19) dz) [6] [x0]) = bads [x0] := rfl
  have eB : pB 19 (puts (ab (bgF 19) dz) [6] [x0]) = encs [x0] := rfl
  have hM : much (puts (ab (bgF 19) dz) [6] [x0]) = (1048576 < (([] : List UInt8)).length ∨ (1048576 : Int) < 0) := rfl
  refine ⟨⟨Nat.zero_le _, Nat.zero_le _⟩, (show isKd 19 = true by decide), (show ¬ ((8 : Int) < 19 ∧ (19 : Int) < 16) by decide), rfl, rfl, ?_, ?_, ?_⟩
  · rw [hs]; rfl
  · rw [hs, eX, b0]
    simp [hM]
  · intro hm
    rw [hM] at hm
    rw [hs, eB]
    omega
theorem kr_20 {l : List UInt8} {n1 : Nat} (h : (yW 20 l (ab (bgF 20) dz, (n1, 0))).2.2 = 0) : Kr l n1 (yW 20 l (ab (bgF 20) dz, (n1, 0))).1 (yW 20 l (ab (bgF 20) dz, (n1, 0))).2.1 := by
  have e : yW 20 l (ab (bgF 20) dz, (n1, 0)) = yNs l ((ab (bgF 20) dz, (n1, 0))) [6] := rfl
  rw [e] at h ⊢
  clear e
  obtain ⟨v0, l0, z0, b0, p0, q0⟩ := yNs_rd' [6] h
  obtain ⟨x0, rfl⟩ := len_1 l0
  have er : (yNs l ((ab (bgF 20) dz, (n1, 0))) [6]).1 = puts (ab (bgF 20) dz) [6] [x0] := by rw [p0]
  rw [er]
  dsimp only at q0
  generalize (yNs l ((ab (bgF 20) dz, (n1, 0))) [6]).2.1 = n2 at *
  clear p0 er h z0
  have hs : stB (puts (ab (bgF 20) dz) [6] [x0]) = 20 := rfl
  have eX : pX 20 (puts (ab (bgF 20) dz) [6] [x0]) = bads [x0] := rfl
  have eB : pB 20 (puts (ab (bgF 20) dz) [6] [x0]) = encs [x0] := rfl
  have hM : much (puts (ab (bgF 20) dz) [6] [x0]) = (1048576 < (([] : List UInt8)).length ∨ (1048576 : Int) < 0) := rfl
  refine ⟨⟨Nat.zero_le _, Nat.zero_le _⟩, (show isKd 20 = true by decide), (show ¬ ((8 : Int) < 20 ∧ (20 : Int) < 16) by decide), rfl, rfl, ?_, ?_, ?_⟩
  · rw [hs]; rfl
  · rw [hs, eX, b0]
    simp [hM]
  · intro hm
    rw [hM] at hm
    rw [hs, eB]
    omega
theorem kr_21 {l : List UInt8} {n1 : Nat} (h : (yW 21 l (ab (bgF 21) dz, (n1, 0))).2.2 = 0) : Kr l n1 (yW 21 l (ab (bgF 21) dz, (n1, 0))).1 (yW 21 l (ab (bgF 21) dz, (n1, 0))).2.1 := by
  have e : yW 21 l (ab (bgF 21) dz, (n1, 0)) = yNs l (yNs l ((ab (bgF 21) dz, (n1, 0))) [1]) [6] := rfl
  rw [e] at h ⊢
  clear e
  obtain ⟨v1, l1, z1, b1, p1, q1⟩ := yNs_rd' [6] h
  obtain ⟨v0, l0, z0, b0, p0, q0⟩ := yNs_rd' [1] z1
  obtain ⟨x0, rfl⟩ := len_1 l0
  obtain ⟨x1, rfl⟩ := len_1 l1
  have er : (yNs l (yNs l ((ab (bgF 21) dz, (n1, 0))) [1]) [6]).1 = puts (puts (ab (bgF 21) dz) [1] [x0]) [6] [x1] := by rw [p1, p0]
  rw [er]
  dsimp only at q0 q1
  generalize (yNs l (yNs l ((ab (bgF 21) dz, (n1, 0))) [1]) [6]).2.1 = n2 at *
  clear p1 p0 er h z0 z1
  have hs : stB (puts (puts (ab (bgF 21) dz) [1] [x0]) [6] [x1]) = 21 := rfl
  have eX : pX 21 (puts (puts (ab (bgF 21) dz) [1] [x0]) [6] [x1]) = (bads [x0] || bads [x1]) := rfl
  have eB : pB 21 (puts (puts (ab (bgF 21) dz) [1] [x0]) [6] [x1]) = (encs [x0] ++ encs [x1]) := rfl
  have hM : much (puts (puts (ab (bgF 21) dz) [1] [x0]) [6] [x1]) = (1048576 < (([] : List UInt8)).length ∨ (1048576 : Int) < 0) := rfl
  refine ⟨⟨Nat.zero_le _, Nat.zero_le _⟩, (show isKd 21 = true by decide), (show ¬ ((8 : Int) < 21 ∧ (21 : Int) < 16) by decide), rfl, rfl, ?_, ?_, ?_⟩
  · rw [hs]; rfl
  · rw [hs, eX, b0, b1]
    simp [hM]
  · intro hm
    rw [hM] at hm
    rw [hs, eB]
    simp only [List.length_append]
    omega
theorem kr_22 {l : List UInt8} {n1 : Nat} (h : (yW 22 l (ab (bgF 22) dz, (n1, 0))).2.2 = 0) : Kr l n1 (yW 22 l (ab (bgF 22) dz, (n1, 0))).1 (yW 22 l (ab (bgF 22) dz, (n1, 0))).2.1 := by
  have e : yW 22 l (ab (bgF 22) dz, (n1, 0)) = yNs l ((ab (bgF 22) dz, (n1, 0))) [6] := rfl
  rw [e] at h ⊢
  clear e
  obtain ⟨v0, l0, z0, b0, p0, q0⟩ := yNs_rd' [6] h
  obtain ⟨x0, rfl⟩ := len_1 l0
  have er : (yNs l ((ab (bgF 22) dz, (n1, 0))) [6]).1 = puts (ab (bgF 22) dz) [6] [x0] := by rw [p0]
  rw [er]
  dsimp only at q0
  generalize (yNs l ((ab (bgF 22) dz, (n1, 0))) [6]).2.1 = n2 at *
  clear p0 er h z0
  have hs : stB (puts (ab (bgF 22) dz) [6] [x0]) = 22 := rfl
  have eX : pX 22 (puts (ab (bgF 22) dz) [6] [x0]) = bads [x0] := rfl
  have eB : pB 22 (puts (ab (bgF 22) dz) [6] [x0]) = encs [x0] := rfl
  have hM : much (puts (ab (bgF 22) dz) [6] [x0]) = (1048576 < (([] : List UInt8)).length ∨ (1048576 : Int) < 0) := rfl
  refine ⟨⟨Nat.zero_le _, Nat.zero_le _⟩, (show isKd 22 = true by decide), (show ¬ ((8 : Int) < 22 ∧ (22 : Int) < 16) by decide), rfl, rfl, ?_, ?_, ?_⟩
  · rw [hs]; rfl
  · rw [hs, eX, b0]
    simp [hM]
  · intro hm
    rw [hM] at hm
    rw [hs, eB]
    omega
theorem kr_23 {l : List UInt8} {n1 : Nat} (h : (yW 23 l (ab (bgF 23) dz, (n1, 0))).2.2 = 0) : Kr l n1 (yW 23 l (ab (bgF 23) dz, (n1, 0))).1 (yW 23 l (ab (bgF 23) dz, (n1, 0))).2.1 := by
  have e : yW 23 l (ab (bgF 23) dz, (n1, 0)) = yNs l ((ab (bgF 23) dz, (n1, 0))) [6] := rfl
  rw [e] at h ⊢
  clear e
  obtain ⟨v0, l0, z0, b0, p0, q0⟩ := yNs_rd' [6] h
  obtain ⟨x0, rfl⟩ := len_1 l0
  have er : (yNs l ((ab (bgF 23) dz, (n1, 0))) [6]).1 = puts (ab (bgF 23) dz) [6] [x0] := by rw [p0]
  rw [er]
  dsimp only at q0
  generalize (yNs l ((ab (bgF 23) dz, (n1, 0))) [6]).2.1 = n2 at *
  clear p0 er h z0
  have hs : stB (puts (ab (bgF 23) dz) [6] [x0]) = 23 := rfl
  have eX : pX 23 (puts (ab (bgF 23) dz) [6] [x0]) = bads [x0] := rfl
  have eB : pB 23 (puts (ab (bgF 23) dz) [6] [x0]) = encs [x0] := rfl
  have hM : much (puts (ab (bgF 23) dz) [6] [x0]) = (1048576 < (([] : List UInt8)).length ∨ (1048576 : Int) < 0) := rfl
  refine ⟨⟨Nat.zero_le _, Nat.zero_le _⟩, (show isKd 23 = true by decide), (show ¬ ((8 : Int) < 23 ∧ (23 : Int) < 16) by decide), rfl, rfl, ?_, ?_, ?_⟩
  · rw [hs]; rfl
  · rw [hs, eX, b0]
    simp [hM]
  · intro hm
    rw [hM] at hm
    rw [hs, eB]
    omega
theorem kr_24 {l : List UInt8} {n1 : Nat} (h : (yW 24 l (ab (bgF 24) dz, (n1, 0))).2.2 = 0) : Kr l n1 (yW 24 l (ab (bgF 24) dz, (n1, 0))).1 (yW 24 l (ab (bgF 24) dz, (n1, 0))).2.1 := by
  have e : yW 24 l (ab (bgF 24) dz, (n1, 0)) = yR l (yI l (yNs l ((ab (bgF 24) dz, (n1, 0))) [14, 15])) := rfl
  rw [e] at h ⊢
  clear e
  obtain ⟨z2, R, r2, p2, q2⟩ := yR_rd h
  obtain ⟨z1, I, p1, q1⟩ := yI_rd z2
  obtain ⟨v0, l0, z0, b0, p0, q0⟩ := yNs_rd' [14, 15] z1
  obtain ⟨x0, x1, rfl⟩ := len_2 l0
  have er : (yR l (yI l (yNs l ((ab (bgF 24) dz, (n1, 0))) [14, 15]))).1 = { ({ (puts (ab (bgF 24) dz) [14, 15] [x0, x1]) with I := I }) with R := R } := by rw [p2, p1, p0]
  rw [er]
  dsimp only at q0 q1 q2
  generalize (yR l (yI l (yNs l ((ab (bgF 24) dz, (n1, 0))) [14, 15]))).2.1 = n2 at *
  clear p2 p1 p0 er h z0 z1 z2
  have hs : stB ({ ({ (puts (ab (bgF 24) dz) [14, 15] [x0, x1]) with I := I }) with R := R }) = 24 := rfl
  have eX : pX 24 ({ ({ (puts (ab (bgF 24) dz) [14, 15] [x0, x1]) with I := I }) with R := R }) = bads [x0, x1] := rfl
  have eB : pB 24 ({ ({ (puts (ab (bgF 24) dz) [14, 15] [x0, x1]) with I := I }) with R := R }) = (encs [x0, x1] ++ ([UInt8.ofNat I.length] ++ (I ++ R))) := rfl
  have hM : much ({ ({ (puts (ab (bgF 24) dz) [14, 15] [x0, x1]) with I := I }) with R := R }) = (1048576 < (([] : List UInt8)).length ∨ (1048576 : Int) < 0) := rfl
  refine ⟨⟨Nat.zero_le _, Nat.zero_le _⟩, (show isKd 24 = true by decide), (show ¬ ((8 : Int) < 24 ∧ (24 : Int) < 16) by decide), r2, rfl, ?_, ?_, ?_⟩
  · rw [hs]; rfl
  · rw [hs, eX, b0]
    simp [hM]
  · intro hm
    rw [hM] at hm
    rw [hs, eB]
    simp only [List.length_append, List.length_cons, List.length_nil]
    omega
theorem kr_25 {l : List UInt8} {n1 : Nat} (h : (yW 25 l (ab (bgF 25) dz, (n1, 0))).2.2 = 0) : Kr l n1 (yW 25 l (ab (bgF 25) dz, (n1, 0))).1 (yW 25 l (ab (bgF 25) dz, (n1, 0))).2.1 := by
  have e : yW 25 l (ab (bgF 25) dz, (n1, 0)) = yNs l ((ab (bgF 25) dz, (n1, 0))) [14] := rfl
  rw [e] at h ⊢
  clear e
  obtain ⟨v0, l0, z0, b0, p0, q0⟩ := yNs_rd' [14] h
  obtain ⟨x0, rfl⟩ := len_1 l0
  have er : (yNs l ((ab (bgF 25) dz, (n1, 0))) [14]).1 = puts (ab (bgF 25) dz) [14] [x0] := by rw [p0]
  rw [er]
  dsimp only at q0
  generalize (yNs l ((ab (bgF 25) dz, (n1, 0))) [14]).2.1 = n2 at *
  clear p0 er h z0
  have hs : stB (puts (ab (bgF 25) dz) [14] [x0]) = 25 := rfl
  have eX : pX 25 (puts (ab (bgF 25) dz) [14] [x0]) = bads [x0] := rfl
  have eB : pB 25 (puts (ab (bgF 25) dz) [14] [x0]) = encs [x0] := rfl
  have hM : much (puts (ab (bgF 25) dz) [14] [x0]) = (1048576 < (([] : List UInt8)).length ∨ (1048576 : Int) < 0) := rfl
  refine ⟨⟨Nat.zero_le _, Nat.zero_le _⟩, (show isKd 25 = true by decide), (show ¬ ((8 : Int) < 25 ∧ (25 : Int) < 16) by decide), rfl, rfl, ?_, ?_, ?_⟩
  · rw [hs]; rfl
  · rw [hs, eX, b0]
    simp [hM]
  · intro hm
    rw [hM] at hm
    rw [hs, eB]
    omega
theorem kr_26 {l : List UInt8} {n1 : Nat} (h : (yW 26 l (ab (bgF 26) dz, (n1, 0))).2.2 = 0) : Kr l n1 (yW 26 l (ab (bgF 26) dz, (n1, 0))).1 (yW 26 l (ab (bgF 26) dz, (n1, 0))).2.1 := by
  have e : yW 26 l (ab (bgF 26) dz, (n1, 0)) = yP l ((ab (bgF 26) dz, (n1, 0))) := rfl
  rw [e] at h ⊢
  clear e
  obtain ⟨z0, R, r0, p0, q0⟩ := yP_rd h
  have er : (yP l ((ab (bgF 26) dz, (n1, 0)))).1 = { (ab (bgF 26) dz) with T := R } := by rw [p0]
  rw [er]
  dsimp only at q0
  generalize (yP l ((ab (bgF 26) dz, (n1, 0)))).2.1 = n2 at *
  clear p0 er h z0
  have hs : stB ({ (ab (bgF 26) dz) with T := R }) = 26 := rfl
  have eX : pX 26 ({ (ab (bgF 26) dz) with T := R }) = false := rfl
  have eB : pB 26 ({ (ab (bgF 26) dz) with T := R }) = R := rfl
  have hM : much ({ (ab (bgF 26) dz) with T := R }) = (1048576 < (([] : List UInt8)).length ∨ (1048576 : Int) < 0) := rfl
  refine ⟨⟨Nat.zero_le _, Nat.zero_le _⟩, (show isKd 26 = true by decide), (show ¬ ((8 : Int) < 26 ∧ (26 : Int) < 16) by decide), rfl, r0, ?_, ?_, ?_⟩
  · rw [hs]; rfl
  · rw [hs, eX]
    simp [hM]
  · intro hm
    rw [hM] at hm
    rw [hs, eB]
    omega
theorem kr_27 {l : List UInt8} {n1 : Nat} (h : (yW 27 l (ab (bgF 27) dz, (n1, 0))).2.2 = 0) : Kr l n1 (yW 27 l (ab (bgF 27) dz, (n1, 0))).1 (yW 27 l (ab (bgF 27) dz, (n1, 0))).2.1 := by
  have e : yW 27 l (ab (bgF 27) dz, (n1, 0)) = yP l ((ab (bgF 27) dz, (n1, 0))) := rfl
  rw [e] at h ⊢
  clear e
  obtain ⟨z0, R, r0, p0, q0⟩ := yP_rd h
  have er : (yP l ((ab (bgF 27) dz, (n1, 0)))).1 = { (ab (bgF 27) dz) with T := R } := by rw [p0]
  rw [er]
  dsimp only at q0
  generalize (yP l ((ab (bgF 27) dz, (n1, 0)))).2.1 = n2 at *
  clear p0 er h z0
  have hs : stB ({ (ab (bgF 27) dz) with T := R }) = 27 := rfl
  have eX : pX 27 ({ (ab (bgF 27) dz) with T := R }) = false := rfl
  have eB : pB 27 ({ (ab (bgF 27) dz) with T := R }) = R := rfl
  have hM : much ({ (ab (bgF 27) dz) with T := R }) = (1048576 < (([] : List UInt8)).length ∨ (1048576 : Int) < 0) := rfl
  refine ⟨⟨Nat.zero_le _, Nat.zero_le _⟩, (show isKd 27 = true by decide), (show ¬ ((8 : Int) < 27 ∧ (27 : Int) < 16) by decide), rfl, r0, ?_, ?_, ?_⟩
  · rw [hs]; rfl
  · rw [hs, eX]
    simp [hM]
  · intro hm
    rw [hM] at hm
    rw [hs, eB]
    omega
theorem kr_28 {l : List UInt8} {n1 : Nat} (h : (yW 28 l (ab (bgF 28) dz, (n1, 0))).2.2 = 0) : Kr l n1 (yW 28 l (ab (bgF 28) dz, (n1, 0))).1 (yW 28 l (ab (bgF 28) dz, (n1, 0))).2.1 := by
  have e : yW 28 l (ab (bgF 28) dz, (n1, 0)) = yC l (yNs l ((ab (bgF 28) dz, (n1, 0))) [7, 8]) := rfl
  rw [e] at h ⊢
  clear e
  obtain ⟨z1, D, p1, c1, q1⟩ := yC_rd h
  obtain ⟨v0, l0, z0, b0, p0, q0⟩ := yNs_rd' [7, 8] z1
  obtain ⟨x0, x1, rfl⟩ := len_2 l0
  have er : (yC l (yNs l ((ab (bgF 28) dz, (n1, 0))) [7, 8])).1 = { (puts (ab (bgF 28) dz) [7, 8] [x0, x1]) with D := D } := by rw [p1, p0]
  rw [er]
  dsimp only at q0 q1
  generalize (yC l (yNs l ((ab (bgF 28) dz, (n1, 0))) [7, 8])).2.1 = n2 at *
  clear p1 p0 er h z0 z1
  have hs : stB ({ (puts (ab (bgF 28) dz) [7, 8] [x0, x1]) with D := D }) = 28 := rfl
  have eX : pX 28 ({ (puts (ab (bgF 28) dz) [7, 8] [x0, x1]) with D := D }) = (bads [x0, x1] || bg D) := rfl
  have eB : pB 28 ({ (puts (ab (bgF 28) dz) [7, 8] [x0, x1]) with D := D }) = (encs [x0, x1] ++ (encv D.length ++ rB D)) := rfl
  have hM : much ({ (puts (ab (bgF 28) dz) [7, 8] [x0, x1]) with D := D }) = (1048576 < (D).length ∨ (1048576 : Int) < 0) := rfl
  refine ⟨⟨c1, Nat.zero_le _⟩, (show isKd 28 = true by decide), (show ¬ ((8 : Int) < 28 ∧ (28 : Int) < 16) by decide), rfl, rfl, ?_, ?_, ?_⟩
  · rw [hs]; rfl
  · rw [hs, eX, b0]
    simp [hM, bg]
  · intro hm
    rw [hM] at hm
    rw [hs, eB]
    have hr : rB D = D := if_pos (by omega)
    rw [hr]
    simp only [List.length_append]
    omega
theorem kr_29 {l : List UInt8} {n1 : Nat} (h : (yW 29 l (ab (bgF 29) dz, (n1, 0))).2.2 = 0) : Kr l n1 (yW 29 l (ab (bgF 29) dz, (n1, 0))).1 (yW 29 l (ab (bgF 29) dz, (n1, 0))).2.1 := by
  have e : yW 29 l (ab (bgF 29) dz, (n1, 0)) = yC l (yNs l ((ab (bgF 29) dz, (n1, 0))) [7]) := rfl
  rw [e] at h ⊢
  clear e
  obtain ⟨z1, D, p1, c1, q1⟩ := yC_rd h
  obtain ⟨v0, l0, z0, b0, p0, q0⟩ := yNs_rd' [7] z1
  obtain ⟨x0, rfl⟩ := len_1 l0
  have er : (yC l (yNs l ((ab (bgF 29) dz, (n1, 0))) [7])).1 = { (puts (ab (bgF 29) dz) [7] [x0]) with D := D } := by rw [p1, p0]
  rw [er]
  dsimp only at q0 q1
  generalize (yC l (yNs l ((ab (bgF 29) dz, (n1, 0))) [7])).2.1 = n2 at *
  clear p1 p0 er h z0 z1
  have hs : stB ({ (puts (ab (bgF 29) dz) [7] [x0]) with D := D }) = 29 := rfl
  have eX : pX 29 ({ (puts (ab (bgF 29) dz) [7] [x0]) with D := D }) = (bads [x0] || bg D) := rfl
  have eB : pB 29 ({ (puts (ab (bgF 29) dz) [7] [x0]) with D := D }) = (encs [x0] ++ (encv D.length ++ rB D)) := rfl
  have hM : much ({ (puts (ab (bgF 29) dz) [7] [x0]) with D := D }) = (1048576 < (D).length ∨ (1048576 : Int) < 0) := rfl
  refine ⟨⟨c1, Nat.zero_le _⟩, (show isKd 29 = true by decide), (show ¬ ((8 : Int) < 29 ∧ (29 : Int) < 16) by decide), rfl, rfl, ?_, ?_, ?_⟩
  · rw [hs]; rfl
  · rw [hs, eX, b0]
    simp [hM, bg]
  · intro hm
    rw [hM] at hm
    rw [hs, eB]
    have hr : rB D = D := if_pos (by omega)
    rw [hr]
    simp only [List.length_append]
    omega
theorem kr_30 {l : List UInt8} {n1 : Nat} (h : (yW 30 l (ab (bgF 30) dz, (n1, 0))).2.2 = 0) : Kr l n1 (yW 30 l (ab (bgF 30) dz, (n1, 0))).1 (yW 30 l (ab (bgF 30) dz, (n1, 0))).2.1 := by
  have e : yW 30 l (ab (bgF 30) dz, (n1, 0)) = (ab (bgF 30) dz, (n1, 0)) := rfl
  rw [e] at h ⊢
  clear e
  have hs : stB (ab (bgF 30) dz) = 30 := rfl
  have eX : pX 30 (ab (bgF 30) dz) = false := rfl
  have eB : pB 30 (ab (bgF 30) dz) = ([] : List UInt8) := rfl
  have hM : much (ab (bgF 30) dz) = (1048576 < (([] : List UInt8)).length ∨ (1048576 : Int) < 0) := rfl
  refine ⟨⟨Nat.zero_le _, Nat.zero_le _⟩, (show isKd 30 = true by decide), (show ¬ ((8 : Int) < 30 ∧ (30 : Int) < 16) by decide), rfl, rfl, ?_, ?_, ?_⟩
  · rw [hs]; rfl
  · rw [hs, eX]
    simp [hM]
  · intro hm
    rw [hM] at hm
    rw [hs, eB]
    exact Nat.le_refl _
theorem kr_48 {l : List UInt8} {n1 : Nat} (h : (yW 48 l (ab (bgF 48) dz, (n1, 0))).2.2 = 0) : Kr l n1 (yW 48 l (ab (bgF 48) dz, (n1, 0))).1 (yW 48 l (ab (bgF 48) dz, (n1, 0))).2.1 := by
  have e : yW 48 l (ab (bgF 48) dz, (n1, 0)) = yE l ((ab (bgF 48) dz, (n1, 0))) := rfl
  rw [e] at h ⊢
  clear e
  obtain ⟨z0, D, p0, c0, q0⟩ := yE_rd h
  have er : (yE l ((ab (bgF 48) dz, (n1, 0)))).1 = { (ab (bgF 48) dz) with D := D } := by rw [p0]
  rw [er]
  dsimp only at q0
  generalize (yE l ((ab (bgF 48) dz, (n1, 0)))).2.1 = n2 at *
  clear p0 er h z0
  have hs : stB ({ (ab (bgF 48) dz) with D := D }) = 48 := rfl
  have eX : pX 48 ({ (ab (bgF 48) dz) with D := D }) = bg D := rfl
  have eB : pB 48 ({ (ab (bgF 48) dz) with D := D }) = rB D := rfl
  have hM : much ({ (ab (bgF 48) dz) with D := D }) = (1048576 < (D).length ∨ (1048576 : Int) < 0) := rfl
  refine ⟨⟨c0, Nat.zero_le _⟩, (show isKd 48 = true by decide), (show ¬ ((8 : Int) < 48 ∧ (48 : Int) < 16) by decide), rfl, rfl, ?_, ?_, ?_⟩
  · rw [hs]; rfl
  · rw [hs, eX]
    simp [hM, bg]
  · intro hm
    rw [hM] at hm
    rw [hs, eB]
    have hr : rB D = D := if_pos (by omega)
    rw [hr]
    omega
theorem kr_49 {l : List UInt8} {n1 : Nat} (h : (yW 49 l (ab (bgF 49) dz, (n1, 0))).2.2 = 0) : Kr l n1 (yW 49 l (ab (bgF 49) dz, (n1, 0))).1 (yW 49 l (ab (bgF 49) dz, (n1, 0))).2.1 := by
  have e : yW 49 l (ab (bgF 49) dz, (n1, 0)) = yC l ((ab (bgF 49) dz, (n1, 0))) := rfl
  rw [e] at h ⊢
  clear e
  obtain ⟨z0, D, p0, c0, q0⟩ := yC_rd h
  have er : (yC l ((ab (bgF 49) dz, (n1, 0)))).1 = { (ab (bgF 49) dz) with D := D } := by rw [p0]
  rw [er]
  dsimp only at q0
  generalize (yC l ((ab (bgF 49) dz, (n1, 0)))).2.1 = n2 at *
  clear p0 er h z0
  have hs : stB ({ (ab (bgF 49) dz) with D := D }) = 49 := rfl
  have eX : pX 49 ({ (ab (bgF 49) dz) with D := D }) = bg D := rfl
  have eB : pB 49 ({ (ab (bgF 49) dz) with D := D }) = (encv D.length ++ rB D) := rfl
  have hM : much ({ (ab (bgF 49) dz) with D := D }) = (1048576 < (D).length ∨ (1048576 : Int) < 0) := rfl
  refine ⟨⟨c0, Nat.zero_le _⟩, (show isKd 49 = true by decide), (show ¬ ((8 : Int) < 49 ∧ (49 : Int) < 16) by decide), rfl, rfl, ?_, ?_, ?_⟩
  · rw [hs]; rfl
  · rw [hs, eX]
    simp [hM, bg]
  · intro hm
    rw [hM] at hm
    rw [hs, eB]
    have hr : rB D = D := if_pos (by omega)
    rw [hr]
    simp only [List.length_append]
    omega
theorem kr_any {K : Int} {l : List UInt8} {n1 : Nat} (hk : isKd K = true) (h : (yW K l (ab (bgF K) dz, (n1, 0))).2.2 = 0) : Kr l n1 (yW K l (ab (bgF K) dz, (n1, 0))).1 (yW K l (ab (bgF K) dz, (n1, 0))).2.1 := by
  rcases isKd_cases hk with rfl | rfl | rfl | rfl | rfl | rfl | rfl | rfl | rfl | rfl | rfl | rfl | rfl | rfl | rfl | rfl | rfl | rfl | rfl | rfl | rfl | rfl | rfl | rfl | rfl | rfl | rfl | rfl | rfl | rfl | rfl | rfl | rfl
  · exact kr_0 h
  · exact kr_1 h
  · exact kr_2 h
  · exact kr_3 h
  · exact kr_4 h
  · exact kr_5 h
  · exact kr_6 h
  · exact kr_7 h
  · exact kr_8 h
  · exact kr_9 h
  · exact kr_10 h
  · exact kr_11 h
  · exact kr_12 h
  · exact kr_13 h
  · exact kr_14 h
  · exact kr_15 h
  · exact kr_16 h
  · exact kr_17 h
  · exact kr_18 h
  · exact kr_19 h
  · exact kr_20 h
  · exact kr_21 h
  · exact kr_22 h
  · exact kr_23 h
  · exact kr_24 h
  · exact kr_25 h
  · exact kr_26 h
  · exact kr_27 h
  · exact kr_28 h
  · exact kr_29 h
  · exact kr_30 h
  · exact kr_48 h
  · exact kr_49 h
end Go.Proofs.YtaeapgkfmofjlaaDoor
namespace Go.Proofs.YtaeapgkfmofjlaaDoor
open Go.ChangeShapes Go.WideShapes Go.ChangeAt Go.RowKit
set_option linter.unusedVariables false
set_option maxRecDepth 100000

theorem kdk_any (a : Fa) (hp : (putR a).2 = 0) (hR : a.R.length = 16) (hT : a.T.length = 8) : Kdk (stB a) a := by
  obtain ⟨h1, h2, hm, hx, he⟩ := putR_parts hp
  by_cases h8 : a.k = 8
  · by_cases ho : a.o = 0
    · cases hln : a.len
      · cases hfn : a.fin
        · skip
          have hK : stB a = 8 := by unfold stB; rw [if_pos h8, hln, hfn, if_pos ho]; rfl
          rw [hK] at hx ⊢
          intro l h hl
          obtain ⟨c1, c2, c3, c4, c5, c6, c7⟩ := kd_8 a h8 ho hln hfn hm hx hR hT h (hl (.inr (.inr ⟨h8, hln⟩)))
          exact ⟨c1, c2, c3, c4, c5, c6, fun _ => c7⟩
        · skip
          have hK : stB a = 9 := by unfold stB; rw [if_pos h8, hln, hfn, if_pos ho]; rfl
          rw [hK] at hx ⊢
          intro l h hl
          obtain ⟨c1, c2, c3, c4, c5, c6, c7⟩ := kd_9 a h8 ho hln hfn hm hx hR hT h (hl (.inr (.inr ⟨h8, hln⟩)))
          exact ⟨c1, c2, c3, c4, c5, c6, fun _ => c7⟩
      · cases hfn : a.fin
        · skip
          have hK : stB a = 10 := by unfold stB; rw [if_pos h8, hln, hfn, if_pos ho]; rfl
          rw [hK] at hx ⊢
          intro l h hl
          obtain ⟨c1, c2, c3, c4, c5, c6, c7⟩ := kd_10 a h8 ho hln hfn hm hx hR hT h
          exact ⟨c1, c2, c3, c4, c5, c6, fun _ => c7⟩
        · skip
          have hK : stB a = 11 := by unfold stB; rw [if_pos h8, hln, hfn, if_pos ho]; rfl
          rw [hK] at hx ⊢
          intro l h hl
          obtain ⟨c1, c2, c3, c4, c5, c6, c7⟩ := kd_11 a h8 ho hln hfn hm hx hR hT h
          exact ⟨c1, c2, c3, c4, c5, c6, fun _ => c7⟩
    · skip
      cases hln : a.len
      · cases hfn : a.fin
        · skip
          have hK : stB a = 12 := by unfold stB; rw [if_pos h8, hln, hfn, if_neg ho]; rfl
          rw [hK] at hx ⊢
          intro l h hl
          obtain ⟨c1, c2, c3, c4, c5, c6, c7⟩ := kd_12 a h8 ho hln hfn hm hx hR hT h (hl (.inr (.inr ⟨h8, hln⟩)))
          exact ⟨c1, c2, c3, c4, c5, c6, fun _ => c7⟩
        · skip
          have hK : stB a = 13 := by unfold stB; rw [if_pos h8, hln, hfn, if_neg ho]; rfl
          rw [hK] at hx ⊢
          intro l h hl
          obtain ⟨c1, c2, c3, c4, c5, c6, c7⟩ := kd_13 a h8 ho hln hfn hm hx hR hT h (hl (.inr (.inr ⟨h8, hln⟩)))
          exact ⟨c1, c2, c3, c4, c5, c6, fun _ => c7⟩
      · cases hfn : a.fin
        · skip
          have hK : stB a = 14 := by unfold stB; rw [if_pos h8, hln, hfn, if_neg ho]; rfl
          rw [hK] at hx ⊢
          intro l h hl
          obtain ⟨c1, c2, c3, c4, c5, c6, c7⟩ := kd_14 a h8 ho hln hfn hm hx hR hT h
          exact ⟨c1, c2, c3, c4, c5, c6, fun _ => c7⟩
        · skip
          have hK : stB a = 15 := by unfold stB; rw [if_pos h8, hln, hfn, if_neg ho]; rfl
          rw [hK] at hx ⊢
          intro l h hl
          obtain ⟨c1, c2, c3, c4, c5, c6, c7⟩ := kd_15 a h8 ho hln hfn hm hx hR hT h
          exact ⟨c1, c2, c3, c4, c5, c6, fun _ => c7⟩
  · have hK : stB a = a.k := by unfold stB; rw [if_neg h8]
    rw [hK] at hx ⊢
    rcases isKd_cases h1 with hk | hk | hk | hk | hk | hk | hk | hk | hk | hk | hk | hk | hk | hk | hk | hk | hk | hk | hk | hk | hk | hk | hk | hk | hk | hk | hk | hk | hk | hk | hk | hk | hk
    · rw [hk] at hx ⊢
      intro l h hl
      obtain ⟨c1, c2, c3, c4, c5, c6⟩ := kd_0 a hk hm hx hR hT h (hl (.inl hk))
      exact ⟨c1, c2, c3, c4, c5, c6, fun e => absurd e h8⟩
    · rw [hk] at hx ⊢
      intro l h hl
      obtain ⟨c1, c2, c3, c4, c5, c6⟩ := kd_1 a hk hm hx hR hT h
      exact ⟨c1, c2, c3, c4, c5, c6, fun e => absurd e h8⟩
    · rw [hk] at hx ⊢
      intro l h hl
      obtain ⟨c1, c2, c3, c4, c5, c6⟩ := kd_2 a hk hm hx hR hT h
      exact ⟨c1, c2, c3, c4, c5, c6, fun e => absurd e h8⟩
    · rw [hk] at hx ⊢
      intro l h hl
      obtain ⟨c1, c2, c3, c4, c5, c6⟩ := kd_3 a hk hm hx hR hT h
      exact ⟨c1, c2, c3, c4, c5, c6, fun e => absurd e h8⟩
    · rw [hk] at hx ⊢
      intro l h hl
      obtain ⟨c1, c2, c3, c4, c5, c6⟩ := kd_4 a hk hm hx hR hT h
      exact ⟨c1, c2, c3, c4, c5, c6, fun e => absurd e h8⟩
    · rw [hk] at hx ⊢
      intro l h hl
      obtain ⟨c1, c2, c3, c4, c5, c6⟩ := kd_5 a hk hm hx hR hT h
      exact ⟨c1, c2, c3, c4, c5, c6, fun e => absurd e h8⟩
    · rw [hk] at hx ⊢
      intro l h hl
      obtain ⟨c1, c2, c3, c4, c5, c6⟩ := kd_6 a hk hm hx hR hT h
      exact ⟨c1, c2, c3, c4, c5, c6, fun e => absurd e h8⟩
    · rw [hk] at hx ⊢
      intro l h hl
      obtain ⟨c1, c2, c3, c4, c5, c6⟩ := kd_7 a hk hm hx hR hT h
      exact ⟨c1, c2, c3, c4, c5, c6, fun e => absurd e h8⟩
    · exact absurd hk (by omega)
    · exact absurd hk (by omega)
    · exact absurd hk (by omega)
    · exact absurd hk (by omega)
    · exact absurd hk (by omega)
    · exact absurd hk (by omega)
    · exact absurd hk (by omega)
    · exact absurd hk (by omega)
    · rw [hk] at hx ⊢
      intro l h hl
      obtain ⟨c1, c2, c3, c4, c5, c6⟩ := kd_16 a hk hm hx hR hT h
      exact ⟨c1, c2, c3, c4, c5, c6, fun e => absurd e h8⟩
    · rw [hk] at hx ⊢
      intro l h hl
      obtain ⟨c1, c2, c3, c4, c5, c6⟩ := kd_17 a hk hm hx hR hT h
      exact ⟨c1, c2, c3, c4, c5, c6, fun e => absurd e h8⟩
    · rw [hk] at hx ⊢
      intro l h hl
      obtain ⟨c1, c2, c3, c4, c5, c6⟩ := kd_18 a hk hm hx hR hT h
      exact ⟨c1, c2, c3, c4, c5, c6, fun e => absurd e h8⟩
    · rw [hk] at hx ⊢
      intro l h hl
      obtain ⟨c1, c2, c3, c4, c5, c6⟩ := kd_19 a hk hm hx hR hT h
      exact ⟨c1, c2, c3, c4, c5, c6, fun e => absurd e h8⟩
    · rw [hk] at hx ⊢
      intro l h hl
      obtain ⟨c1, c2, c3, c4, c5, c6⟩ := kd_20 a hk hm hx hR hT h
      exact ⟨c1, c2, c3, c4, c5, c6, fun e => absurd e h8⟩
    · rw [hk] at hx ⊢
      intro l h hl
      obtain ⟨c1, c2, c3, c4, c5, c6⟩ := kd_21 a hk hm hx hR hT h
      exact ⟨c1, c2, c3, c4, c5, c6, fun e => absurd e h8⟩
    · rw [hk] at hx ⊢
      intro l h hl
      obtain ⟨c1, c2, c3, c4, c5, c6⟩ := kd_22 a hk hm hx hR hT h
      exact ⟨c1, c2, c3, c4, c5, c6, fun e => absurd e h8⟩
    · rw [hk] at hx ⊢
      intro l h hl
      obtain ⟨c1, c2, c3, c4, c5, c6⟩ := kd_23 a hk hm hx hR hT h
      exact ⟨c1, c2, c3, c4, c5, c6, fun e => absurd e h8⟩
    · rw [hk] at hx ⊢
      intro l h hl
      obtain ⟨c1, c2, c3, c4, c5, c6⟩ := kd_24 a hk hm hx hR hT h
      exact ⟨c1, c2, c3, c4, c5, c6, fun e => absurd e h8⟩
    · rw [hk] at hx ⊢
      intro l h hl
      obtain ⟨c1, c2, c3, c4, c5, c6⟩ := kd_25 a hk hm hx hR hT h
      exact ⟨c1, c2, c3, c4, c5, c6, fun e => absurd e h8⟩
    · rw [hk] at hx ⊢
      intro l h hl
      obtain ⟨c1, c2, c3, c4, c5, c6⟩ := kd_26 a hk hm hx hR hT h
      exact ⟨c1, c2, c3, c4, c5, c6, fun e => absurd e h8⟩
    · rw [hk] at hx ⊢
      intro l h hl
      obtain ⟨c1, c2, c3, c4, c5, c6⟩ := kd_27 a hk hm hx hR hT h
      exact ⟨c1, c2, c3, c4, c5, c6, fun e => absurd e h8⟩
    · rw [hk] at hx ⊢
      intro l h hl
      obtain ⟨c1, c2, c3, c4, c5, c6⟩ := kd_28 a hk hm hx hR hT h
      exact ⟨c1, c2, c3, c4, c5, c6, fun e => absurd e h8⟩
    · rw [hk] at hx ⊢
      intro l h hl
      obtain ⟨c1, c2, c3, c4, c5, c6⟩ := kd_29 a hk hm hx hR hT h
      exact ⟨c1, c2, c3, c4, c5, c6, fun e => absurd e h8⟩
    · rw [hk] at hx ⊢
      intro l h hl
      obtain ⟨c1, c2, c3, c4, c5, c6⟩ := kd_30 a hk hm hx hR hT h
      exact ⟨c1, c2, c3, c4, c5, c6, fun e => absurd e h8⟩
    · rw [hk] at hx ⊢
      intro l h hl
      obtain ⟨c1, c2, c3, c4, c5, c6⟩ := kd_48 a hk hm hx hR hT h (hl (.inr (.inl hk)))
      exact ⟨c1, c2, c3, c4, c5, c6, fun e => absurd e h8⟩
    · rw [hk] at hx ⊢
      intro l h hl
      obtain ⟨c1, c2, c3, c4, c5, c6⟩ := kd_49 a hk hm hx hR hT h
      exact ⟨c1, c2, c3, c4, c5, c6, fun e => absurd e h8⟩

theorem fin_C {a : Fa} (hp : (putR a).2 = 0) (hk : Kdk (stB a) a) : rdS (putR a).1 0 = (can (stB a) a, ((putR a).1.length, 0)) ∧ rdE (putR a).1 0 = 0 := by
  obtain ⟨h1, h2, hm, hx, he⟩ := putR_parts hp
  obtain ⟨s1, s2, s3⟩ := stB_kd a h1 h2
  generalize stB a = K at *
  obtain ⟨w1, w2⟩ := encv_one s2 s3
  rw [he]
  dsimp only
  have hH : Hs (encv K ++ pB K a) 1 (pB K a) := ⟨encv K, [], by rw [List.append_nil], w1⟩
  obtain ⟨d1, c2, _⟩ := hk _ hH (fun _ => by rw [List.length_append, w1])
  have hv : Hs (encv K ++ pB K a) 0 (encv K) := ⟨[], pB K a, rfl, rfl⟩
  obtain ⟨v1, v2, v3⟩ := v_en hv (badv_small s2 s3)
  have hK : xK (encv K ++ pB K a) 0 = (K, (1, 0)) := by
    unfold xK
    rw [if_pos v3, v1, v2, w1, w2, s1]
    simp
  have hS : rdS (encv K ++ pB K a) 0 = (can K a, (1 + (pB K a).length, 0)) := by
    unfold rdS
    rw [hK, if_neg (fun h => h rfl)]
    exact d1
  refine ⟨?_, ?_⟩
  · rw [hS, List.length_append, w1]
  · unfold rdE
    rw [hS, if_neg (fun h => h rfl), c2, if_neg (by simp)]
/-- What was read can be put, unless it is much; it is put in no more bytes, and read the same. -/
theorem rd_short {l : List UInt8} (h : rdE l 0 = 0) : ((rdS l 0).1.D.length ≤ l.length ∧ (rdS l 0).1.A.length ≤ 256) ∧ (rdS l 0).1.R.length = 16 ∧ (rdS l 0).1.T.length = 8 ∧ (much (rdS l 0).1 → putR (rdS l 0).1 = ([], 2)) ∧
    (¬ much (rdS l 0).1 → (putR (rdS l 0).1).2 = 0 ∧ (putR (rdS l 0).1).1.length ≤ (rdS l 0).2.1 ∧ rdS (putR (rdS l 0).1).1 0 = ((rdS l 0).1, ((putR (rdS l 0).1).1.length, 0)) ∧ rdE (putR (rdS l 0).1).1 0 = 0) := by
  have h1 : (rdS l 0).2.2 = 0 ∧ mayB (rdS l 0).1 = true := by
    unfold rdE at h
    split at h
    · contradiction
    · rename_i q
      refine ⟨by simpa using q, ?_⟩
      split at h
      · cases h
      · rename_i q2
        simpa using q2
  obtain ⟨h2, hm⟩ := h1
  have hk0 : (xK l 0).2.2 = 0 := by
    by_cases q : (xK l 0).2.2 = 0
    · exact q
    · exfalso
      unfold rdS at h2
      rw [if_pos q] at h2
      exact q h2
  have e : rdS l 0 = yW (xK l 0).1 l (ab (bgF (xK l 0).1) dz, (xK l 0).2) := by unfold rdS; rw [if_neg (fun q => q hk0)]
  have hkd := xK_kd l 0 hk0
  have hn1 : 1 ≤ (xK l 0).2.1 := by
    unfold xK at hk0 ⊢
    by_cases q : vE l ((0 : Nat) : Int) = 0
    · obtain ⟨b, hb, hb1, hb2⟩ := vN_rng q
      rw [if_pos q]
      dsimp only
      omega
    · rw [if_neg q] at hk0
      cases hk0
  generalize (xK l 0).1 = K at *
  obtain ⟨n1, hn⟩ : ∃ n, (xK l 0).2.1 = n := ⟨_, rfl⟩
  have e2 : (xK l 0).2 = (n1, 0) := by rw [← hn, ← hk0]
  rw [hn] at hn1
  rw [e2] at e
  have hr := kr_any (K := K) (l := l) (n1 := n1) hkd (by rw [← e]; exact h2)
  rw [← e] at hr
  clear e e2 hn hk0 h hkd
  generalize rdS l 0 = r at *
  obtain ⟨a, n2, e⟩ := r
  dsimp only at *
  obtain ⟨k0, k1, k2, k3, k4, k5, k6, k7⟩ := hr
  have hP : putR a = if much a then ([], 2) else (encv (stB a) ++ pB (stB a) a, 0) := by
    unfold putR
    rw [if_neg (by rintro (q | q); rw [k1] at q; cases q; exact k2 q), hm, if_neg (by simp), k6]
    by_cases q : much a
    · rw [if_pos q, if_pos (decide_eq_true q)]
    · rw [if_neg q, if_neg (by simpa using q)]
  refine ⟨k0, k3, k4, fun q => by rw [hP, if_pos q], fun q => ?_⟩
  have hp : (putR a).2 = 0 := by rw [hP, if_neg q]
  obtain ⟨f1, f2⟩ := fin_C hp (kdk_any a hp k3 k4)
  rw [k5] at f1
  refine ⟨hp, ?_, f1, f2⟩
  rw [hP, if_neg q]
  obtain ⟨s1, s2, s3⟩ := stB_kd a k1 k2
  have := k7 q
  rw [List.length_append, (encv_one s2 s3).1]
  omega
end Go.Proofs.YtaeapgkfmofjlaaDoor
