/- SecretsKept: the law's terms, and who knows them. -/
import Derived.Test.YtpjoaimbaboleaaAx
import Derived.Test.YtpjoaimbaboleaaPb
namespace Go.Proofs.Ytpjoaimbaboleaa
open Go.RowKit Go.Shelf Go.Lib
set_option linter.unusedVariables false

abbrev tP (k : Nat) : Tm := ⟨3, k, 0, ⟨#[]⟩, ⟨#[]⟩⟩
abbrev tA : Tm := ⟨4, 1, ((2 : Nat) : Int), ⟨#[]⟩, ⟨#[]⟩⟩
abbrev tE : Tm := ⟨2, 0, 0, bEarly, ⟨#[]⟩⟩
abbrev tH (k : Nat) (S : ByteArray) : Tm := ⟨2, k, 0, S, ⟨(nameL 6).toArray⟩⟩
abbrev tN (k : Nat) (S : ByteArray) : Tm := ⟨2, k, 0, S, ⟨#[]⟩⟩
abbrev tW (k : Nat) (S : ByteArray) : Tm := ⟨2, k, 0, S, ⟨(nameL 8).toArray⟩⟩
abbrev bCD : ByteArray := ⟨#[99, 108, 105, 101, 110, 116, 32, 100, 97, 116, 97]⟩
/-- The first six. -/
abbrev LK6 : List Tm := [rt, fr, fr, tP 1, tP 2, tA]
abbrev LK9 (sd : List UInt8) : List Tm := [rt, fr, fr, tP 1, tP 2, tA, tE, tS, tM 7 sd]
/-- All fifteen. -/
abbrev LK (sd : List UInt8) : List Tm := [rt, fr, fr, tP 1, tP 2, tA, tE, tS, tM 7 sd, tH 5 bHand, tH 9 bBoth, tN 10 bMaster, tW 11 bCD, tN 12 bFinished, tW 13 bMark]
theorem k_early : dv LK6 (eK z16) bEarly [] = (nameL 6, 0, LK6 ++ [tE]) := by
  have e : eK z16 = nameL 0 := by simp [eK]
  rw [e, dv_new (by simp) (by simp) (by simp)]
  rfl
theorem k_begin : dv (LK6 ++ [tE]) (nameL 0) bScript [] = (nameL 7, 0, LK6 ++ [tE, tS]) := by
  rw [dv_new (by simp) (by simp) (by simp)]
  rfl
theorem k_add (sd : List UInt8) : dv (LK6 ++ [tE, tS]) (nameL 7) bMessage sd = (nameL 8, 0, LK9 sd) := by
  rw [dv_new (by simp) (by simp) (by simp)]
  rfl
theorem k_hand (sd : List UInt8) : dvHand (LK9 sd) (nameL 6) (nameL 5) = (nameL 10, 0, LK9 sd ++ [tH 5 bHand, tH 9 bBoth]) := by
  have h1 : dv (LK9 sd) (nameL 5) bHand (nameL 6) = (nameL 9, 0, LK9 sd ++ [tH 5 bHand]) := by
    rw [dv_new (by simp) (by simp) (by simp)]
    rfl
  have h2 : dv (LK9 sd ++ [tH 5 bHand]) (nameL 9) bBoth (nameL 6) = (nameL 10, 0, LK9 sd ++ [tH 5 bHand, tH 9 bBoth]) := by
    rw [dv_new (by simp) (by simp) (by simp)]
    rfl
  rw [dvHand, if_pos ⟨6, by simp, rfl⟩, dv2, h1, if_pos rfl, h2]
theorem k_master (sd : List UInt8) : dv (LK9 sd ++ [tH 5 bHand, tH 9 bBoth]) (nameL 10) bMaster [] = (nameL 11, 0, LK9 sd ++ [tH 5 bHand, tH 9 bBoth, tN 10 bMaster]) := by
  rw [dv_new (by simp) (by simp) (by simp)]
  rfl
theorem k_traffic (sd : List UInt8) : dv (LK9 sd ++ [tH 5 bHand, tH 9 bBoth, tN 10 bMaster]) (nameL 11) bCD (nameL 8) = (nameL 12, 0, LK9 sd ++ [tH 5 bHand, tH 9 bBoth, tN 10 bMaster, tW 11 bCD]) := by
  rw [dv_new (by simp) (by simp) (by simp)]
  rfl
theorem k_mark (sd : List UInt8) : dv2 (LK9 sd ++ [tH 5 bHand, tH 9 bBoth, tN 10 bMaster, tW 11 bCD]) (nameL 12) bFinished [] bMark (nameL 8) = (nameL 14, 0, LK sd) := by
  have h1 : dv (LK9 sd ++ [tH 5 bHand, tH 9 bBoth, tN 10 bMaster, tW 11 bCD]) (nameL 12) bFinished [] = (nameL 13, 0, LK9 sd ++ [tH 5 bHand, tH 9 bBoth, tN 10 bMaster, tW 11 bCD, tN 12 bFinished]) := by
    rw [dv_new (by simp) (by simp) (by simp)]
    rfl
  have h2 : dv (LK9 sd ++ [tH 5 bHand, tH 9 bBoth, tN 10 bMaster, tW 11 bCD, tN 12 bFinished]) (nameL 13) bMark (nameL 8) = (nameL 14, 0, LK sd) := by
    rw [dv_new (by simp) (by simp) (by simp)]
    rfl
  rw [dv2, h1, if_pos rfl, h2]
/-- Of what each is made. -/
def par (m : Nat) : List Nat := match m with
  | 3 => [1]
  | 4 => [2]
  | 5 => [1, 2]
  | 6 => [0]
  | 7 => [0]
  | 8 => [7]
  | 9 => [5]
  | 10 => [9]
  | 11 => [10]
  | 12 => [11]
  | 13 => [12]
  | 14 => [13]
  | _ => []
theorem LK_get {sd : List UInt8} {m : Nat} {t : Tm} (h : (LK sd)[m]? = some t) : m < 15 ∧ t.kd ≠ 6 ∧ (2 ≤ t.kd → ∀ i : Nat, (t.of' = i ∨ (t.kd = 4 ∧ t.wi = (i : Int))) → i ∈ par m) := by
  have hm : m < 15 := (List.getElem?_eq_some_iff.1 h).1
  refine ⟨hm, ?_⟩
  rcases (show m = 0 ∨ m = 1 ∨ m = 2 ∨ m = 3 ∨ m = 4 ∨ m = 5 ∨ m = 6 ∨ m = 7 ∨ m = 8 ∨ m = 9 ∨ m = 10 ∨ m = 11 ∨ m = 12 ∨ m = 13 ∨ m = 14 by omega) with rfl | rfl | rfl | rfl | rfl | rfl | rfl | rfl | rfl | rfl | rfl | rfl | rfl | rfl | rfl <;> (simp at h; subst h; refine ⟨by simp, fun h2 i hi => ?_⟩; simp [par] at h2 hi ⊢ <;> omega)
theorem kn_sub {sd : List UInt8} {S : List (List UInt8)} {P : Nat → Prop} (h0 : P 0) (hs : ∀ b ∈ S, ∀ x ∈ wins b, x < 15 → P x) (hm : ∀ m, m < 15 → ∀ i ∈ par m, P i → P m) {x : Nat} (hx : Kn (LK sd) S x) : P x := by
  induction hx with
  | root => exact h0
  | seen hb hx hlt => exact hs _ hb _ hx hlt
  | made hm' h2 h6 hi _ ih =>
    obtain ⟨q1, _, q3⟩ := LK_get hm'
    exact hm _ q1 _ (q3 h2 _ hi) ih
  | text hm' h6 _ _ _ _ _ => exact absurd h6 (LK_get hm').2.1
/-- What everybody knows. -/
def K4 : List Nat := [0, 6, 7, 8]
/-- What somebody knows who saw all that was said. -/
def K7 : List Nat := [0, 3, 4, 6, 7, 8, 14]
theorem kn_nil {sd : List UInt8} {x : Nat} (hx : Kn (LK sd) [] x) : x ∈ K4 :=
  kn_sub (P := fun x => x ∈ K4) (by decide) (fun b hb => absurd hb (by simp)) (by decide) hx
theorem nw (k : Nat) (hk : k < 100) : wins (nameL k) = [k] := wins_name k (by omega)
theorem kn_seen {sd mo : List UInt8} (h1 : ∀ x ∈ wins sd, x ∈ K4) (h2 : ∀ x ∈ wins mo, x ∈ K4) {x : Nat} (hx : Kn (LK sd) [nameL 3, nameL 4, sd, mo, nameL 8, nameL 6, nameL 14] x) : x ∈ K7 := by
  have k47 : ∀ x, x ∈ K4 → x ∈ K7 := by intro x hx; simp [K4, K7] at hx ⊢; omega
  refine kn_sub (P := fun x => x ∈ K7) (by decide) ?_ (by decide) hx
  clear hx
  intro b hb x hx _
  simp only [List.mem_cons, List.not_mem_nil, or_false] at hb
  rcases hb with rfl | rfl | rfl | rfl | rfl | rfl | rfl
  · rw [nw 3 (by omega)] at hx; simp at hx; subst hx; decide
  · rw [nw 4 (by omega)] at hx; simp at hx; subst hx; decide
  · exact k47 x (h1 x hx)
  · exact k47 x (h2 x hx)
  · rw [nw 8 (by omega)] at hx; simp at hx; subst hx; decide
  · rw [nw 6 (by omega)] at hx; simp at hx; subst hx; decide
  · rw [nw 14 (by omega)] at hx; simp at hx; subst hx; decide
theorem kn_a {sd : List UInt8} {S : List (List UInt8)} (ha : nameL 1 ∈ S) : Kn (LK sd) S 5 ∧ Kn (LK sd) S 10 ∧ Kn (LK sd) S 11 ∧ Kn (LK sd) S 12 := by
  have k1 : Kn (LK sd) S 1 := .seen ha (by rw [nw 1 (by omega)]; simp) (by simp)
  have k5 : Kn (LK sd) S 5 := .made (t := tA) (i := 1) rfl (by simp) (by simp) (.inl rfl) k1
  have k9 : Kn (LK sd) S 9 := .made (t := tH 5 bHand) (i := 5) rfl (by simp) (by simp) (.inl rfl) k5
  have k10 : Kn (LK sd) S 10 := .made (t := tH 9 bBoth) (i := 9) rfl (by simp) (by simp) (.inl rfl) k9
  have k11 : Kn (LK sd) S 11 := .made (t := tN 10 bMaster) (i := 10) rfl (by simp) (by simp) (.inl rfl) k10
  exact ⟨k5, k10, k11, .made (t := tW 11 bCD) (i := 11) rfl (by simp) (by simp) (.inl rfl) k11⟩
theorem kn_6 {sd : List UInt8} {S : List (List UInt8)} : Kn (LK sd) S 6 := .made (t := tE) (i := 0) rfl (by simp) (by simp) (.inl rfl) .root
/-- Two names that everybody knows stand twelve bytes apart at least. -/
theorem gap_b : (K4.all fun i => K4.all fun j => (List.range 11).all fun d => (nameL i).drop (d + 1) != (nameL j).take (15 - d)) = true := by decide +kernel
theorem gap {i j d : Nat} (hi : i ∈ K4) (hj : j ∈ K4) (h1 : 1 ≤ d) (h2 : d ≤ 11) : (nameL i).drop d ≠ (nameL j).take (16 - d) := by
  have := List.all_eq_true.1 (List.all_eq_true.1 (List.all_eq_true.1 gap_b i hi) j hj) (d - 1) (by simp; omega)
  rw [show d - 1 + 1 = d by omega, show 15 - (d - 1) = 16 - d by omega] at this
  simpa using this
theorem winsTo_none (l : List UInt8) {a m : Nat} (ham : a ≤ m) (h : ∀ k, a ≤ k → k < m → numL (win l k) = none) : winsTo l m = winsTo l a := by
  induction m with
  | zero => obtain rfl : a = 0 := by omega
            rfl
  | succ m ih =>
    by_cases e : a = m + 1
    · rw [e]
    · rw [winsTo_succ, h m (by omega) (by omega), ih (by omega) fun k h1 h2 => h k h1 (by omega)]
      simp
theorem cnt (l : List UInt8) : ∀ (m : Nat), m ≤ l.length - 15 → (∀ a x, a < m → numL (win l a) = some x → x ∈ K4) → (winsTo l m).length ≤ (m + 11) / 12 := by
  intro m
  induction m using Nat.strongRecOn with
  | _ m ih =>
    intro hm hK
    cases m with
    | zero => simp [winsTo]
    | succ m =>
      rw [winsTo_succ]
      cases hx : numL (win l m) with
      | none =>
        have := ih m (by omega) (by omega) fun a x ha hax => hK a x (by omega) hax
        simp
        omega
      | some x =>
        have hxK := hK m x (by omega) hx
        have hnm := (name_num (win_len (show m < l.length - 15 by omega)) hx).1
        have hno : ∀ k, m - 11 ≤ k → k < m → numL (win l k) = none := by
          intro k h1 h2
          cases hy : numL (win l k) with
          | none => rfl
          | some y =>
            exfalso
            have hyK := hK k y (by omega) hy
            have hny := (name_num (win_len (show k < l.length - 15 by omega)) hy).1
            refine gap hyK hxK (d := m - k) (by omega) (by omega) ?_
            rw [← hny, ← hnm]
            unfold win
            rw [List.drop_take, List.drop_drop, List.take_take, show k + (m - k) = m by omega, Nat.min_eq_left (by omega)]
        rw [winsTo_none l (Nat.sub_le m 11) hno]
        have := ih (m - 11) (by omega) (by omega) fun a x ha hax => hK a x (by omega) hax
        simp
        omega
theorem cnt_wins (l : List UInt8) (h : ∀ x ∈ wins l, x ∈ K4) : (wins l).length ≤ l.length / 12 := by
  have := cnt l (l.length - 15) (Nat.le_refl _) fun a x ha hx => h x (by unfold wins winsTo; exact List.mem_filterMap.2 ⟨a, by simp; omega, hx⟩)
  by_cases h0 : l.length - 15 = 0
  · have e : wins l = [] := by unfold wins; rw [h0]; rfl
    rw [e]; simp
  · unfold wins
    omega
theorem small_LK (sd : List UInt8) : Small (LK sd) := fun i t h h6 => absurd h6 (LK_get h).2.1
end Go.Proofs.Ytpjoaimbaboleaa
