/- What octet.Var and the reference's Read answer, for every input, in one form. -/
import Derived.Test.YtaeapgkfmofjlaaDoorRead
namespace Go.Proofs.YtaeapgkfmofjlaaDoor
open Go.ChangeShapes Go.WideShapes Go.ChangeAt Go.RowKit
set_option linter.unusedVariables false

/-- how many bytes the number at a place has -/
def wd (l : List UInt8) (a : Nat) : Nat := 2 ^ ((l.getD a 0).toNat / 64)
abbrev vOk (l : List UInt8) (a : Int) : Prop := 0 ≤ a ∧ a < l.length ∧ a + wd l a.toNat ≤ l.length
def vV (l : List UInt8) (a : Int) : Int := if vOk l a then ((num (sub l a.toNat (wd l a.toNat)) % 2 ^ (8 * wd l a.toNat - 2) : Nat) : Int) else 0
def vN (l : List UInt8) (a : Int) : Int := if vOk l a then a + wd l a.toNat else 0
def vE (l : List UInt8) (a : Int) : Int := if a < 0 ∨ (l.length : Int) < a then 2 else if vOk l a then 0 else 10

theorem wd_of {l : List UInt8} {a q : Nat} (h : a < l.length) (hq : l[a].toNat / 64 = q) : wd l a = 2 ^ q := by
  unfold wd
  rw [show l.getD a 0 = l[a] by simp [List.getD, h], hq]
theorem v_arg {l : List UInt8} {a : Int} (h : a < 0 ∨ (l.length : Int) < a) : vV l a = 0 ∧ vN l a = 0 ∧ vE l a = 2 := by
  have hn : ¬ vOk l a := by unfold vOk; omega
  exact ⟨if_neg hn, if_neg hn, if_pos h⟩
theorem v_few {l : List UInt8} {a : Nat} (h : a ≤ l.length) (hn : ¬ vOk l a) : vV l a = 0 ∧ vN l a = 0 ∧ vE l a = 10 :=
  ⟨if_neg hn, if_neg hn, (if_neg (by omega)).trans (if_neg hn)⟩
theorem v_yes {l : List UInt8} {a n : Nat} (P : Nat) (hP : 2 ^ (8 * n - 2) = P) (h : a < l.length) (hw : wd l a = n) (hl : a + n ≤ l.length) : vV l a = (num (sub l a n) : Int) % (P : Int) ∧ vN l a = a + n ∧ vE l a = 0 := by
  have ho : vOk l a := by unfold vOk; rw [Int.toNat_natCast, hw]; omega
  refine ⟨(if_pos ho).trans ?_, (if_pos ho).trans ?_, (if_neg (by omega)).trans (if_pos ho)⟩
  · rw [Int.toNat_natCast, hw, hP, Int.natCast_emod]
  · rw [Int.toNat_natCast, hw]

theorem var_any (ao : Option Addr) (l : List UInt8) (cap : Nat) (a : Int) (w : World) (ht : Tb w) (hs : Sl w ao l) (hl : l.length ≤ 9223372036854775000) :
    Calls Tryd.prog 43 #[.slice ao l.length cap, .int .i64 a] w fun e w' => e = .returned (.tuple #[.int .i64 (vV l a), .int .i64 (vN l a), .int .i64 (vE l a)]) ∧ w' = w := by
  by_cases hA : a < 0 ∨ (l.length : Int) < a
  · obtain ⟨e1, e2, e3⟩ := v_arg hA
    rw [e1, e2, e3]
    exact var_arg ao l.length cap a w hA hl
  · obtain ⟨A, rfl⟩ := Int.eq_ofNat_of_zero_le (show 0 ≤ a by omega)
    by_cases hE : A = l.length
    · obtain ⟨e1, e2, e3⟩ := v_few (l := l) (a := A) (by omega) (by unfold vOk; omega)
      rw [e1, e2, e3, hE]
      exact var_end ao l.length cap w hl
    · have hlt : A < l.length := by omega
      have hb : l[A].toNat < 256 := l[A].toNat_lt
      have hq : l[A].toNat / 64 = 0 ∨ l[A].toNat / 64 = 1 ∨ l[A].toNat / 64 = 2 ∨ l[A].toNat / 64 = 3 := by omega
      rcases hq with hq | hq | hq | hq
      · have hw : wd l A = 1 := wd_of hlt hq
        obtain ⟨e1, e2, e3⟩ := v_yes 64 (by decide) hlt hw (by omega)
        rw [e1, e2, e3]
        exact var_1 ao l cap A w ht hs hl (by omega) hq
      · have hw : wd l A = 2 := wd_of hlt hq
        by_cases hf : A + 2 ≤ l.length
        · obtain ⟨e1, e2, e3⟩ := v_yes 16384 (by decide) hlt hw hf
          rw [e1, e2, e3]
          exact var_2 ao l cap A w ht hs hl hf hq
        · obtain ⟨e1, e2, e3⟩ := v_few (l := l) (a := A) (by omega) (by unfold vOk; rw [Int.toNat_natCast, hw]; omega)
          rw [e1, e2, e3]
          exact var_few_2 ao l cap A w ht hs hl hlt (by omega) hq
      · have hw : wd l A = 4 := wd_of hlt hq
        by_cases hf : A + 4 ≤ l.length
        · obtain ⟨e1, e2, e3⟩ := v_yes 1073741824 (by decide) hlt hw hf
          rw [e1, e2, e3]
          exact var_4 ao l cap A w ht hs hl hf hq
        · obtain ⟨e1, e2, e3⟩ := v_few (l := l) (a := A) (by omega) (by unfold vOk; rw [Int.toNat_natCast, hw]; omega)
          rw [e1, e2, e3]
          exact var_few_4 ao l cap A w ht hs hl hlt (by omega) hq
      · have hw : wd l A = 8 := wd_of hlt hq
        by_cases hf : A + 8 ≤ l.length
        · obtain ⟨e1, e2, e3⟩ := v_yes 4611686018427387904 (by decide) hlt hw hf
          rw [e1, e2, e3]
          exact var_8 ao l cap A w ht hs hl hf hq
        · obtain ⟨e1, e2, e3⟩ := v_few (l := l) (a := A) (by omega) (by unfold vOk; rw [Int.toNat_natCast, hw]; omega)
          rw [e1, e2, e3]
          exact var_few_8 ao l cap A w ht hs hl hlt (by omega) hq

theorem rread_any (ao : Option Addr) (l : List UInt8) (cap : Nat) (a : Int) (w : World) (hs : Sl w ao l) (hl : l.length ≤ 9223372036854775000) (hcap : l.length ≤ cap) (hcm : cap ≤ 9223372036854775807) :
    Calls Tryd.prog 45 #[.slice ao l.length cap, .int .i64 a] w fun e w' => e = .returned (.tuple #[.int .i64 (vV l a), .int .i64 (vN l a), .int .i64 (vE l a)]) ∧ Below w.heap.size w w' := by
  by_cases hA : a < 0 ∨ (l.length : Int) < a
  · obtain ⟨e1, e2, e3⟩ := v_arg hA
    rw [e1, e2, e3]
    exact (rread_arg ao l.length cap a w hA hl).mono fun e w' h => ⟨h.1, by rw [h.2]; exact Below.refl _ _⟩
  · obtain ⟨A, rfl⟩ := Int.eq_ofNat_of_zero_le (show 0 ≤ a by omega)
    by_cases hE : A = l.length
    · obtain ⟨e1, e2, e3⟩ := v_few (l := l) (a := A) (by omega) (by unfold vOk; omega)
      rw [e1, e2, e3, hE]
      exact (rread_end ao l.length cap w hl).mono fun e w' h => ⟨h.1, by rw [h.2]; exact Below.refl _ _⟩
    · have hlt : A < l.length := by omega
      have hb : l[A].toNat < 256 := l[A].toNat_lt
      have hq : l[A].toNat / 64 = 0 ∨ l[A].toNat / 64 = 1 ∨ l[A].toNat / 64 = 2 ∨ l[A].toNat / 64 = 3 := by omega
      rcases hq with hq | hq | hq | hq
      · have hw : wd l A = 1 := wd_of hlt hq
        obtain ⟨e1, e2, e3⟩ := v_yes 64 (by decide) hlt hw (by omega)
        rw [e1, e2, e3]
        exact rread_1 ao l cap A w hs hl hcap hcm (by omega) hq
      · have hw : wd l A = 2 := wd_of hlt hq
        by_cases hf : A + 2 ≤ l.length
        · obtain ⟨e1, e2, e3⟩ := v_yes 16384 (by decide) hlt hw hf
          rw [e1, e2, e3]
          exact rread_2 ao l cap A w hs hl hcap hcm hf hq
        · obtain ⟨e1, e2, e3⟩ := v_few (l := l) (a := A) (by omega) (by unfold vOk; rw [Int.toNat_natCast, hw]; omega)
          rw [e1, e2, e3]
          exact (rread_few_2 ao l cap A w hs hl hlt (by omega) hq).mono fun e w' h => ⟨h.1, by rw [h.2]; exact Below.refl _ _⟩
      · have hw : wd l A = 4 := wd_of hlt hq
        by_cases hf : A + 4 ≤ l.length
        · obtain ⟨e1, e2, e3⟩ := v_yes 1073741824 (by decide) hlt hw hf
          rw [e1, e2, e3]
          exact rread_4 ao l cap A w hs hl hcap hcm hf hq
        · obtain ⟨e1, e2, e3⟩ := v_few (l := l) (a := A) (by omega) (by unfold vOk; rw [Int.toNat_natCast, hw]; omega)
          rw [e1, e2, e3]
          exact (rread_few_4 ao l cap A w hs hl hlt (by omega) hq).mono fun e w' h => ⟨h.1, by rw [h.2]; exact Below.refl _ _⟩
      · have hw : wd l A = 8 := wd_of hlt hq
        by_cases hf : A + 8 ≤ l.length
        · obtain ⟨e1, e2, e3⟩ := v_yes 4611686018427387904 (by decide) hlt hw hf
          rw [e1, e2, e3]
          exact rread_8 ao l cap A w hs hl hcap hcm hf hq
        · obtain ⟨e1, e2, e3⟩ := v_few (l := l) (a := A) (by omega) (by unfold vOk; rw [Int.toNat_natCast, hw]; omega)
          rw [e1, e2, e3]
          exact (rread_few_8 ao l cap A w hs hl hlt (by omega) hq).mono fun e w' h => ⟨h.1, by rw [h.2]; exact Below.refl _ _⟩
end Go.Proofs.YtaeapgkfmofjlaaDoor
