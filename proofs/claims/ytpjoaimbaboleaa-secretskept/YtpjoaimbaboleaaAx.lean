/- SecretsApart: the law's terms. -/
import Derived.Test.YtpjoaimbaboleaaHw
namespace Go.Proofs.Ytpjoaimbaboleaa
open Go.RowKit Go.Shelf Go.Lib
set_option linter.unusedVariables false

/-- The labels of traffic. -/
def lab (q : Nat) : ByteArray := match q with
  | 0 => ⟨#[101, 97, 114, 108, 121]⟩
  | 1 => ⟨#[99, 108, 105, 101, 110, 116, 32, 104, 97, 110, 100]⟩
  | 2 => ⟨#[115, 101, 114, 118, 101, 114, 32, 104, 97, 110, 100]⟩
  | 3 => ⟨#[99, 108, 105, 101, 110, 116, 32, 100, 97, 116, 97]⟩
  | _ => ⟨#[115, 101, 114, 118, 101, 114, 32, 100, 97, 116, 97]⟩
theorem lab_inj {p q : Nat} (hp : p < 5) (hq : q < 5) (h : lab p = lab q) : p = q := by
  have h' : (lab p).data.toList = (lab q).data.toList := by rw [h]
  revert h'
  rcases (show p = 0 ∨ p = 1 ∨ p = 2 ∨ p = 3 ∨ p = 4 by omega) with rfl | rfl | rfl | rfl | rfl <;> rcases (show q = 0 ∨ q = 1 ∨ q = 2 ∨ q = 3 ∨ q = 4 by omega) with rfl | rfl | rfl | rfl | rfl <;> decide
theorem lab_size (q : Nat) : (lab q).size ≤ 140737488351232 := by
  unfold lab
  split <;> decide
/-- A secret of traffic. -/
def trf (kn m : Nat) : Tm := ⟨2, kn, 0, lab (m % 5), ⟨(nameL (m / 5 + 1)).toArray⟩⟩
theorem trf_inj {kn m n : Nat} (hm : m < 1000) (hn : n < 1000) (h : trf kn m = trf kn n) : m = n := by
  injection h with _ _ _ h1 h2
  have e1 := lab_inj (by omega) (by omega) h1
  injection h2 with h2
  have e2 : nameL (m / 5 + 1) = nameL (n / 5 + 1) := by have := congrArg Array.toList h2; simpa using this
  have e3 := name_inj (by omega) (by omega) e2
  omega
/-- The terms with m secrets of traffic. -/
def Lm (LA : List Tm) (kn m : Nat) : List Tm := LA ++ (List.range m).map (trf kn)
theorem Lm_len (LA : List Tm) (kn m : Nat) : (Lm LA kn m).length = LA.length + m := by simp [Lm]
theorem Lm_succ (LA : List Tm) (kn m : Nat) : Lm LA kn m ++ [trf kn m] = Lm LA kn (m + 1) := by simp [Lm, List.range_succ]
theorem Lm_new {LA : List Tm} {kn m : Nat} (h : ∀ t ∈ LA, t.kd = 2 → t.of' ≠ kn) (hm : m < 1000) : trf kn m ∉ Lm LA kn m := by
  intro hx
  simp only [Lm, List.mem_append, List.mem_map, List.mem_range] at hx
  rcases hx with hx | ⟨j, hj, e⟩
  · exact h _ hx rfl rfl
  · have := trf_inj (by omega) (by omega) e; omega
/-- Their names. -/
def Hm (n0 m : Nat) : List (List UInt8) := (List.range m).map fun i => nameL (n0 + i)
theorem Hm_len (n0 m : Nat) : (Hm n0 m).length = m := by simp [Hm]
theorem Hm_succ (n0 m : Nat) : Hm n0 m ++ [nameL (n0 + m)] = Hm n0 (m + 1) := by simp [Hm, List.range_succ]
theorem Hm_at {n0 m i : Nat} (h : i < m) : (Hm n0 m)[i]? = some (nameL (n0 + i)) := by simp [Hm, h]
theorem Hm_16 (n0 m : Nat) : H16 (Hm n0 m) := fun H hH => by
  simp only [Hm, List.mem_map] at hH
  obtain ⟨i, _, rfl⟩ := hH
  exact nameL_len _
theorem dv_trf {LA : List Tm} {kn m j q : Nat} (hL : LA.length ≤ 1000) (hk : kn < LA.length) (h : ∀ t ∈ LA, t.kd = 2 → t.of' ≠ kn) (hm : m = 5 * j + q) (hq : q < 5) (hj : j < 3) : dv (Lm LA kn m) (nameL kn) (lab q) (nameL (j + 1)) = (nameL (LA.length + m), 0, Lm LA kn (m + 1)) := by
  have e1 : m % 5 = q := by omega
  have e2 : m / 5 = j := by omega
  have ht : (⟨2, kn, 0, lab q, ⟨(nameL (j + 1)).toArray⟩⟩ : Tm) = trf kn m := by rw [trf, e1, e2]
  have hn := Lm_new h (show m < 1000 by omega)
  rw [← ht] at hn
  rw [dv_new (by rw [Lm_len]; omega) (by rw [Lm_len]; omega) hn, ht, Lm_succ, Lm_len]
/-- The first terms. -/
abbrev tS : Tm := ⟨2, 0, 0, bScript, ⟨#[]⟩⟩
abbrev tM (k : Nat) (l : List UInt8) : Tm := ⟨2, k, 0, bMessage, ⟨l.toArray⟩⟩
theorem ba_list {a b : List UInt8} (h : (⟨a.toArray⟩ : ByteArray) = ⟨b.toArray⟩) : a = b := by
  injection h with h
  have := congrArg Array.toList h
  simpa using this
theorem dv_a1 : dv [rt] (nameL 0) bScript [] = (nameL 1, 0, [rt, tS]) := by
  rw [dv_new (by simp) (by simp) (by simp)]
  rfl
theorem dv_a2 (a : List UInt8) : dv [rt, tS] (nameL 1) bMessage a = (nameL 2, 0, [rt, tS, tM 1 a]) := by
  rw [dv_new (by simp) (by simp) (by simp)]
  rfl
theorem dv_a3 (a b : List UInt8) : dv [rt, tS, tM 1 a] (nameL 2) bMessage b = (nameL 3, 0, [rt, tS, tM 1 a, tM 2 b]) := by
  rw [dv_new (by simp) (by simp) (by simp)]
  rfl
/-- What is known of the fourth step. -/
theorem dv_a4 (a b : List UInt8) : ∃ zi LB, dv [rt, tS, tM 1 a, tM 2 b] (nameL 1) bMessage b = (nameL zi, 0, LB) ∧ (zi = 2 ↔ a = b) ∧ zi ≤ 4 ∧ 4 ≤ LB.length ∧ LB.length ≤ 5 ∧ ∀ t ∈ LB, t.kd = 2 → t.of' ≤ 2 := by
  by_cases h : a = b
  · subst h
    have hat : ([rt, tS, tM 1 a, tM 2 a] : List Tm)[2]? = some (tM 1 a) := rfl
    refine ⟨2, [rt, tS, tM 1 a, tM 2 a], ?_, by simp, by omega, by simp, by simp, ?_⟩
    · rw [dv_name (by simp) (by simp), ad_old hat]
      have hx := ix_at hat
      generalize hi : ix [rt, tS, tM 1 a, tM 2 a] (tM 1 a) = i at hx
      have : i = 2 := by
        rcases i with _ | _ | _ | _ | i
        · simp at hx
        · simp at hx
        · rfl
        · simp at hx
        · simp at hx
      rw [this]
    · intro t ht h2
      simp only [List.mem_cons, List.not_mem_nil, or_false] at ht
      rcases ht with rfl | rfl | rfl | rfl <;> simp
  · have hn : tM 1 b ∉ ([rt, tS, tM 1 a, tM 2 b] : List Tm) := by
      simp only [List.mem_cons, List.not_mem_nil, or_false, not_or]
      refine ⟨by simp, by simp, fun e => h ?_, by simp⟩
      injection e with _ _ _ _ e
      exact (ba_list e).symm
    refine ⟨4, [rt, tS, tM 1 a, tM 2 b, tM 1 b], by rw [dv_new (by simp) (by simp) hn]; rfl, by simp [h], by omega, by simp, by simp, ?_⟩
    intro t ht h2
    simp only [List.mem_cons, List.not_mem_nil, or_false] at ht
    rcases ht with rfl | rfl | rfl | rfl | rfl <;> simp
end Go.Proofs.Ytpjoaimbaboleaa
