/- vault: the names in bytes 0 with a name behind them. -/
import Derived.Test.YthhoknkdmmldbaaAp
namespace Go.Proofs.Ythhoknkdmmldbaa
open Go.RowKit Go.Shelf Go.Lib
set_option linter.unusedVariables false

/-- Bytes 0, and a name behind them. -/
def zn (N i : Nat) : List UInt8 := List.replicate N 0 ++ nameL i
@[simp] theorem zn_len (N i : Nat) : (zn N i).length = N + 16 := by simp [zn, nameL_len]
/-- A name whose beginning is put behind d bytes 0. -/
def stra (i d : Nat) : List UInt8 := List.replicate d 0 ++ (nameL i).take (16 - d)
set_option maxRecDepth 100000 in
theorem stra_all : ((List.range 64).all fun i => (List.range 16).all fun d => (numL (stra i (d + 1))).isNone) = true := by decide +kernel
theorem stra_no {i d : Nat} (hi : i < 64) (h1 : 1 ≤ d) (h2 : d ≤ 16) : numL (stra i d) = none := by
  have := List.all_eq_true.1 (List.all_eq_true.1 stra_all i (by simpa using hi)) (d - 1) (by simp; omega)
  rw [show d - 1 + 1 = d by omega] at this
  simpa using this
theorem win_zn (N i a : Nat) (ha : a ≤ N) : win (zn N i) a = List.replicate (min 16 (N - a)) 0 ++ (nameL i).take (16 - (N - a)) := by
  unfold win zn
  rw [List.drop_append, List.drop_replicate, List.length_replicate, show a - N = 0 by omega, List.drop_zero, List.take_append, List.take_replicate, List.length_replicate]
theorem win_zn' (N i a : Nat) (hi : i < 64) (ha : a < N) : numL (win (zn N i) a) = none := by
  rw [win_zn N i a (by omega)]
  by_cases h : N - a ≤ 16
  · have := stra_no hi (show 1 ≤ N - a by omega) h
    unfold stra at this
    rwa [show min 16 (N - a) = N - a by omega]
  · have := stra_no hi (show 1 ≤ 16 by omega) (Nat.le_refl 16)
    unfold stra at this
    rw [show min 16 (N - a) = 16 by omega, show 16 - (N - a) = 16 - 16 by omega]
    exact this
theorem win_end (X : List UInt8) (i : Nat) : win (X ++ nameL i) X.length = nameL i := by
  unfold win
  rw [List.drop_left, List.take_of_length_le (by rw [nameL_len]; exact Nat.le_refl _)]
theorem wins_end (X : List UInt8) (i : Nat) (hi : i < 9223372036854775808) : i ∈ wins (X ++ nameL i) := by
  unfold wins winsTo
  refine List.mem_filterMap.2 ⟨X.length, ?_, ?_⟩
  · rw [List.mem_range, List.length_append, nameL_len]; omega
  · rw [win_end, num_name hi]
theorem wins_zn (N i : Nat) (hi : i < 64) : ∀ x, x ∈ wins (zn N i) ↔ x = i := by
  intro x
  constructor
  · intro h
    unfold wins winsTo at h
    obtain ⟨a, ha, hx⟩ := List.mem_filterMap.1 h
    rw [List.mem_range, zn_len] at ha
    by_cases e : a < N
    · rw [win_zn' N i a hi e] at hx; cases hx
    · obtain rfl : a = N := by omega
      have := win_end (List.replicate a 0) i
      rw [List.length_replicate] at this
      unfold zn at hx
      rw [this, num_name (by omega)] at hx
      injection hx with hx
      exact hx.symm
  · rintro rfl
    exact wins_end _ _ (by omega)
end Go.Proofs.Ythhoknkdmmldbaa
