/- A message laid is read, a message read is laid so. -/
import Derived.Test.YtcchlicokglmnaaBd
namespace Go.Proofs.Ytcchlicokglmnaa
open Go.ChangeShapes Go.WideShapes Go.ChangeAt Go.RowKit Go.Lib
set_option linter.unusedVariables false

section
variable {L : List UInt8} {m : Msg} {a : Int}
theorem sub_add (L : List UInt8) (a p q : Nat) : sub L a (p + q) = sub L a p ++ sub L (a + p) q := by
  unfold sub
  rw [List.take_add, List.drop_drop]
theorem rd_kind {k : Int} (hk : isK k = true) (s : Sd) : (rd k L s).2.kind = k := by
  rcases of_decide_eq_true hk with rfl | rfl | rfl | rfl | rfl | rfl | rfl
  · unfold rd
    rw [if_pos rfl]
    split <;> rfl
  all_goals rfl
theorem putE_0 (h : putE m = 0) : isK m.kind = true ∧ (bodyS m).2 = false := by
  unfold putE at h
  split at h
  · cases h
  · rename_i h1
    split at h
    · cases h
    · rename_i h2
      exact ⟨by simpa using h1, by simpa using h2⟩
/-- What is laid is read. -/
theorem read_put (P R : List UInt8) (hok : putE m = 0) (hl : m.len) : readE (P ++ putL m ++ R) P.length = 0 ∧ getV (P ++ putL m ++ R) P.length 1 = m.kind ∧ cutN (P ++ putL m ++ R) P.length = (bodyS m).1.length ∧ rdAt (P ++ putL m ++ R) P.length = rd m.kind (bodyS m).1 (false, 0) := by
  obtain ⟨hk, hb⟩ := putE_0 hok
  have hkv := isK_vals hk
  have hlen := bodyS_len m hl
  have hpl : putL m = ([UInt8.ofNat m.kind.toNat] ++ be 3 (bodyS m).1.length) ++ (bodyS m).1 := by
    unfold putL; rw [if_pos hok]; unfold putB; rw [uN_nat _ (by omega)]
  obtain ⟨B, hB⟩ : ∃ B, (bodyS m).1 = B := ⟨_, rfl⟩
  rw [hB] at hpl hlen
  obtain ⟨L, hL⟩ : ∃ L, P ++ putL m ++ R = L := ⟨_, rfl⟩
  have hL' : L = P ++ ([UInt8.ofNat m.kind.toNat] ++ (be 3 B.length ++ (B ++ R))) := by rw [← hL, hpl]; simp
  have hLl : L.length = P.length + (4 + (B.length + R.length)) := by rw [hL']; simp [be_length]; omega
  have s1 : sub L P.length 1 = [UInt8.ofNat m.kind.toNat] := by rw [hL']; simp [sub]
  have s2 : sub L (P.length + 1) 3 = be 3 B.length := by
    have : L = (P ++ [UInt8.ofNat m.kind.toNat]) ++ (be 3 B.length ++ (B ++ R)) := by rw [hL']; simp
    have hlp : (P ++ [UInt8.ofNat m.kind.toNat]).length = P.length + 1 := by simp
    rw [this, ← hlp, sub, List.drop_left, List.take_append_of_le_length (by simp [be_length])]
    exact List.take_of_length_le (by simp [be_length])
  have s3 : sub L (P.length + 4) B.length = B := by
    have : L = (P ++ ([UInt8.ofNat m.kind.toNat] ++ be 3 B.length)) ++ (B ++ R) := by rw [hL']; simp
    have hlp : (P ++ ([UInt8.ofNat m.kind.toNat] ++ be 3 B.length)).length = P.length + 4 := by simp [be_length]
    rw [this, ← hlp, sub, List.drop_left, List.take_append_of_le_length (Nat.le_refl _)]
    exact List.take_of_length_le (Nat.le_refl _)
  have v1 : getV L P.length 1 = m.kind := by
    unfold getV
    rw [if_pos (by omega), Int.toNat_natCast, s1]
    simp [num]
    omega
  have v2 : getV L ((P.length : Int) + 1) 3 = (B.length : Int) := by
    unfold getV
    rw [if_pos (by omega)]
    have : ((P.length : Int) + 1).toNat = P.length + 1 := by omega
    rw [this, s2, num_be, Nat.mod_eq_of_lt (by omega)]
  have E1 : getE L P.length 1 = 0 := by unfold getE; rw [if_neg (by omega), if_pos (by omega)]
  have E2 : getE L ((P.length : Int) + 1) 3 = 0 := by unfold getE; rw [if_neg (by omega), if_pos (by omega)]
  have cN : cutN L P.length = B.length := by unfold cutN; rw [v2]; simp
  have cE : cutE L P.length = 0 := by
    unfold cutE
    rw [if_neg (by rw [E1]; simp), if_neg (by rw [E2]; simp), if_neg (by rw [v2]; omega)]
  have hbd : bdy L P.length = B := by unfold bdy; rw [cN]; simpa using s3
  have hrd : rdAt L P.length = rd m.kind B (false, 0) := by unfold rdAt; rw [v1, hbd]
  rw [hL, hB]
  refine ⟨?_, v1, cN, hrd⟩
  have hr := rd_reads hk hl hb
  rw [hB] at hr
  unfold readE
  rw [if_neg (by rw [cE]; simp), v1, hrd, hr, cN, if_neg (by rw [hk]; simp)]
  simp
/-- What is read is laid so. -/
theorem put_read (h : readE L a = 0) (hpl : m.pl = (rdAt L a).2) (hL : L.length ≤ 9223372036854775000) : 0 ≤ a ∧ a.toNat + (4 + cutN L a) ≤ L.length ∧ putE m = 0 ∧ putL m = sub L a.toNat (4 + cutN L a) := by
  unfold readE at h
  split at h
  · rename_i h1; exact absurd h h1
  rename_i h1
  have hc : cutE L a = 0 := by simpa using h1
  split at h
  · cases h
  rename_i h2
  have hk : isK (getV L a 1) = true := by simpa using h2
  split at h
  · cases h
  rename_i h3
  have h3' : (rdAt L a).1.1 = false ∧ (rdAt L a).1.2 = cutN L a := by simpa using h3
  unfold cutE at hc
  split at hc
  · rename_i g; exact absurd hc g
  rename_i g1
  have E1 : getE L a 1 = 0 := by simpa using g1
  split at hc
  · rename_i g; exact absurd hc g
  rename_i g2
  have E2 : getE L (a + 1) 3 = 0 := by simpa using g2
  split at hc
  · cases hc
  rename_i g3
  have f1 := getE_0 E1
  have f2 := getE_0 E2
  obtain ⟨A, rfl⟩ := Int.eq_ofNat_of_zero_le f1.1
  have v1 : getV L (A : Int) 1 = (num (sub L A 1) : Int) := by unfold getV; rw [if_pos f1]; simp
  have v2 : getV L ((A : Int) + 1) 3 = (num (sub L (A + 1) 3) : Int) := by
    unfold getV; rw [if_pos f2]
    have : ((A : Int) + 1).toNat = A + 1 := by omega
    rw [this]
  have cN : cutN L A = num (sub L (A + 1) 3) := by unfold cutN; rw [v2]; simp
  obtain ⟨n, hn⟩ : ∃ n, cutN L A = n := ⟨_, rfl⟩
  have fit : A + (4 + n) ≤ L.length := by rw [v2, ← cN, hn] at g3; omega
  have hbl : (bdy L A).length = n := by unfold bdy; rw [hn]; exact sub_length _ _ _ (by simp; omega)
  have hrd : (rd (getV L A 1) (bdy L A) (false, 0)).1 = (false, (bdy L A).length) := by
    rw [hbl, ← hn]
    exact Prod.ext h3'.1 h3'.2
  have hlay := rd_laid hk hrd
  have hb : bodyS m = (bdy L A, false) := by
    rw [← bodyS_pl, hpl]; exact hlay
  have hkd : m.kind = getV L A 1 := by
    have : m.pl.kind = m.kind := rfl
    rw [← this, hpl]; exact rd_kind hk _
  have pE : putE m = 0 := by unfold putE; rw [hkd, hk, hb]; rfl
  refine ⟨by omega, by simpa [hn] using fit, pE, ?_⟩
  unfold putL putB
  rw [if_pos pE, hkd, hb, uN_nat _ (by rw [hbl]; omega), hbl, hn, v1]
  have t1 : sub L A (4 + n) = sub L A 1 ++ sub L (A + 1) 3 ++ sub L (A + 4) n := by
    rw [show 4 + n = 1 + 3 + n by omega, sub_add, sub_add]
  have b1 := be_num (sub L A 1)
  rw [sub_length L A 1 (by omega)] at b1
  have b3 := be_num (sub L (A + 1) 3)
  rw [sub_length L (A + 1) 3 (by omega), ← cN, hn] at b3
  have b1' : [UInt8.ofNat (num (sub L A 1))] = sub L A 1 := by
    have e : be 1 (num (sub L A 1)) = [UInt8.ofNat (num (sub L A 1))] := by simp [be]
    exact e.symm.trans b1
  simp only [Int.toNat_natCast]
  rw [t1, b1', b3]
  unfold bdy
  rw [hn]
  simp
end
end Go.Proofs.Ytcchlicokglmnaa
