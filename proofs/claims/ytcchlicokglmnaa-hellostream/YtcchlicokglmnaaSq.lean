/- Messages one behind the other: where each is read, and what is told of one that is cut off. -/
import Derived.Test.YtcchlicokglmnaaBh
namespace Go.Proofs.Ytcchlicokglmnaa
open Go.ChangeShapes Go.WideShapes Go.ChangeAt Go.RowKit Go.Lib
set_option linter.unusedVariables false

theorem read_end (P : List UInt8) : readE P P.length = 10 := by
  have e : getE P P.length 1 = 10 := by unfold getE; rw [if_neg (by omega), if_neg (by omega)]
  have c : cutE P P.length = 10 := by unfold cutE; rw [if_pos (by rw [e]; decide), e]
  unfold readE
  rw [if_pos (by rw [c]; decide), c]
theorem read_cut {m : Msg} (P : List UInt8) (hok : putE m = 0) (hl : m.len) (t : Nat) (ht : t < (putL m).length) : readE (P ++ (putL m).take t) P.length = 10 := by
  have hlen := bodyS_len m hl
  have hpl : putL m = ([UInt8.ofNat m.kind.toNat] ++ be 3 (bodyS m).1.length) ++ (bodyS m).1 := by
    unfold putL; rw [if_pos hok]; unfold putB; rw [uN_nat _ (by omega)]
  obtain ⟨B, hB⟩ : ∃ B, (bodyS m).1 = B := ⟨_, rfl⟩
  rw [hB] at hpl hlen
  have hLen : (putL m).length = 4 + B.length := by rw [hpl]; simp [be_length]; omega
  have hc : cutE (P ++ (putL m).take t) P.length = 10 := by
    obtain ⟨L, hL⟩ : ∃ L, P ++ (putL m).take t = L := ⟨_, rfl⟩
    have hLl : L.length = P.length + t := by rw [← hL]; simp; omega
    rw [hL]
    by_cases t0 : t = 0
    · have e : getE L P.length 1 = 10 := by unfold getE; rw [if_neg (by omega), if_neg (by omega)]
      unfold cutE; rw [if_pos (by rw [e]; decide), e]
    · have e1 : getE L P.length 1 = 0 := by unfold getE; rw [if_neg (by omega), if_pos (by omega)]
      by_cases t4 : t < 4
      · have e2 : getE L ((P.length : Int) + 1) 3 = 10 := by unfold getE; rw [if_neg (by omega), if_neg (by omega)]
        unfold cutE; rw [if_neg (by rw [e1]; simp), if_pos (by rw [e2]; decide), e2]
      · have e2 : getE L ((P.length : Int) + 1) 3 = 0 := by unfold getE; rw [if_neg (by omega), if_pos (by omega)]
        have htk : (putL m).take t = ([UInt8.ofNat m.kind.toNat] ++ be 3 B.length) ++ B.take (t - 4) := by
          have h4 : ([UInt8.ofNat m.kind.toNat] ++ be 3 B.length).length = 4 := by simp [be_length]
          rw [hpl, List.take_append, List.take_of_length_le (by omega), h4]
        have s2 : sub L (P.length + 1) 3 = be 3 B.length := by
          have : L = (P ++ [UInt8.ofNat m.kind.toNat]) ++ (be 3 B.length ++ B.take (t - 4)) := by rw [← hL, htk]; simp
          have hlp : (P ++ [UInt8.ofNat m.kind.toNat]).length = P.length + 1 := by simp
          rw [this, ← hlp, sub, List.drop_left, List.take_append_of_le_length (by simp [be_length])]
          exact List.take_of_length_le (by simp [be_length])
        have v2 : getV L ((P.length : Int) + 1) 3 = (B.length : Int) := by
          unfold getV
          rw [if_pos (by omega)]
          have : ((P.length : Int) + 1).toNat = P.length + 1 := by omega
          rw [this, s2, num_be, Nat.mod_eq_of_lt (by omega)]
        unfold cutE
        rw [if_neg (by rw [e1]; simp), if_neg (by rw [e2]; simp), if_pos (by rw [v2]; omega)]
  unfold readE
  rw [if_pos (by rw [hc]; decide), hc]
/-- All that was laid. -/
def All (gs : List Msg) : List UInt8 := (gs.map putL).flatten
theorem All_app (a b : List Msg) : All (a ++ b) = All a ++ All b := by simp [All]
theorem All_one (m : Msg) : All [m] = putL m := by simp [All]
/-- Where the one at a place ends. -/
def enA (gs : List Msg) (i : Nat) : Nat := (All (gs.take i)).length
theorem enA_le (gs : List Msg) (i : Nat) : enA gs i ≤ (All gs).length := by
  have h : All gs = All (gs.take i) ++ All (gs.drop i) := by rw [← All_app, List.take_append_drop]
  unfold enA
  rw [h, List.length_append]
  omega
theorem enA_all (gs : List Msg) : enA gs gs.length = (All gs).length := by unfold enA; rw [List.take_of_length_le (Nat.le_refl _)]
theorem cutAll (gs : List Msg) (i : Nat) (hi : i < gs.length) : All gs = All (gs.take i) ++ putL gs[i] ++ All (gs.drop (i + 1)) ∧ enA gs (i + 1) = enA gs i + (putL gs[i]).length := by
  have h : gs = gs.take i ++ [gs[i]] ++ gs.drop (i + 1) := by
    rw [List.append_assoc, List.singleton_append, ← List.drop_eq_getElem_cons hi, List.take_append_drop]
  have h2 : gs.take (i + 1) = gs.take i ++ [gs[i]] := List.take_succ_eq_append_getElem hi
  constructor
  · have := congrArg All h
    rw [All_app, All_app, All_one] at this
    exact this
  · unfold enA
    rw [h2, All_app, All_one, List.length_append]
section
variable {gs : List Msg} (hg : ∀ g ∈ gs, putE g = 0 ∧ g.len) {k : Nat}
include hg
theorem st_whole (i : Nat) (hi : i < gs.length) (hk : enA gs (i + 1) ≤ k) : readE ((All gs).take k) (enA gs i) = 0 ∧ (enA gs i : Int) + 4 + cutN ((All gs).take k) (enA gs i) = enA gs (i + 1) := by
  obtain ⟨h1, h2⟩ := cutAll gs i hi
  obtain ⟨g1, g2⟩ := hg gs[i] (List.getElem_mem hi)
  have e : (All gs).take k = All (gs.take i) ++ putL gs[i] ++ (All (gs.drop (i + 1))).take (k - enA gs (i + 1)) := by
    have l : (All (gs.take i) ++ putL gs[i]).length = enA gs (i + 1) := by rw [h2, List.length_append]; rfl
    rw [h1, List.take_append, List.take_of_length_le (by rw [l]; exact hk), l]
  have r := read_put (All (gs.take i)) ((All (gs.drop (i + 1))).take (k - enA gs (i + 1))) g1 g2
  rw [← e] at r
  have r' : readE ((All gs).take k) (enA gs i) = 0 ∧ getV ((All gs).take k) (enA gs i) 1 = gs[i].kind ∧ cutN ((All gs).take k) (enA gs i) = (bodyS gs[i]).1.length ∧ rdAt ((All gs).take k) (enA gs i) = rd gs[i].kind (bodyS gs[i]).1 (false, 0) := r
  refine ⟨r'.1, ?_⟩
  rw [r'.2.2.1, h2, putL_len g1 g2]
  omega
theorem st_cut (i : Nat) (hi : i < gs.length) (h0 : enA gs i ≤ k) (hk : k < enA gs (i + 1)) : readE ((All gs).take k) (enA gs i) = 10 := by
  obtain ⟨h1, h2⟩ := cutAll gs i hi
  obtain ⟨g1, g2⟩ := hg gs[i] (List.getElem_mem hi)
  have e : (All gs).take k = All (gs.take i) ++ (putL gs[i]).take (k - enA gs i) := by
    have l : (All (gs.take i)).length = enA gs i := rfl
    rw [h1, List.append_assoc, List.take_append, List.take_of_length_le (by rw [l]; exact h0), l, List.take_append_of_le_length (by omega)]
  rw [e]
  exact read_cut _ g1 g2 _ (by omega)
omit hg in
theorem st_end (h : enA gs gs.length ≤ k) : readE ((All gs).take k) (enA gs gs.length) = 10 := by
  rw [enA_all] at *
  rw [List.take_of_length_le h]
  exact read_end _
end
theorem All_len {gs : List Msg} (hg : ∀ g ∈ gs, putE g = 0 ∧ g.len) : (All gs).length ≤ gs.length * 90004 := by
  induction gs with
  | nil => simp [All]
  | cons g t ih =>
    have h1 := ih (fun x hx => hg x (List.mem_cons_of_mem _ hx))
    obtain ⟨g1, g2⟩ := hg g (by simp)
    have h2 := putL_len g1 g2
    have h3 := bodyS_len g g2
    have : All (g :: t) = putL g ++ All t := by simp [All]
    rw [this, List.length_append, List.length_cons]
    omega
end Go.Proofs.Ytcchlicokglmnaa
