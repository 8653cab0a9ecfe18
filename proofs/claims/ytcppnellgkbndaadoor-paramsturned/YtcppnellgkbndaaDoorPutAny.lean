/- What PutVar, PutWide, Put and the reference's Var and Wide answer, for every input, in one form. -/
import Derived.Test.YtcppnellgkbndaaDoorRefWide
import Derived.Test.YtcppnellgkbndaaDoorBack
namespace Go.Proofs.YtcppnellgkbndaaDoor
open Go.ChangeShapes Go.WideShapes Go.ChangeAt Go.RowKit
set_option linter.unusedVariables false

theorem wiE_arg {v n : Int} (h : v < 0 ∨ 4611686018427387903 < v ∨ mB n = false) : wiE v n = 2 := if_pos h
theorem wiE_big {v n : Int} (h : ¬ (v < 0 ∨ 4611686018427387903 < v ∨ mB n = false)) (hb : lim n ≤ v) : wiE v n = 3 := (if_neg h).trans (if_pos hb)
theorem wiE_ok {v n : Int} (h : ¬ (v < 0 ∨ 4611686018427387903 < v ∨ mB n = false)) (hb : ¬ lim n ≤ v) : wiE v n = 0 := (if_neg h).trans (if_neg hb)
theorem Res_nil {B : Nat} {w : World} {E : Int} {X : List UInt8} (h : E ≠ 0) : Res B w (.slice none 0 0) E X := .inr ⟨h, rfl⟩
theorem Res_block {B g m : Nat} {w : World} {X : List UInt8} (hb : w.heap[g]? = some (.cells (bc X).toArray 5 (0, 0))) (hB : B ≤ g) (hm : X.length = m) (h0 : 0 < m) (h1 : m ≤ 9223372036854775807) : Res B w (.slice (some ⟨g, 0, none⟩) m m) 0 X := by
  subst hm
  exact .inl ⟨rfl, h0, own_of_block hb hB h1⟩
theorem mB_cases {n : Int} (h : ¬ mB n = false) : n = 1 ∨ n = 2 ∨ n = 4 ∨ n = 8 := by
  have : mB n = true := by simpa using h
  exact of_decide_eq_true this
theorem enc_1 (v : Int) : enc 1 v = be 1 v.toNat := by
  unfold enc
  rw [show mV 1 * lim 1 + v = v by rw [show mV 1 = 0 by decide, show lim 1 = 64 by decide]; omega]
  rfl
theorem encr_1 (v : Int) (h : 0 ≤ v) : enc 1 v = be 1 (0 + v.toNat) := by
  rw [enc_1, Nat.zero_add]
theorem enc_2 (v : Int) : enc 2 v = be 2 (16384 + v).toNat := by
  unfold enc
  rw [show mV 2 * lim 2 + v = 16384 + v by rw [show mV 2 = 1 by decide, show lim 2 = 16384 by decide]; omega]
  rfl
theorem encr_2 (v : Int) (h : 0 ≤ v) : enc 2 v = be 2 (16384 + v.toNat) := by
  rw [enc_2, show (16384 + v).toNat = 16384 + v.toNat by omega]
theorem enc_4 (v : Int) : enc 4 v = be 4 (2147483648 + v).toNat := by
  unfold enc
  rw [show mV 4 * lim 4 + v = 2147483648 + v by rw [show mV 4 = 2 by decide, show lim 4 = 1073741824 by decide]; omega]
  rfl
theorem encr_4 (v : Int) (h : 0 ≤ v) : enc 4 v = be 4 (2147483648 + v.toNat) := by
  rw [enc_4, show (2147483648 + v).toNat = 2147483648 + v.toNat by omega]
theorem enc_8 (v : Int) : enc 8 v = be 8 (13835058055282163712 + v).toNat := by
  unfold enc
  rw [show mV 8 * lim 8 + v = 13835058055282163712 + v by rw [show mV 8 = 3 by decide, show lim 8 = 4611686018427387904 by decide]; omega]
  rfl
theorem encr_8 (v : Int) (h : 0 ≤ v) : enc 8 v = be 8 (13835058055282163712 + v.toNat) := by
  rw [enc_8, show (13835058055282163712 + v).toNat = 13835058055282163712 + v.toNat by omega]

theorem putw_any (ao : Option Addr) (l : List UInt8) (cap : Nat) (v n : Int) (w : World) (ht : Tb w) (hs : Sl w ao l) (hl : l.length ≤ 140737488351232) :
    Calls Tryd.prog 47 #[.slice ao l.length cap, .int .i64 v, .int .i64 n] w fun e w' => ∃ x, e = .returned (.tuple #[x, .int .i64 (wiE v n)]) ∧ Res w.heap.size w' x (wiE v n) (l ++ enc n v) ∧ Below w.heap.size w w' := by
  by_cases ha : v < 0 ∨ 4611686018427387903 < v ∨ mB n = false
  · rw [wiE_arg ha]
    exact (putw_arg ao l.length cap v n w ht ha).mono fun e w' h => ⟨_, h.1, Res_nil (by decide), by rw [h.2]; exact Below.refl _ _⟩
  · have hv : 0 ≤ v ∧ v ≤ 4611686018427387903 := by omega
    rcases mB_cases (n := n) (fun h => ha (.inr (.inr h))) with rfl | rfl | rfl | rfl
    · by_cases hb : lim 1 ≤ v
      · rw [wiE_big ha hb]
        exact (putw_big_1 ao l.length cap v w ht hb hv.2).mono fun e w' h => ⟨_, h.1, Res_nil (by decide), by rw [h.2]; exact Below.refl _ _⟩
      · rw [wiE_ok ha hb, enc_1]
        exact (putw_1 ao l cap v w ht hs hl hv.1 (Int.not_le.1 hb)).mono fun e w' h => ⟨_, h.1, Res_block h.2.1 (Nat.le_refl _) (by simp [be_length]) (by omega) (by omega), h.2.2⟩
    · by_cases hb : lim 2 ≤ v
      · rw [wiE_big ha hb]
        exact (putw_big_2 ao l.length cap v w ht hb hv.2).mono fun e w' h => ⟨_, h.1, Res_nil (by decide), by rw [h.2]; exact Below.refl _ _⟩
      · rw [wiE_ok ha hb, enc_2]
        exact (putw_2 ao l cap v w ht hs hl hv.1 (Int.not_le.1 hb)).mono fun e w' h => ⟨_, h.1, Res_block h.2.1 (Nat.le_refl _) (by simp [be_length]) (by omega) (by omega), h.2.2⟩
    · by_cases hb : lim 4 ≤ v
      · rw [wiE_big ha hb]
        exact (putw_big_4 ao l.length cap v w ht hb hv.2).mono fun e w' h => ⟨_, h.1, Res_nil (by decide), by rw [h.2]; exact Below.refl _ _⟩
      · rw [wiE_ok ha hb, enc_4]
        exact (putw_4 ao l cap v w ht hs hl hv.1 (Int.not_le.1 hb)).mono fun e w' h => ⟨_, h.1, Res_block h.2.1 (Nat.le_refl _) (by simp [be_length]) (by omega) (by omega), h.2.2⟩
    · by_cases hb : lim 8 ≤ v
      · rw [wiE_big ha hb]
        exact (putw_big_8 ao l.length cap v w ht hb hv.2).mono fun e w' h => ⟨_, h.1, Res_nil (by decide), by rw [h.2]; exact Below.refl _ _⟩
      · rw [wiE_ok ha hb, enc_8]
        exact (putw_8 ao l cap v w ht hs hl hv.1 (Int.not_le.1 hb)).mono fun e w' h => ⟨_, h.1, Res_block h.2.1 (Nat.le_refl _) (by simp [be_length]) (by omega) (by omega), h.2.2⟩

theorem rwide_any (v n : Int) (w : World) :
    Calls Tryd.prog 39 #[.int .i64 v, .int .i64 n] w fun e w' => ∃ x, e = .returned (.tuple #[x, .int .i64 (wiE v n)]) ∧ Res w.heap.size w' x (wiE v n) (enc n v) ∧ Below w.heap.size w w' := by
  by_cases ha : v < 0 ∨ 4611686018427387903 < v ∨ mB n = false
  · rw [wiE_arg ha]
    exact (rwide_arg v n w ha).mono fun e w' h => ⟨_, h.1, Res_nil (by decide), by rw [h.2]; exact Below.refl _ _⟩
  · have hv : 0 ≤ v ∧ v ≤ 4611686018427387903 := by omega
    rcases mB_cases (n := n) (fun h => ha (.inr (.inr h))) with rfl | rfl | rfl | rfl
    · by_cases hb : lim 1 ≤ v
      · rw [wiE_big ha hb]
        exact (rwide_big_1 v w hb hv.2).mono fun e w' h => ⟨_, h.1, Res_nil (by decide), by rw [h.2]; exact Below.refl _ _⟩
      · rw [wiE_ok ha hb, encr_1 v hv.1]
        exact (rwide_1 v w hv.1 (Int.not_le.1 hb)).mono fun e w' ⟨x, h1, h2, h3⟩ => ⟨x, h1, .inl ⟨rfl, by simp [be_length], by rw [be_length]; exact h2⟩, h3⟩
    · by_cases hb : lim 2 ≤ v
      · rw [wiE_big ha hb]
        exact (rwide_big_2 v w hb hv.2).mono fun e w' h => ⟨_, h.1, Res_nil (by decide), by rw [h.2]; exact Below.refl _ _⟩
      · rw [wiE_ok ha hb, encr_2 v hv.1]
        exact (rwide_2 v w hv.1 (Int.not_le.1 hb)).mono fun e w' ⟨x, h1, h2, h3⟩ => ⟨x, h1, .inl ⟨rfl, by simp [be_length], by rw [be_length]; exact h2⟩, h3⟩
    · by_cases hb : lim 4 ≤ v
      · rw [wiE_big ha hb]
        exact (rwide_big_4 v w hb hv.2).mono fun e w' h => ⟨_, h.1, Res_nil (by decide), by rw [h.2]; exact Below.refl _ _⟩
      · rw [wiE_ok ha hb, encr_4 v hv.1]
        exact (rwide_4 v w hv.1 (Int.not_le.1 hb)).mono fun e w' ⟨x, h1, h2, h3⟩ => ⟨x, h1, .inl ⟨rfl, by simp [be_length], by rw [be_length]; exact h2⟩, h3⟩
    · by_cases hb : lim 8 ≤ v
      · rw [wiE_big ha hb]
        exact (rwide_big_8 v w hb hv.2).mono fun e w' h => ⟨_, h.1, Res_nil (by decide), by rw [h.2]; exact Below.refl _ _⟩
      · rw [wiE_ok ha hb, encr_8 v hv.1]
        exact (rwide_8 v w hv.1 (Int.not_le.1 hb)).mono fun e w' ⟨x, h1, h2, h3⟩ => ⟨x, h1, .inl ⟨rfl, by simp [be_length], by rw [be_length]; exact h2⟩, h3⟩

def vaE (v : Int) : Int := if v < 0 ∨ 4611686018427387903 < v then 2 else 0
theorem vaE_no {v : Int} (h : v < 0 ∨ 4611686018427387903 < v) : vaE v = 2 := if_pos h
theorem vaE_ok {v : Int} (h : ¬ (v < 0 ∨ 4611686018427387903 < v)) : vaE v = 0 := if_neg h
theorem szN_ok (v : Int) (h : ¬ (v < 0 ∨ 4611686018427387903 < v)) : wiE v (szN v) = 0 := by
  have hs : (szN v = 1 ∧ v < 64) ∨ (szN v = 2 ∧ v < 16384) ∨ (szN v = 4 ∧ v < 1073741824) ∨ (szN v = 8 ∧ v < 4611686018427387904) := by
    unfold szN
    by_cases h1 : v < 64
    · rw [if_pos h1]; exact Or.inl ⟨rfl, h1⟩
    · rw [if_neg h1]
      by_cases h2 : v < 16384
      · rw [if_pos h2]; exact Or.inr (Or.inl ⟨rfl, h2⟩)
      · rw [if_neg h2]
        by_cases h3 : v < 1073741824
        · rw [if_pos h3]; exact Or.inr (Or.inr (Or.inl ⟨rfl, h3⟩))
        · rw [if_neg h3]; exact Or.inr (Or.inr (Or.inr ⟨rfl, by omega⟩))
  rcases hs with ⟨e, hv⟩ | ⟨e, hv⟩ | ⟨e, hv⟩ | ⟨e, hv⟩
  all_goals
    rw [e]
    refine wiE_ok ?_ (Int.not_le.2 hv)
    rintro (h' | h' | h')
    · exact h (.inl h')
    · exact h (.inr h')
    · cases h'

set_option maxRecDepth 10000 in
theorem putv_any (ao : Option Addr) (l : List UInt8) (cap : Nat) (v : Int) (w : World) (ht : Tb w) (hs : Sl w ao l) (hl : l.length ≤ 140737488351232) :
    Calls Tryd.prog 37 #[.slice ao l.length cap, .int .i64 v] w fun e w' => ∃ x, e = .returned (.tuple #[x, .int .i64 (vaE v)]) ∧ Res w.heap.size w' x (vaE v) (l ++ enc (szN v) v) ∧ Below w.heap.size w w' := by
  have HT := mkHid ht
  have HS := mkHid hs
  clear ht hs
  by_cases h : v < 0 ∨ 4611686018427387903 < v
  · rw [vaE_no h]
    go_enter Tryd.func37, Tryd.ntmps37
    go_wp2_with fail
    refine (size_no _ _ HT.out h).mono ?_
    rintro e w' ⟨rfl, rfl⟩
    clear h
    go_wp2
    go_ret2
    exact ⟨_, rfl, Res_nil (by decide), Below.refl _ _⟩
  · rw [vaE_ok h]
    have HZ := mkHid (szN_ok v h)
    go_enter Tryd.func37, Tryd.ntmps37
    go_wp2_with fail
    refine (size_yes _ _ HT.out (by omega) (by omega)).mono ?_
    rintro e w' ⟨rfl, rfl⟩
    go_wp2_with fail
    refine (putw_any ao l cap v (szN v) _ HT.out HS.out hl).mono ?_
    rintro e w2 ⟨x, rfl, hr, hb⟩
    rw [HZ.out] at hr ⊢
    have HR := mkHid hr
    have HB := mkHid hb
    clear hr hb
    go_wp2
    go_ret2
    exact ⟨_, rfl, HR.out, HB.out⟩

set_option maxRecDepth 10000 in
theorem rvar_any (v : Int) (w : World) :
    Calls Tryd.prog 23 #[.int .i64 v] w fun e w' => ∃ x, e = .returned (.tuple #[x, .int .i64 (vaE v)]) ∧ Res w.heap.size w' x (vaE v) (enc (szN v) v) ∧ Below w.heap.size w w' := by
  by_cases h : v < 0 ∨ 4611686018427387903 < v
  · rw [vaE_no h]
    go_enter Tryd.func23, Tryd.ntmps23
    go_wp2_with fail
    refine (rsize_no _ _ h).mono ?_
    rintro e w' ⟨rfl, rfl⟩
    clear h
    go_wp2
    go_ret2
    exact ⟨_, rfl, Res_nil (by decide), Below.refl _ _⟩
  · rw [vaE_ok h]
    have HZ := mkHid (szN_ok v h)
    go_enter Tryd.func23, Tryd.ntmps23
    go_wp2_with fail
    refine (rsize_yes _ _ (by omega) (by omega)).mono ?_
    rintro e w' ⟨rfl, rfl⟩
    go_wp2_with fail
    refine (rwide_any v (szN v) _).mono ?_
    rintro e w2 ⟨x, rfl, hr, hb⟩
    rw [HZ.out] at hr ⊢
    have HR := mkHid hr
    have HB := mkHid hb
    clear hr hb
    go_wp2
    go_ret2
    exact ⟨_, rfl, HR.out, HB.out⟩

end Go.Proofs.YtcppnellgkbndaaDoor
