/- The walk of caravellaw01.OctetBack. What PutVar, PutWide, Put and the reference's Var and Wide answer, for every input, in one form. What caravellaw01.behind answers where the two answers lie behind the bytes as they must. The walk of caravellaw01.OctetPuts. -/
import Derived.Test.YtaeapgkfmofjlaaDoorOrder
import Derived.Test.YtaeapgkfmofjlaaDoorRefWide
namespace Go.Proofs.YtaeapgkfmofjlaaDoor
open Go.ChangeShapes Go.WideShapes Go.ChangeAt Go.RowKit
set_option linter.unusedVariables false

theorem Sl_block {w : World} {g : Nat} {l : List UInt8} (hb : w.heap[g]? = some (.cells (bc l).toArray 5 (0, 0))) : Sl w (some ⟨g, 0, none⟩) l := by
  intro j hj
  refine ⟨g, 0, rfl, ?_⟩
  unfold World.cell?
  rw [hb]
  simp [bc, hj]
theorem Sl_below {w w' : World} {ao : Option Addr} {l : List UInt8} (hs : Sl w ao l) (hb : Below w.heap.size w w') : Sl w' ao l := by
  intro j hj
  obtain ⟨b, off, he, hc⟩ := hs j hj
  exact ⟨b, off, he, (hb.cell (p := ⟨b, off + j, none⟩) (World.block_lt_of_cell? w _ hc)).trans hc⟩

theorem head_be (l : List UInt8) (n X : Nat) (h : l.length < (l ++ be (n + 1) X).length) : ((l ++ be (n + 1) X)[l.length]'h).toNat = X / 256 ^ n % 256 := by
  have : (l ++ be (n + 1) X)[l.length]'h = UInt8.ofNat (X / 256 ^ n) := by
    rw [List.getElem_append_right (Nat.le_refl _)]
    simp [be_head]
  rw [this, UInt8.toNat_ofNat']

/-- What lies there is read again. -/
theorem read_1 (g : Nat) (l : List UInt8) (len : Nat) (hlen : l.length + 1 = len) (v : Int) (w : World) (ht : Tb w) (hb : w.heap[g]? = some (.cells (bc (l ++ be 1 v.toNat)).toArray 5 (0, 0))) (hl : l.length ≤ 140737488351232) (h0 : 0 ≤ v) (h1 : v < 64) :
    Calls Tryd.prog 43 #[.slice (some ⟨g, 0, none⟩) len len, .int .i64 l.length] w fun e w' => e = .returned (.tuple #[.int .i64 v, .int .i64 (l.length + 1), .int .i64 0]) ∧ w' = w := by
  have hl2 : (l ++ be 1 v.toNat).length = len := by simp [be_length]; omega
  have hq := head_be l 0 v.toNat (by simp [be_length])
  have hd : v.toNat / 256 ^ 0 % 256 / 64 = 0 := by
    have e : (256 : Nat) ^ 0 = 1 := by decide
    rw [e]; omega
  have hc := var_1 (some ⟨g, 0, none⟩) (l ++ be 1 v.toNat) len l.length w ht (Sl_block hb) (by omega) (by omega) (by rw [hq]; exact hd)
  rw [sub_behind l _ 1 (be_length _ _), num_be, hl2] at hc
  have e2 : (256 : Nat) ^ 1 = 256 := by decide
  rw [e2] at hc
  have e3 : (((v.toNat % 256 : Nat) : Int) % 64) = v := by omega
  rw [e3] at hc
  exact hc

/-- What lies there is read again. -/
theorem read_2 (g : Nat) (l : List UInt8) (len : Nat) (hlen : l.length + 2 = len) (v : Int) (w : World) (ht : Tb w) (hb : w.heap[g]? = some (.cells (bc (l ++ be 2 (16384 + v).toNat)).toArray 5 (0, 0))) (hl : l.length ≤ 140737488351232) (h0 : 0 ≤ v) (h1 : v < 16384) :
    Calls Tryd.prog 43 #[.slice (some ⟨g, 0, none⟩) len len, .int .i64 l.length] w fun e w' => e = .returned (.tuple #[.int .i64 v, .int .i64 (l.length + 2), .int .i64 0]) ∧ w' = w := by
  have hl2 : (l ++ be 2 (16384 + v).toNat).length = len := by simp [be_length]; omega
  have hq := head_be l 1 (16384 + v).toNat (by simp [be_length])
  have hd : (16384 + v).toNat / 256 ^ 1 % 256 / 64 = 1 := by
    have e : (256 : Nat) ^ 1 = 256 := by decide
    rw [e]; omega
  have hc := var_2 (some ⟨g, 0, none⟩) (l ++ be 2 (16384 + v).toNat) len l.length w ht (Sl_block hb) (by omega) (by omega) (by rw [hq]; exact hd)
  rw [sub_behind l _ 2 (be_length _ _), num_be, hl2] at hc
  have e2 : (256 : Nat) ^ 2 = 65536 := by decide
  rw [e2] at hc
  have e3 : ((((16384 + v).toNat % 65536 : Nat) : Int) % 16384) = v := by omega
  rw [e3] at hc
  exact hc

/-- What lies there is read again. -/
theorem read_4 (g : Nat) (l : List UInt8) (len : Nat) (hlen : l.length + 4 = len) (v : Int) (w : World) (ht : Tb w) (hb : w.heap[g]? = some (.cells (bc (l ++ be 4 (2147483648 + v).toNat)).toArray 5 (0, 0))) (hl : l.length ≤ 140737488351232) (h0 : 0 ≤ v) (h1 : v < 1073741824) :
    Calls Tryd.prog 43 #[.slice (some ⟨g, 0, none⟩) len len, .int .i64 l.length] w fun e w' => e = .returned (.tuple #[.int .i64 v, .int .i64 (l.length + 4), .int .i64 0]) ∧ w' = w := by
  have hl2 : (l ++ be 4 (2147483648 + v).toNat).length = len := by simp [be_length]; omega
  have hq := head_be l 3 (2147483648 + v).toNat (by simp [be_length])
  have hd : (2147483648 + v).toNat / 256 ^ 3 % 256 / 64 = 2 := by
    have e : (256 : Nat) ^ 3 = 16777216 := by decide
    rw [e]; omega
  have hc := var_4 (some ⟨g, 0, none⟩) (l ++ be 4 (2147483648 + v).toNat) len l.length w ht (Sl_block hb) (by omega) (by omega) (by rw [hq]; exact hd)
  rw [sub_behind l _ 4 (be_length _ _), num_be, hl2] at hc
  have e2 : (256 : Nat) ^ 4 = 4294967296 := by decide
  rw [e2] at hc
  have e3 : ((((2147483648 + v).toNat % 4294967296 : Nat) : Int) % 1073741824) = v := by omega
  rw [e3] at hc
  exact hc

/-- What lies there is read again. -/
theorem read_8 (g : Nat) (l : List UInt8) (len : Nat) (hlen : l.length + 8 = len) (v : Int) (w : World) (ht : Tb w) (hb : w.heap[g]? = some (.cells (bc (l ++ be 8 (13835058055282163712 + v).toNat)).toArray 5 (0, 0))) (hl : l.length ≤ 140737488351232) (h0 : 0 ≤ v) (h1 : v < 4611686018427387904) :
    Calls Tryd.prog 43 #[.slice (some ⟨g, 0, none⟩) len len, .int .i64 l.length] w fun e w' => e = .returned (.tuple #[.int .i64 v, .int .i64 (l.length + 8), .int .i64 0]) ∧ w' = w := by
  have hl2 : (l ++ be 8 (13835058055282163712 + v).toNat).length = len := by simp [be_length]; omega
  have hq := head_be l 7 (13835058055282163712 + v).toNat (by simp [be_length])
  have hd : (13835058055282163712 + v).toNat / 256 ^ 7 % 256 / 64 = 3 := by
    have e : (256 : Nat) ^ 7 = 72057594037927936 := by decide
    rw [e]; omega
  have hc := var_8 (some ⟨g, 0, none⟩) (l ++ be 8 (13835058055282163712 + v).toNat) len l.length w ht (Sl_block hb) (by omega) (by omega) (by rw [hq]; exact hd)
  rw [sub_behind l _ 8 (be_length _ _), num_be, hl2] at hc
  have e2 : (256 : Nat) ^ 8 = 18446744073709551616 := by decide
  rw [e2] at hc
  have e3 : ((((13835058055282163712 + v).toNat % 18446744073709551616 : Nat) : Int) % 4611686018427387904) = v := by omega
  rw [e3] at hc
  exact hc

set_option maxRecDepth 10000 in
theorem putv_1 (ao : Option Addr) (l : List UInt8) (cap : Nat) (v : Int) (w : World) (ht : Tb w) (hs : Sl w ao l) (hl : l.length ≤ 140737488351232) (h0 : 0 ≤ v) (h1 : v < 64) :
    Calls Tryd.prog 56 #[.slice ao l.length cap, .int .i64 v] w fun e w' => e = .returned (.tuple #[.slice (some ⟨w.heap.size, 0, none⟩) (l.length + 1) (l.length + 1), .int .i64 0]) ∧
      w'.heap[w.heap.size]? = some (.cells (bc (l ++ be 1 v.toNat)).toArray 5 (0, 0)) ∧ Below w.heap.size w w' := by
  have HT := mkHid ht
  have HS := mkHid hs
  clear ht hs
  have hz : szN v = 1 := by
    unfold szN
    rw [if_pos h1]
  go_enter Tryd.func56, Tryd.ntmps56
  go_wp2_with fail
  refine (size_yes _ _ HT.out (by omega) (by omega)).mono ?_
  rintro e w' ⟨rfl, rfl⟩
  rw [hz]
  go_wp2_with fail
  refine (putw_1 ao l cap v _ HT.out HS.out hl (by omega) h1).mono ?_
  rintro e w2 ⟨rfl, hb, hB⟩
  have HB := mkHid hb
  have HL := mkHid hB
  clear hb hB
  go_wp2
  go_ret2
  exact ⟨rfl, HB.out, HL.out⟩

set_option maxRecDepth 10000 in
theorem putv_2 (ao : Option Addr) (l : List UInt8) (cap : Nat) (v : Int) (w : World) (ht : Tb w) (hs : Sl w ao l) (hl : l.length ≤ 140737488351232) (h0 : 64 ≤ v) (h1 : v < 16384) :
    Calls Tryd.prog 56 #[.slice ao l.length cap, .int .i64 v] w fun e w' => e = .returned (.tuple #[.slice (some ⟨w.heap.size, 0, none⟩) (l.length + 2) (l.length + 2), .int .i64 0]) ∧
      w'.heap[w.heap.size]? = some (.cells (bc (l ++ be 2 (16384 + v).toNat)).toArray 5 (0, 0)) ∧ Below w.heap.size w w' := by
  have HT := mkHid ht
  have HS := mkHid hs
  clear ht hs
  have hz : szN v = 2 := by
    unfold szN
    rw [if_neg (by omega), if_pos h1]
  go_enter Tryd.func56, Tryd.ntmps56
  go_wp2_with fail
  refine (size_yes _ _ HT.out (by omega) (by omega)).mono ?_
  rintro e w' ⟨rfl, rfl⟩
  rw [hz]
  go_wp2_with fail
  refine (putw_2 ao l cap v _ HT.out HS.out hl (by omega) h1).mono ?_
  rintro e w2 ⟨rfl, hb, hB⟩
  have HB := mkHid hb
  have HL := mkHid hB
  clear hb hB
  go_wp2
  go_ret2
  exact ⟨rfl, HB.out, HL.out⟩

set_option maxRecDepth 10000 in
theorem putv_4 (ao : Option Addr) (l : List UInt8) (cap : Nat) (v : Int) (w : World) (ht : Tb w) (hs : Sl w ao l) (hl : l.length ≤ 140737488351232) (h0 : 16384 ≤ v) (h1 : v < 1073741824) :
    Calls Tryd.prog 56 #[.slice ao l.length cap, .int .i64 v] w fun e w' => e = .returned (.tuple #[.slice (some ⟨w.heap.size, 0, none⟩) (l.length + 4) (l.length + 4), .int .i64 0]) ∧
      w'.heap[w.heap.size]? = some (.cells (bc (l ++ be 4 (2147483648 + v).toNat)).toArray 5 (0, 0)) ∧ Below w.heap.size w w' := by
  have HT := mkHid ht
  have HS := mkHid hs
  clear ht hs
  have hz : szN v = 4 := by
    unfold szN
    rw [if_neg (by omega), if_neg (by omega), if_pos h1]
  go_enter Tryd.func56, Tryd.ntmps56
  go_wp2_with fail
  refine (size_yes _ _ HT.out (by omega) (by omega)).mono ?_
  rintro e w' ⟨rfl, rfl⟩
  rw [hz]
  go_wp2_with fail
  refine (putw_4 ao l cap v _ HT.out HS.out hl (by omega) h1).mono ?_
  rintro e w2 ⟨rfl, hb, hB⟩
  have HB := mkHid hb
  have HL := mkHid hB
  clear hb hB
  go_wp2
  go_ret2
  exact ⟨rfl, HB.out, HL.out⟩

set_option maxRecDepth 10000 in
theorem putv_8 (ao : Option Addr) (l : List UInt8) (cap : Nat) (v : Int) (w : World) (ht : Tb w) (hs : Sl w ao l) (hl : l.length ≤ 140737488351232) (h0 : 1073741824 ≤ v) (h1 : v < 4611686018427387904) :
    Calls Tryd.prog 56 #[.slice ao l.length cap, .int .i64 v] w fun e w' => e = .returned (.tuple #[.slice (some ⟨w.heap.size, 0, none⟩) (l.length + 8) (l.length + 8), .int .i64 0]) ∧
      w'.heap[w.heap.size]? = some (.cells (bc (l ++ be 8 (13835058055282163712 + v).toNat)).toArray 5 (0, 0)) ∧ Below w.heap.size w w' := by
  have HT := mkHid ht
  have HS := mkHid hs
  clear ht hs
  have hz : szN v = 8 := by
    unfold szN
    rw [if_neg (by omega), if_neg (by omega), if_neg (by omega)]
  go_enter Tryd.func56, Tryd.ntmps56
  go_wp2_with fail
  refine (size_yes _ _ HT.out (by omega) (by omega)).mono ?_
  rintro e w' ⟨rfl, rfl⟩
  rw [hz]
  go_wp2_with fail
  refine (putw_8 ao l cap v _ HT.out HS.out hl (by omega) h1).mono ?_
  rintro e w2 ⟨rfl, hb, hB⟩
  have HB := mkHid hb
  have HL := mkHid hB
  clear hb hB
  go_wp2
  go_ret2
  exact ⟨rfl, HB.out, HL.out⟩

end Go.Proofs.YtaeapgkfmofjlaaDoor
namespace Go.Proofs.YtaeapgkfmofjlaaDoor
open Go.ChangeShapes Go.WideShapes Go.ChangeAt Go.RowKit
set_option linter.unusedVariables false

theorem wiE_arg {v n : Int} (h : v < 0 ∨ 4611686018427387903 < v ∨ mB n = false) : wiE v n = 2 := if_pos h
theorem wiE_big {v n : Int} (h : ¬ (v < 0 ∨ 4611686018427387903 < v ∨ mB n = false)) (hb : lim n ≤ v) : wiE v n = 3 := (if_neg h).trans (if_pos hb)
theorem wiE_ok {v n : Int} (h : ¬ (v < 0 ∨ 4611686018427387903 < v ∨ mB n = false)) (hb : ¬ lim n ≤ v) : wiE v n = 0 := (if_neg h).trans (if_neg hb)
theorem Res_nil {B : Nat} {w : World} {E : Int} {X : List UInt8} (h : E ≠ 0) : Res B w (.slice none 0 0) E X := .inr ⟨h, rfl⟩
theorem Res_block {B g m : Nat} {w : World} {X : List UInt8} (hb : w.heap[g]? = some (.cells (bc X).toArray 5 (0, 0))) (hB : B ≤ g) (hm : X.length = m) (h0 : 0 < m) (h1 : m ≤ 9223372036854775807) : Res B w (.slice (some ⟨g, 0, none⟩) m m) 0 X := by
  subst hm
  exact .inl ⟨rfl, h0, own_of_block hb hB h1⟩
theorem mB_cases {n : Int} (h : ¬ mB n = false) : n = 1 ∨ n = 2 ∨ n = 4 ∨ n = 8 := by
  have : mB n = true := by simpa using h
  exact of_decide_eq_true this
theorem enc_1 (v : Int) : enc 1 v = be 1 v.toNat := by
  unfold enc
  rw [show mV 1 * lim 1 + v = v by rw [show mV 1 = 0 by decide, show lim 1 = 64 by decide]; omega]
  rfl
theorem encr_1 (v : Int) (h : 0 ≤ v) : enc 1 v = be 1 (0 + v.toNat) := by
  rw [enc_1, Nat.zero_add]
theorem enc_2 (v : Int) : enc 2 v = be 2 (16384 + v).toNat := by
  unfold enc
  rw [show mV 2 * lim 2 + v = 16384 + v by rw [show mV 2 = 1 by decide, show lim 2 = 16384 by decide]; omega]
  rfl
theorem encr_2 (v : Int) (h : 0 ≤ v) : enc 2 v = be 2 (16384 + v.toNat) := by
  rw [enc_2, show (16384 + v).toNat = 16384 + v.toNat by omega]
theorem enc_4 (v : Int) : enc 4 v = be 4 (2147483648 + v).toNat := by
  unfold enc
  rw [show mV 4 * lim 4 + v = 2147483648 + v by rw [show mV 4 = 2 by decide, show lim 4 = 1073741824 by decide]; omega]
  rfl
theorem encr_4 (v : Int) (h : 0 ≤ v) : enc 4 v = be 4 (2147483648 + v.toNat) := by
  rw [enc_4, show (2147483648 + v).toNat = 2147483648 + v.toNat by omega]
theorem enc_8 (v : Int) : enc 8 v = be 8 (13835058055282163712 + v).toNat := by
  unfold enc
  rw [show mV 8 * lim 8 + v = 13835058055282163712 + v by rw [show mV 8 = 3 by decide, show lim 8 = 4611686018427387904 by decide]; omega]
  rfl
theorem encr_8 (v : Int) (h : 0 ≤ v) : enc 8 v = be 8 (13835058055282163712 + v.toNat) := by
  rw [enc_8, show (13835058055282163712 + v).toNat = 13835058055282163712 + v.toNat by omega]

theorem putw_any (ao : Option Addr) (l : List UInt8) (cap : Nat) (v n : Int) (w : World) (ht : Tb w) (hs : Sl w ao l) (hl : l.length ≤ 140737488351232) :
    Calls Tryd.prog 65 #[.slice ao l.length cap, .int .i64 v, .int .i64 n] w fun e w' => ∃ x, e = .returned (.tuple #[x, .int .i64 (wiE v n)]) ∧ Res w.heap.size w' x (wiE v n) (l ++ enc n v) ∧ Below w.heap.size w w' := by
  by_cases ha : v < 0 ∨ 4611686018427387903 < v ∨ mB n = false
  · rw [wiE_arg ha]
    exact (putw_arg ao l.length cap v n w ht ha).mono fun e w' h => ⟨_, h.1, Res_nil (by decide), by rw [h.2]; exact Below.refl _ _⟩
  · have hv : 0 ≤ v ∧ v ≤ 4611686018427387903 := by omega
    rcases mB_cases (n := n) (fun h => ha (.inr (.inr h))) with rfl | rfl | rfl | rfl
    · by_cases hb : lim 1 ≤ v
      · rw [wiE_big ha hb]
        exact (putw_big_1 ao l.length cap v w ht hb hv.2).mono fun e w' h => ⟨_, h.1, Res_nil (by decide), by rw [h.2]; exact Below.refl _ _⟩
      · rw [wiE_ok ha hb, enc_1]
        exact (putw_1 ao l cap v w ht hs hl hv.1 (Int.not_le.1 hb)).mono fun e w' h => ⟨_, h.1, Res_block h.2.1 (Nat.le_refl _) (by simp [be_length]) (by omega) (by omega), h.2.2⟩
    · by_cases hb : lim 2 ≤ v
      · rw [wiE_big ha hb]
        exact (putw_big_2 ao l.length cap v w ht hb hv.2).mono fun e w' h => ⟨_, h.1, Res_nil (by decide), by rw [h.2]; exact Below.refl _ _⟩
      · rw [wiE_ok ha hb, enc_2]
        exact (putw_2 ao l cap v w ht hs hl hv.1 (Int.not_le.1 hb)).mono fun e w' h => ⟨_, h.1, Res_block h.2.1 (Nat.le_refl _) (by simp [be_length]) (by omega) (by omega), h.2.2⟩
    · by_cases hb : lim 4 ≤ v
      · rw [wiE_big ha hb]
        exact (putw_big_4 ao l.length cap v w ht hb hv.2).mono fun e w' h => ⟨_, h.1, Res_nil (by decide), by rw [h.2]; exact Below.refl _ _⟩
      · rw [wiE_ok ha hb, enc_4]
        exact (putw_4 ao l cap v w ht hs hl hv.1 (Int.not_le.1 hb)).mono fun e w' h => ⟨_, h.1, Res_block h.2.1 (Nat.le_refl _) (by simp [be_length]) (by omega) (by omega), h.2.2⟩
    · by_cases hb : lim 8 ≤ v
      · rw [wiE_big ha hb]
        exact (putw_big_8 ao l.length cap v w ht hb hv.2).mono fun e w' h => ⟨_, h.1, Res_nil (by decide), by rw [h.2]; exact Below.refl _ _⟩
      · rw [wiE_ok ha hb, enc_8]
        exact (putw_8 ao l cap v w ht hs hl hv.1 (Int.not_le.1 hb)).mono fun e w' h => ⟨_, h.1, Res_block h.2.1 (Nat.le_refl _) (by simp [be_length]) (by omega) (by omega), h.2.2⟩

theorem rwide_any (v n : Int) (w : World) :
    Calls Tryd.prog 57 #[.int .i64 v, .int .i64 n] w fun e w' => ∃ x, e = .returned (.tuple #[x, .int .i64 (wiE v n)]) ∧ Res w.heap.size w' x (wiE v n) (enc n v) ∧ Below w.heap.size w w' := by
  by_cases ha : v < 0 ∨ 4611686018427387903 < v ∨ mB n = false
  · rw [wiE_arg ha]
    exact (rwide_arg v n w ha).mono fun e w' h => ⟨_, h.1, Res_nil (by decide), by rw [h.2]; exact Below.refl _ _⟩
  · have hv : 0 ≤ v ∧ v ≤ 4611686018427387903 := by omega
    rcases mB_cases (n := n) (fun h => ha (.inr (.inr h))) with rfl | rfl | rfl | rfl
    · by_cases hb : lim 1 ≤ v
      · rw [wiE_big ha hb]
        exact (rwide_big_1 v w hb hv.2).mono fun e w' h => ⟨_, h.1, Res_nil (by decide), by rw [h.2]; exact Below.refl _ _⟩
      · rw [wiE_ok ha hb, encr_1 v hv.1]
        exact (rwide_1 v w hv.1 (Int.not_le.1 hb)).mono fun e w' ⟨x, h1, h2, h3⟩ => ⟨x, h1, .inl ⟨rfl, by simp [be_length], by rw [be_length]; exact h2⟩, h3⟩
    · by_cases hb : lim 2 ≤ v
      · rw [wiE_big ha hb]
        exact (rwide_big_2 v w hb hv.2).mono fun e w' h => ⟨_, h.1, Res_nil (by decide), by rw [h.2]; exact Below.refl _ _⟩
      · rw [wiE_ok ha hb, encr_2 v hv.1]
        exact (rwide_2 v w hv.1 (Int.not_le.1 hb)).mono fun e w' ⟨x, h1, h2, h3⟩ => ⟨x, h1, .inl ⟨rfl, by simp [be_length], by rw [be_length]; exact h2⟩, h3⟩
    · by_cases hb : lim 4 ≤ v
      · rw [wiE_big ha hb]
        exact (rwide_big_4 v w hb hv.2).mono fun e w' h => ⟨_, h.1, Res_nil (by decide), by rw [h.2]; exact Below.refl _ _⟩
      · rw [wiE_ok ha hb, encr_4 v hv.1]
        exact (rwide_4 v w hv.1 (Int.not_le.1 hb)).mono fun e w' ⟨x, h1, h2, h3⟩ => ⟨x, h1, .inl ⟨rfl, by simp [be_length], by rw [be_length]; exact h2⟩, h3⟩
    · by_cases hb : lim 8 ≤ v
      · rw [wiE_big ha hb]
        exact (rwide_big_8 v w hb hv.2).mono fun e w' h => ⟨_, h.1, Res_nil (by decide), by rw [h.2]; exact Below.refl _ _⟩
      · rw [wiE_ok ha hb, encr_8 v hv.1]
        exact (rwide_8 v w hv.1 (Int.not_le.1 hb)).mono fun e w' ⟨x, h1, h2, h3⟩ => ⟨x, h1, .inl ⟨rfl, by simp [be_length], by rw [be_length]; exact h2⟩, h3⟩

def vaE (v : Int) : Int := if v < 0 ∨ 4611686018427387903 < v then 2 else 0
theorem vaE_no {v : Int} (h : v < 0 ∨ 4611686018427387903 < v) : vaE v = 2 := if_pos h
theorem vaE_ok {v : Int} (h : ¬ (v < 0 ∨ 4611686018427387903 < v)) : vaE v = 0 := if_neg h
theorem szN_ok (v : Int) (h : ¬ (v < 0 ∨ 4611686018427387903 < v)) : wiE v (szN v) = 0 := by
  have hs : (szN v = 1 ∧ v < 64) ∨ (szN v = 2 ∧ v < 16384) ∨ (szN v = 4 ∧ v < 1073741824) ∨ (szN v = 8 ∧ v < 4611686018427387904) := by
    unfold szN
    by_cases h1 : v < 64
    · rw [if_pos h1]; exact Or.inl ⟨rfl, h1⟩
    · rw [if_neg h1]
      by_cases h2 : v < 16384
      · rw [if_pos h2]; exact Or.inr (Or.inl ⟨rfl, h2⟩)
      · rw [if_neg h2]
        by_cases h3 : v < 1073741824
        · rw [if_pos h3]; exact Or.inr (Or.inr (Or.inl ⟨rfl, h3⟩))
        · rw [if_neg h3]; exact Or.inr (Or.inr (Or.inr ⟨rfl, by omega⟩))
  rcases hs with ⟨e, hv⟩ | ⟨e, hv⟩ | ⟨e, hv⟩ | ⟨e, hv⟩
  all_goals
    rw [e]
    refine wiE_ok ?_ (Int.not_le.2 hv)
    rintro (h' | h' | h')
    · exact h (.inl h')
    · exact h (.inr h')
    · cases h'

set_option maxRecDepth 10000 in
theorem putv_any (ao : Option Addr) (l : List UInt8) (cap : Nat) (v : Int) (w : World) (ht : Tb w) (hs : Sl w ao l) (hl : l.length ≤ 140737488351232) :
    Calls Tryd.prog 56 #[.slice ao l.length cap, .int .i64 v] w fun e w' => ∃ x, e = .returned (.tuple #[x, .int .i64 (vaE v)]) ∧ Res w.heap.size w' x (vaE v) (l ++ enc (szN v) v) ∧ Below w.heap.size w w' := by
  have HT := mkHid ht
  have HS := mkHid hs
  clear ht hs
  by_cases h : v < 0 ∨ 4611686018427387903 < v
  · rw [vaE_no h]
    go_enter Tryd.func56, Tryd.ntmps56
    go_wp2_with fail
    refine (size_no _ _ HT.out h).mono ?_
    rintro e w' ⟨rfl, rfl⟩
    clear h
    go_wp2
    go_ret2
    exact ⟨_, rfl, Res_nil (by decide), Below.refl _ _⟩
  · rw [vaE_ok h]
    have HZ := mkHid (szN_ok v h)
    go_enter Tryd.func56, Tryd.ntmps56
    go_wp2_with fail
    refine (size_yes _ _ HT.out (by omega) (by omega)).mono ?_
    rintro e w' ⟨rfl, rfl⟩
    go_wp2_with fail
    refine (putw_any ao l cap v (szN v) _ HT.out HS.out hl).mono ?_
    rintro e w2 ⟨x, rfl, hr, hb⟩
    rw [HZ.out] at hr ⊢
    have HR := mkHid hr
    have HB := mkHid hb
    clear hr hb
    go_wp2
    go_ret2
    exact ⟨_, rfl, HR.out, HB.out⟩

set_option maxRecDepth 10000 in
theorem rvar_any (v : Int) (w : World) :
    Calls Tryd.prog 42 #[.int .i64 v] w fun e w' => ∃ x, e = .returned (.tuple #[x, .int .i64 (vaE v)]) ∧ Res w.heap.size w' x (vaE v) (enc (szN v) v) ∧ Below w.heap.size w w' := by
  by_cases h : v < 0 ∨ 4611686018427387903 < v
  · rw [vaE_no h]
    go_enter Tryd.func42, Tryd.ntmps42
    go_wp2_with fail
    refine (rsize_no _ _ h).mono ?_
    rintro e w' ⟨rfl, rfl⟩
    clear h
    go_wp2
    go_ret2
    exact ⟨_, rfl, Res_nil (by decide), Below.refl _ _⟩
  · rw [vaE_ok h]
    have HZ := mkHid (szN_ok v h)
    go_enter Tryd.func42, Tryd.ntmps42
    go_wp2_with fail
    refine (rsize_yes _ _ (by omega) (by omega)).mono ?_
    rintro e w' ⟨rfl, rfl⟩
    go_wp2_with fail
    refine (rwide_any v (szN v) _).mono ?_
    rintro e w2 ⟨x, rfl, hr, hb⟩
    rw [HZ.out] at hr ⊢
    have HR := mkHid hr
    have HB := mkHid hb
    clear hr hb
    go_wp2
    go_ret2
    exact ⟨_, rfl, HR.out, HB.out⟩

end Go.Proofs.YtaeapgkfmofjlaaDoor
namespace Go.Proofs.YtaeapgkfmofjlaaDoor
open Go.ChangeShapes Go.WideShapes Go.ChangeAt Go.RowKit
set_option linter.unusedVariables false

/-- the world behind some rounds of the loop that turns x's bytes -/
structure Turned (w wr : World) (B gx gy m cx : Nat) (k : Nat) (X : List UInt8) : Prop where
  below : Below B w wr
  other : ∀ b, b ≠ gx → wr.heap[b]? = w.heap[b]?
  row : ∃ cur, wr.heap[gx]? = some (.cells cur 5 (0, 0)) ∧ cur.size = cx ∧ ∀ j (h : j < X.length), k ≤ j → cur[j]? = some (.int .u8 X[j].toNat)

theorem Turned.cell {w wr : World} {B gx gy m cx k : Nat} {X : List UInt8} (h : Turned w wr B gx gy m cx k X) (hk : k < X.length) : wr.cell? ⟨gx, k, none⟩ = some (.int .u8 X[k].toNat) := by
  obtain ⟨cur, hb, _, hc⟩ := h.row
  unfold World.cell?
  rw [hb]
  simpa using hc k hk (Nat.le_refl _)
theorem Turned.frozen {w wr : World} {B gx gy m cx k : Nat} {X : List UInt8} (h : Turned w wr B gx gy m cx k X) : wr.frozen? ⟨gx, k, none⟩ = false := by
  obtain ⟨cur, hb, _, hc⟩ := h.row
  unfold World.frozen?
  rw [hb]
  simp
theorem Turned.set {w wr : World} {B gx gy m cx k : Nat} {X : List UInt8} (h : Turned w wr B gx gy m cx k X) (hB : B ≤ gx) (x : Value) : Turned w (wr.setCell ⟨gx, k, none⟩ x) B gx gy m cx (k + 1) X := by
  obtain ⟨cur, hb, hs, hc⟩ := h.row
  refine ⟨h.below.setCell hB _, fun b hne => ?_, _, heap_setCell_same wr gx k cur 5 x hb, by simp [hs], fun j hj hk => ?_⟩
  · rw [Below.heap_setCell _ _ _ _ hne]; exact h.other b hne
  · rw [Array.getElem?_setIfInBounds, if_neg (by omega)]
    exact hc j hj (by omega)

theorem Res_ok {B : Nat} {w : World} {v : Value} {X : List UInt8} (h : Res B w v 0 X) : ∃ g cp cur, v = .slice (some ⟨g, 0, none⟩) X.length cp ∧ B ≤ g ∧ w.heap[g]? = some (.cells cur 5 (0, 0)) ∧ X.length ≤ cp ∧ cur.size = cp ∧ cur.toList.take X.length = bc X := by
  rcases h with ⟨_, h0, ho⟩ | ⟨h, _⟩
  · obtain ⟨g, cap, cur, he, h1, h2, h3, _, h5, h6⟩ := own_shape ho h0
    exact ⟨g, cap, cur, he, h1, h2, h3, h5, h6⟩
  · exact absurd rfl h
theorem Res_err {B : Nat} {w : World} {v : Value} {E : Int} {X : List UInt8} (hE : E ≠ 0) (h : Res B w v E X) : v = .slice none 0 0 := by
  rcases h with ⟨h, _⟩ | ⟨_, h⟩
  · exact absurd h hE
  · exact h
theorem Res_below {B C : Nat} {w w' : World} {v : Value} {E : Int} {X : List UInt8} (h : Res B w v E X) (hb : Below w.heap.size w w') : Res B w' v E X := by
  rcases h with ⟨h0, h1, h2⟩ | h
  · refine .inl ⟨h0, h1, ?_⟩
    obtain ⟨hl, hc | ⟨g, cap, cur, he, k1, k2, k3⟩⟩ := h2
    · exact ⟨hl, .inl hc⟩
    · exact ⟨hl, .inr ⟨g, cap, cur, he, k1, (hb.block g (lt_block k2)).trans k2, k3⟩⟩
  · exact .inr h

end Go.Proofs.YtaeapgkfmofjlaaDoor
namespace Go.Proofs.YtaeapgkfmofjlaaDoor
open Go.ChangeShapes Go.WideShapes Go.ChangeAt Go.RowKit
set_option linter.unusedVariables false

def siN (v : Int) : Int := if v < 0 ∨ 4611686018427387903 < v then 0 else szN v
theorem size_any (v : Int) (w : World) (ht : Tb w) :
    Calls Tryd.prog 44 #[.int .i64 v] w fun e w' => e = .returned (.tuple #[.int .i64 (siN v), .int .i64 (vaE v)]) ∧ w' = w := by
  by_cases h : v < 0 ∨ 4611686018427387903 < v
  · rw [vaE_no h, show siN v = 0 from if_pos h]; exact size_no v w ht h
  · rw [vaE_ok h, show siN v = szN v from if_neg h]; exact size_yes v w ht (by omega) (by omega)
theorem rsize_any (v : Int) (w : World) :
    Calls Tryd.prog 33 #[.int .i64 v] w fun e w' => e = .returned (.tuple #[.int .i64 (siN v), .int .i64 (vaE v)]) ∧ w' = w := by
  by_cases h : v < 0 ∨ 4611686018427387903 < v
  · rw [vaE_no h, show siN v = 0 from if_pos h]; exact rsize_no v w h
  · rw [vaE_ok h, show siN v = szN v from if_neg h]; exact rsize_yes v w (by omega) (by omega)
theorem wrap_bounds (v : Int) : 0 ≤ IntKind.u64.wrap v ∧ IntKind.u64.wrap v < 18446744073709551616 := by rw [IntKind.wrap_u64]; omega

/-- what the law's calls need of the world -/
structure St (W : World) (ao : Option Addr) (g : Nat) (l : List UInt8) : Prop where
  tab : Tb W
  own : Sl W (some ⟨g, 0, none⟩) l
  arg : Sl W ao l
  all : Sl W (some ⟨g, 0, none⟩) (l ++ [90])
theorem St.on {W W' : World} {ao : Option Addr} {g : Nat} {l : List UInt8} (h : St W ao g l) (hb : Below W.heap.size W W') : St W' ao g l :=
  ⟨Tb_below h.tab hb (Tb_pos h.tab), Sl_below h.own hb, Sl_below h.arg hb, Sl_below h.all hb⟩
theorem Res_lt {B : Nat} {w : World} {v : Value} {E : Int} {X : List UInt8} (h : Res B w v E X) : ∀ g n c, v = .slice (some ⟨g, 0, none⟩) n c → g < w.heap.size := by
  intro g n c he
  rcases h with ⟨_, _, ho⟩ | ⟨_, hn⟩
  · exact (ho.lt g (by rw [he]; rfl)).2
  · rw [hn] at he; cases he
theorem szN_le (v : Int) : (szN v).toNat ≤ 8 := by
  unfold szN
  by_cases h1 : v < 64
  · rw [if_pos h1]; decide
  · rw [if_neg h1]
    by_cases h2 : v < 16384
    · rw [if_pos h2]; decide
    · rw [if_neg h2]
      by_cases h3 : v < 1073741824
      · rw [if_pos h3]; decide
      · rw [if_neg h3]; decide
theorem wiE_len {v n : Int} (h : wiE v n = 0) : n.toNat ≤ 8 := by
  by_cases ha : v < 0 ∨ 4611686018427387903 < v ∨ mB n = false
  · rw [wiE_arg ha] at h; cases h
  · rcases mB_cases (n := n) (fun h => ha (.inr (.inr h))) with rfl | rfl | rfl | rfl <;> decide
theorem chain4 {a b c d e : World} (h1 : Below a.heap.size a b) (h2 : Below b.heap.size b c) (h3 : Below c.heap.size c d) (h4 : Below a.heap.size d e) : Below a.heap.size a e :=
  ((h1.trans (h2.mono h1.size)).trans (h3.mono (Nat.le_trans h1.size h2.size))).trans h4

end Go.Proofs.YtaeapgkfmofjlaaDoor
