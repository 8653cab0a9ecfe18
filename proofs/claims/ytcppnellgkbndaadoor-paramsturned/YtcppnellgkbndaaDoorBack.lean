/- The walk of caravellaw01.OctetBack. -/
import Derived.Test.YtcppnellgkbndaaDoorVar
import Derived.Test.YtcppnellgkbndaaDoorOrder
namespace Go.Proofs.YtcppnellgkbndaaDoor
open Go.ChangeShapes Go.WideShapes Go.ChangeAt Go.RowKit
set_option linter.unusedVariables false

theorem Sl_block {w : World} {g : Nat} {l : List UInt8} (hb : w.heap[g]? = some (.cells (bc l).toArray 5 (0, 0))) : Sl w (some ⟨g, 0, none⟩) l := by
  intro j hj
  refine ⟨g, 0, rfl, ?_⟩
  unfold World.cell?
  rw [hb]
  simp [bc, hj]
theorem Sl_below {w w' : World} {ao : Option Addr} {l : List UInt8} (hs : Sl w ao l) (hb : Below w.heap.size w w') : Sl w' ao l := by
  intro j hj
  obtain ⟨b, off, he, hc⟩ := hs j hj
  exact ⟨b, off, he, (hb.cell (p := ⟨b, off + j, none⟩) (World.block_lt_of_cell? w _ hc)).trans hc⟩

theorem head_be (l : List UInt8) (n X : Nat) (h : l.length < (l ++ be (n + 1) X).length) : ((l ++ be (n + 1) X)[l.length]'h).toNat = X / 256 ^ n % 256 := by
  have : (l ++ be (n + 1) X)[l.length]'h = UInt8.ofNat (X / 256 ^ n) := by
    rw [List.getElem_append_right (Nat.le_refl _)]
    simp [be_head]
  rw [this, UInt8.toNat_ofNat']

/-- What lies there is read again. -/
theorem read_1 (g : Nat) (l : List UInt8) (len : Nat) (hlen : l.length + 1 = len) (v : Int) (w : World) (ht : Tb w) (hb : w.heap[g]? = some (.cells (bc (l ++ be 1 v.toNat)).toArray 5 (0, 0))) (hl : l.length ≤ 140737488351232) (h0 : 0 ≤ v) (h1 : v < 64) :
    Calls Tryd.prog 42 #[.slice (some ⟨g, 0, none⟩) len len, .int .i64 l.length] w fun e w' => e = .returned (.tuple #[.int .i64 v, .int .i64 (l.length + 1), .int .i64 0]) ∧ w' = w := by
  have hl2 : (l ++ be 1 v.toNat).length = len := by simp [be_length]; omega
  have hq := head_be l 0 v.toNat (by simp [be_length])
  have hd : v.toNat / 256 ^ 0 % 256 / 64 = 0 := by
    have e : (256 : Nat) ^ 0 = 1 := by decide
    rw [e]; omega
  have hc := var_1 (some ⟨g, 0, none⟩) (l ++ be 1 v.toNat) len l.length w ht (Sl_block hb) (by omega) (by omega) (by rw [hq]; exact hd)
  rw [sub_behind l _ 1 (be_length _ _), num_be, hl2] at hc
  have e2 : (256 : Nat) ^ 1 = 256 := by decide
  rw [e2] at hc
  have e3 : (((v.toNat % 256 : Nat) : Int) % 64) = v := by omega
  rw [e3] at hc
  exact hc

/-- What lies there is read again. -/
theorem read_2 (g : Nat) (l : List UInt8) (len : Nat) (hlen : l.length + 2 = len) (v : Int) (w : World) (ht : Tb w) (hb : w.heap[g]? = some (.cells (bc (l ++ be 2 (16384 + v).toNat)).toArray 5 (0, 0))) (hl : l.length ≤ 140737488351232) (h0 : 0 ≤ v) (h1 : v < 16384) :
    Calls Tryd.prog 42 #[.slice (some ⟨g, 0, none⟩) len len, .int .i64 l.length] w fun e w' => e = .returned (.tuple #[.int .i64 v, .int .i64 (l.length + 2), .int .i64 0]) ∧ w' = w := by
  have hl2 : (l ++ be 2 (16384 + v).toNat).length = len := by simp [be_length]; omega
  have hq := head_be l 1 (16384 + v).toNat (by simp [be_length])
  have hd : (16384 + v).toNat / 256 ^ 1 % 256 / 64 = 1 := by
    have e : (256 : Nat) ^ 1 = 256 := by decide
    rw [e]; omega
  have hc := var_2 (some ⟨g, 0, none⟩) (l ++ be 2 (16384 + v).toNat) len l.length w ht (Sl_block hb) (by omega) (by omega) (by rw [hq]; exact hd)
  rw [sub_behind l _ 2 (be_length _ _), num_be, hl2] at hc
  have e2 : (256 : Nat) ^ 2 = 65536 := by decide
  rw [e2] at hc
  have e3 : ((((16384 + v).toNat % 65536 : Nat) : Int) % 16384) = v := by omega
  rw [e3] at hc
  exact hc

/-- What lies there is read again. -/
theorem read_4 (g : Nat) (l : List UInt8) (len : Nat) (hlen : l.length + 4 = len) (v : Int) (w : World) (ht : Tb w) (hb : w.heap[g]? = some (.cells (bc (l ++ be 4 (2147483648 + v).toNat)).toArray 5 (0, 0))) (hl : l.length ≤ 140737488351232) (h0 : 0 ≤ v) (h1 : v < 1073741824) :
    Calls Tryd.prog 42 #[.slice (some ⟨g, 0, none⟩) len len, .int .i64 l.length] w fun e w' => e = .returned (.tuple #[.int .i64 v, .int .i64 (l.length + 4), .int .i64 0]) ∧ w' = w := by
  have hl2 : (l ++ be 4 (2147483648 + v).toNat).length = len := by simp [be_length]; omega
  have hq := head_be l 3 (2147483648 + v).toNat (by simp [be_length])
  have hd : (2147483648 + v).toNat / 256 ^ 3 % 256 / 64 = 2 := by
    have e : (256 : Nat) ^ 3 = 16777216 := by decide
    rw [e]; omega
  have hc := var_4 (some ⟨g, 0, none⟩) (l ++ be 4 (2147483648 + v).toNat) len l.length w ht (Sl_block hb) (by omega) (by omega) (by rw [hq]; exact hd)
  rw [sub_behind l _ 4 (be_length _ _), num_be, hl2] at hc
  have e2 : (256 : Nat) ^ 4 = 4294967296 := by decide
  rw [e2] at hc
  have e3 : ((((2147483648 + v).toNat % 4294967296 : Nat) : Int) % 1073741824) = v := by omega
  rw [e3] at hc
  exact hc

/-- What lies there is read again. -/
theorem read_8 (g : Nat) (l : List UInt8) (len : Nat) (hlen : l.length + 8 = len) (v : Int) (w : World) (ht : Tb w) (hb : w.heap[g]? = some (.cells (bc (l ++ be 8 (13835058055282163712 + v).toNat)).toArray 5 (0, 0))) (hl : l.length ≤ 140737488351232) (h0 : 0 ≤ v) (h1 : v < 4611686018427387904) :
    Calls Tryd.prog 42 #[.slice (some ⟨g, 0, none⟩) len len, .int .i64 l.length] w fun e w' => e = .returned (.tuple #[.int .i64 v, .int .i64 (l.length + 8), .int .i64 0]) ∧ w' = w := by
  have hl2 : (l ++ be 8 (13835058055282163712 + v).toNat).length = len := by simp [be_length]; omega
  have hq := head_be l 7 (13835058055282163712 + v).toNat (by simp [be_length])
  have hd : (13835058055282163712 + v).toNat / 256 ^ 7 % 256 / 64 = 3 := by
    have e : (256 : Nat) ^ 7 = 72057594037927936 := by decide
    rw [e]; omega
  have hc := var_8 (some ⟨g, 0, none⟩) (l ++ be 8 (13835058055282163712 + v).toNat) len l.length w ht (Sl_block hb) (by omega) (by omega) (by rw [hq]; exact hd)
  rw [sub_behind l _ 8 (be_length _ _), num_be, hl2] at hc
  have e2 : (256 : Nat) ^ 8 = 18446744073709551616 := by decide
  rw [e2] at hc
  have e3 : ((((13835058055282163712 + v).toNat % 18446744073709551616 : Nat) : Int) % 4611686018427387904) = v := by omega
  rw [e3] at hc
  exact hc

set_option maxRecDepth 10000 in
theorem putv_1 (ao : Option Addr) (l : List UInt8) (cap : Nat) (v : Int) (w : World) (ht : Tb w) (hs : Sl w ao l) (hl : l.length ≤ 140737488351232) (h0 : 0 ≤ v) (h1 : v < 64) :
    Calls Tryd.prog 37 #[.slice ao l.length cap, .int .i64 v] w fun e w' => e = .returned (.tuple #[.slice (some ⟨w.heap.size, 0, none⟩) (l.length + 1) (l.length + 1), .int .i64 0]) ∧
      w'.heap[w.heap.size]? = some (.cells (bc (l ++ be 1 v.toNat)).toArray 5 (0, 0)) ∧ Below w.heap.size w w' := by
  have HT := mkHid ht
  have HS := mkHid hs
  clear ht hs
  have hz : szN v = 1 := by
    unfold szN
    rw [if_pos h1]
  go_enter Tryd.func37, Tryd.ntmps37
  go_wp2_with fail
  refine (size_yes _ _ HT.out (by omega) (by omega)).mono ?_
  rintro e w' ⟨rfl, rfl⟩
  rw [hz]
  go_wp2_with fail
  refine (putw_1 ao l cap v _ HT.out HS.out hl (by omega) h1).mono ?_
  rintro e w2 ⟨rfl, hb, hB⟩
  have HB := mkHid hb
  have HL := mkHid hB
  clear hb hB
  go_wp2
  go_ret2
  exact ⟨rfl, HB.out, HL.out⟩

set_option maxRecDepth 10000 in
theorem putv_2 (ao : Option Addr) (l : List UInt8) (cap : Nat) (v : Int) (w : World) (ht : Tb w) (hs : Sl w ao l) (hl : l.length ≤ 140737488351232) (h0 : 64 ≤ v) (h1 : v < 16384) :
    Calls Tryd.prog 37 #[.slice ao l.length cap, .int .i64 v] w fun e w' => e = .returned (.tuple #[.slice (some ⟨w.heap.size, 0, none⟩) (l.length + 2) (l.length + 2), .int .i64 0]) ∧
      w'.heap[w.heap.size]? = some (.cells (bc (l ++ be 2 (16384 + v).toNat)).toArray 5 (0, 0)) ∧ Below w.heap.size w w' := by
  have HT := mkHid ht
  have HS := mkHid hs
  clear ht hs
  have hz : szN v = 2 := by
    unfold szN
    rw [if_neg (by omega), if_pos h1]
  go_enter Tryd.func37, Tryd.ntmps37
  go_wp2_with fail
  refine (size_yes _ _ HT.out (by omega) (by omega)).mono ?_
  rintro e w' ⟨rfl, rfl⟩
  rw [hz]
  go_wp2_with fail
  refine (putw_2 ao l cap v _ HT.out HS.out hl (by omega) h1).mono ?_
  rintro e w2 ⟨rfl, hb, hB⟩
  have HB := mkHid hb
  have HL := mkHid hB
  clear hb hB
  go_wp2
  go_ret2
  exact ⟨rfl, HB.out, HL.out⟩

set_option maxRecDepth 10000 in
theorem putv_4 (ao : Option Addr) (l : List UInt8) (cap : Nat) (v : Int) (w : World) (ht : Tb w) (hs : Sl w ao l) (hl : l.length ≤ 140737488351232) (h0 : 16384 ≤ v) (h1 : v < 1073741824) :
    Calls Tryd.prog 37 #[.slice ao l.length cap, .int .i64 v] w fun e w' => e = .returned (.tuple #[.slice (some ⟨w.heap.size, 0, none⟩) (l.length + 4) (l.length + 4), .int .i64 0]) ∧
      w'.heap[w.heap.size]? = some (.cells (bc (l ++ be 4 (2147483648 + v).toNat)).toArray 5 (0, 0)) ∧ Below w.heap.size w w' := by
  have HT := mkHid ht
  have HS := mkHid hs
  clear ht hs
  have hz : szN v = 4 := by
    unfold szN
    rw [if_neg (by omega), if_neg (by omega), if_pos h1]
  go_enter Tryd.func37, Tryd.ntmps37
  go_wp2_with fail
  refine (size_yes _ _ HT.out (by omega) (by omega)).mono ?_
  rintro e w' ⟨rfl, rfl⟩
  rw [hz]
  go_wp2_with fail
  refine (putw_4 ao l cap v _ HT.out HS.out hl (by omega) h1).mono ?_
  rintro e w2 ⟨rfl, hb, hB⟩
  have HB := mkHid hb
  have HL := mkHid hB
  clear hb hB
  go_wp2
  go_ret2
  exact ⟨rfl, HB.out, HL.out⟩

set_option maxRecDepth 10000 in
theorem putv_8 (ao : Option Addr) (l : List UInt8) (cap : Nat) (v : Int) (w : World) (ht : Tb w) (hs : Sl w ao l) (hl : l.length ≤ 140737488351232) (h0 : 1073741824 ≤ v) (h1 : v < 4611686018427387904) :
    Calls Tryd.prog 37 #[.slice ao l.length cap, .int .i64 v] w fun e w' => e = .returned (.tuple #[.slice (some ⟨w.heap.size, 0, none⟩) (l.length + 8) (l.length + 8), .int .i64 0]) ∧
      w'.heap[w.heap.size]? = some (.cells (bc (l ++ be 8 (13835058055282163712 + v).toNat)).toArray 5 (0, 0)) ∧ Below w.heap.size w w' := by
  have HT := mkHid ht
  have HS := mkHid hs
  clear ht hs
  have hz : szN v = 8 := by
    unfold szN
    rw [if_neg (by omega), if_neg (by omega), if_neg (by omega)]
  go_enter Tryd.func37, Tryd.ntmps37
  go_wp2_with fail
  refine (size_yes _ _ HT.out (by omega) (by omega)).mono ?_
  rintro e w' ⟨rfl, rfl⟩
  rw [hz]
  go_wp2_with fail
  refine (putw_8 ao l cap v _ HT.out HS.out hl (by omega) h1).mono ?_
  rintro e w2 ⟨rfl, hb, hB⟩
  have HB := mkHid hb
  have HL := mkHid hB
  clear hb hB
  go_wp2
  go_ret2
  exact ⟨rfl, HB.out, HL.out⟩

end Go.Proofs.YtcppnellgkbndaaDoor
