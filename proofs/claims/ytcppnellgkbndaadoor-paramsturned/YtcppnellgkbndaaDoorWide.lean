/- What octet.PutWide answers, for every input: contracts. -/
import Derived.Test.YtcppnellgkbndaaDoorLay
import Derived.Laws.BitsLemmas
import Derived.Laws.Bits64
namespace Go.Proofs.YtcppnellgkbndaaDoor
open Go.ChangeShapes Go.WideShapes Go.ChangeAt Go.RowKit
set_option linter.unusedVariables false

theorem wraps_u64 (n : Int) (h₀ : 0 ≤ n) (h₁ : n < 2 ^ 64) : IntKind.u64.wrap n = n := by rw [IntKind.wrap_u64]; omega

theorem lay_int (ao : Option Addr) (l : List UInt8) (cap : Nat) (V n : Int) (w : World) (hs : Sl w ao l) (hl : l.length ≤ 140737488351232) (hV0 : 0 ≤ V) (hV : V < 18446744073709551616) (hn1 : 1 ≤ n) (hn8 : n ≤ 8) :
    Calls Tryd.prog 58 #[.slice ao l.length cap, .int .u64 V, .int .i64 n] w fun e w' => e = .returned (.slice (some ⟨w.heap.size, 0, none⟩) (l.length + n.toNat) (l.length + n.toNat)) ∧
      w'.heap[w.heap.size]? = some (.cells (bc (l ++ be n.toNat V.toNat)).toArray 5 (0, 0)) ∧ Below w.heap.size w w' := by
  obtain ⟨V, rfl⟩ := Int.eq_ofNat_of_zero_le hV0
  obtain ⟨n, rfl⟩ := Int.eq_ofNat_of_zero_le (show 0 ≤ n by omega)
  exact lay_any ao l cap V n w hs hl (by omega) (by omega) (by omega)

theorem or_64 (v : Int) (h0 : 0 ≤ v) (h1 : v < 64) : bits .or .u64 0 v = v := by
  have := bits_join .u64 64 (by decide) wraps_u64 6 0 v (by omega) (by decide) (by decide) h0 (by simpa using h1) (by omega)
  omega
theorem or_16384 (v : Int) (h0 : 0 ≤ v) (h1 : v < 16384) : bits .or .u64 16384 v = 16384 + v :=
  bits_join .u64 64 (by decide) wraps_u64 14 16384 v (by omega) (by decide) (by decide) h0 (by simpa using h1) (by omega)
theorem or_1073741824 (v : Int) (h0 : 0 ≤ v) (h1 : v < 1073741824) : bits .or .u64 2147483648 v = 2147483648 + v :=
  bits_join .u64 64 (by decide) wraps_u64 30 2147483648 v (by omega) (by decide) (by decide) h0 (by simpa using h1) (by omega)
theorem or_4611686018427387904 (v : Int) (h0 : 0 ≤ v) (h1 : v < 4611686018427387904) : bits .or .u64 13835058055282163712 v = 13835058055282163712 + v :=
  bits_join .u64 64 (by decide) wraps_u64 62 13835058055282163712 v (by omega) (by decide) (by decide) h0 (by simpa using h1) (by omega)

set_option maxRecDepth 10000 in
theorem putw_1 (ao : Option Addr) (l : List UInt8) (cap : Nat) (v : Int) (w : World) (ht : Tb w) (hs : Sl w ao l) (hl : l.length ≤ 140737488351232) (h0 : 0 ≤ v) (h1 : v < 64) :
    Calls Tryd.prog 47 #[.slice ao l.length cap, .int .i64 v, .int .i64 1] w fun e w' => e = .returned (.tuple #[.slice (some ⟨w.heap.size, 0, none⟩) (l.length + 1) (l.length + 1), .int .i64 0]) ∧
      w'.heap[w.heap.size]? = some (.cells (bc (l ++ be 1 v.toNat)).toArray 5 (0, 0)) ∧ Below w.heap.size w w' := by
  have HT := mkHid ht
  have HS := mkHid hs
  clear ht hs
  have m1 : mV 1 = 0 := by decide
  have m2 : mB 1 = true := by decide
  have hf : fitB v 64 = true := fitB_yes ⟨h0, h1⟩
  have ho : bits .or .u64 0 v = v := or_64 v h0 h1
  go_enter Tryd.func47, Tryd.ntmps47
  go_wp2_with fail
  refine (mark_any _ _ HT.out).mono ?_
  rintro e w' ⟨rfl, rfl⟩
  go_wp2_with fail
  refine (isVar_yes _ _ (by omega) (by omega)).mono ?_
  rintro e w' ⟨rfl, rfl⟩
  go_wp2_with fail
  refine (fits_1 _ _).mono ?_
  rintro e w' ⟨rfl, rfl⟩
  go_wp2_with fail
  refine (room_any _ _ (by omega) (by omega)).mono ?_
  rintro e w' ⟨rfl, rfl⟩
  go_wp2_with fail
  refine (lay_int ao l cap _ _ _ HS.out hl (by omega) (by omega) (by omega) (by omega)).mono ?_
  rintro e w2 ⟨rfl, hb, hB⟩
  have HB := mkHid hb
  have HL := mkHid hB
  clear hb hB
  go_wp2
  go_ret2
  exact ⟨rfl, HB.out, HL.out⟩

set_option maxRecDepth 10000 in
theorem putw_big_1 (ao : Option Addr) (len cap : Nat) (v : Int) (w : World) (ht : Tb w) (h0 : 64 ≤ v) (h1 : v ≤ 4611686018427387903) :
    Calls Tryd.prog 47 #[.slice ao len cap, .int .i64 v, .int .i64 1] w fun e w' => e = .returned (.tuple #[.slice none 0 0, .int .i64 3]) ∧ w' = w := by
  have HT := mkHid ht
  clear ht
  have m1 : mV 1 = 0 := by decide
  have m2 : mB 1 = true := by decide
  have hf : fitB v 64 = false := fitB_no (by omega)
  go_enter Tryd.func47, Tryd.ntmps47
  go_wp2_with fail
  refine (mark_any _ _ HT.out).mono ?_
  rintro e w' ⟨rfl, rfl⟩
  go_wp2_with fail
  refine (isVar_yes _ _ (by omega) (by omega)).mono ?_
  rintro e w' ⟨rfl, rfl⟩
  go_wp2_with fail
  refine (fits_1 _ _).mono ?_
  rintro e w' ⟨rfl, rfl⟩
  go_wp2
  go_ret2
  exact ⟨rfl, rfl⟩

set_option maxRecDepth 10000 in
theorem putw_2 (ao : Option Addr) (l : List UInt8) (cap : Nat) (v : Int) (w : World) (ht : Tb w) (hs : Sl w ao l) (hl : l.length ≤ 140737488351232) (h0 : 0 ≤ v) (h1 : v < 16384) :
    Calls Tryd.prog 47 #[.slice ao l.length cap, .int .i64 v, .int .i64 2] w fun e w' => e = .returned (.tuple #[.slice (some ⟨w.heap.size, 0, none⟩) (l.length + 2) (l.length + 2), .int .i64 0]) ∧
      w'.heap[w.heap.size]? = some (.cells (bc (l ++ be 2 (16384 + v).toNat)).toArray 5 (0, 0)) ∧ Below w.heap.size w w' := by
  have HT := mkHid ht
  have HS := mkHid hs
  clear ht hs
  have m1 : mV 2 = 1 := by decide
  have m2 : mB 2 = true := by decide
  have hf : fitB v 16384 = true := fitB_yes ⟨h0, h1⟩
  have ho : bits .or .u64 16384 v = (16384 + v) := or_16384 v h0 h1
  go_enter Tryd.func47, Tryd.ntmps47
  go_wp2_with fail
  refine (mark_any _ _ HT.out).mono ?_
  rintro e w' ⟨rfl, rfl⟩
  go_wp2_with fail
  refine (isVar_yes _ _ (by omega) (by omega)).mono ?_
  rintro e w' ⟨rfl, rfl⟩
  go_wp2_with fail
  refine (fits_2 _ _).mono ?_
  rintro e w' ⟨rfl, rfl⟩
  go_wp2_with fail
  refine (room_any _ _ (by omega) (by omega)).mono ?_
  rintro e w' ⟨rfl, rfl⟩
  go_wp2_with fail
  refine (lay_int ao l cap _ _ _ HS.out hl (by omega) (by omega) (by omega) (by omega)).mono ?_
  rintro e w2 ⟨rfl, hb, hB⟩
  have HB := mkHid hb
  have HL := mkHid hB
  clear hb hB
  go_wp2
  go_ret2
  exact ⟨rfl, HB.out, HL.out⟩

set_option maxRecDepth 10000 in
theorem putw_big_2 (ao : Option Addr) (len cap : Nat) (v : Int) (w : World) (ht : Tb w) (h0 : 16384 ≤ v) (h1 : v ≤ 4611686018427387903) :
    Calls Tryd.prog 47 #[.slice ao len cap, .int .i64 v, .int .i64 2] w fun e w' => e = .returned (.tuple #[.slice none 0 0, .int .i64 3]) ∧ w' = w := by
  have HT := mkHid ht
  clear ht
  have m1 : mV 2 = 1 := by decide
  have m2 : mB 2 = true := by decide
  have hf : fitB v 16384 = false := fitB_no (by omega)
  go_enter Tryd.func47, Tryd.ntmps47
  go_wp2_with fail
  refine (mark_any _ _ HT.out).mono ?_
  rintro e w' ⟨rfl, rfl⟩
  go_wp2_with fail
  refine (isVar_yes _ _ (by omega) (by omega)).mono ?_
  rintro e w' ⟨rfl, rfl⟩
  go_wp2_with fail
  refine (fits_2 _ _).mono ?_
  rintro e w' ⟨rfl, rfl⟩
  go_wp2
  go_ret2
  exact ⟨rfl, rfl⟩

set_option maxRecDepth 10000 in
theorem putw_4 (ao : Option Addr) (l : List UInt8) (cap : Nat) (v : Int) (w : World) (ht : Tb w) (hs : Sl w ao l) (hl : l.length ≤ 140737488351232) (h0 : 0 ≤ v) (h1 : v < 1073741824) :
    Calls Tryd.prog 47 #[.slice ao l.length cap, .int .i64 v, .int .i64 4] w fun e w' => e = .returned (.tuple #[.slice (some ⟨w.heap.size, 0, none⟩) (l.length + 4) (l.length + 4), .int .i64 0]) ∧
      w'.heap[w.heap.size]? = some (.cells (bc (l ++ be 4 (2147483648 + v).toNat)).toArray 5 (0, 0)) ∧ Below w.heap.size w w' := by
  have HT := mkHid ht
  have HS := mkHid hs
  clear ht hs
  have m1 : mV 4 = 2 := by decide
  have m2 : mB 4 = true := by decide
  have hf : fitB v 1073741824 = true := fitB_yes ⟨h0, h1⟩
  have ho : bits .or .u64 2147483648 v = (2147483648 + v) := or_1073741824 v h0 h1
  go_enter Tryd.func47, Tryd.ntmps47
  go_wp2_with fail
  refine (mark_any _ _ HT.out).mono ?_
  rintro e w' ⟨rfl, rfl⟩
  go_wp2_with fail
  refine (isVar_yes _ _ (by omega) (by omega)).mono ?_
  rintro e w' ⟨rfl, rfl⟩
  go_wp2_with fail
  refine (fits_4 _ _).mono ?_
  rintro e w' ⟨rfl, rfl⟩
  go_wp2_with fail
  refine (room_any _ _ (by omega) (by omega)).mono ?_
  rintro e w' ⟨rfl, rfl⟩
  go_wp2_with fail
  refine (lay_int ao l cap _ _ _ HS.out hl (by omega) (by omega) (by omega) (by omega)).mono ?_
  rintro e w2 ⟨rfl, hb, hB⟩
  have HB := mkHid hb
  have HL := mkHid hB
  clear hb hB
  go_wp2
  go_ret2
  exact ⟨rfl, HB.out, HL.out⟩

set_option maxRecDepth 10000 in
theorem putw_big_4 (ao : Option Addr) (len cap : Nat) (v : Int) (w : World) (ht : Tb w) (h0 : 1073741824 ≤ v) (h1 : v ≤ 4611686018427387903) :
    Calls Tryd.prog 47 #[.slice ao len cap, .int .i64 v, .int .i64 4] w fun e w' => e = .returned (.tuple #[.slice none 0 0, .int .i64 3]) ∧ w' = w := by
  have HT := mkHid ht
  clear ht
  have m1 : mV 4 = 2 := by decide
  have m2 : mB 4 = true := by decide
  have hf : fitB v 1073741824 = false := fitB_no (by omega)
  go_enter Tryd.func47, Tryd.ntmps47
  go_wp2_with fail
  refine (mark_any _ _ HT.out).mono ?_
  rintro e w' ⟨rfl, rfl⟩
  go_wp2_with fail
  refine (isVar_yes _ _ (by omega) (by omega)).mono ?_
  rintro e w' ⟨rfl, rfl⟩
  go_wp2_with fail
  refine (fits_4 _ _).mono ?_
  rintro e w' ⟨rfl, rfl⟩
  go_wp2
  go_ret2
  exact ⟨rfl, rfl⟩

set_option maxRecDepth 10000 in
theorem putw_8 (ao : Option Addr) (l : List UInt8) (cap : Nat) (v : Int) (w : World) (ht : Tb w) (hs : Sl w ao l) (hl : l.length ≤ 140737488351232) (h0 : 0 ≤ v) (h1 : v < 4611686018427387904) :
    Calls Tryd.prog 47 #[.slice ao l.length cap, .int .i64 v, .int .i64 8] w fun e w' => e = .returned (.tuple #[.slice (some ⟨w.heap.size, 0, none⟩) (l.length + 8) (l.length + 8), .int .i64 0]) ∧
      w'.heap[w.heap.size]? = some (.cells (bc (l ++ be 8 (13835058055282163712 + v).toNat)).toArray 5 (0, 0)) ∧ Below w.heap.size w w' := by
  have HT := mkHid ht
  have HS := mkHid hs
  clear ht hs
  have m1 : mV 8 = 3 := by decide
  have m2 : mB 8 = true := by decide
  have hf : fitB v 4611686018427387904 = true := fitB_yes ⟨h0, h1⟩
  have ho : bits .or .u64 13835058055282163712 v = (13835058055282163712 + v) := or_4611686018427387904 v h0 h1
  go_enter Tryd.func47, Tryd.ntmps47
  go_wp2_with fail
  refine (mark_any _ _ HT.out).mono ?_
  rintro e w' ⟨rfl, rfl⟩
  go_wp2_with fail
  refine (isVar_yes _ _ (by omega) (by omega)).mono ?_
  rintro e w' ⟨rfl, rfl⟩
  go_wp2_with fail
  refine (fits_8 _ _).mono ?_
  rintro e w' ⟨rfl, rfl⟩
  go_wp2_with fail
  refine (room_any _ _ (by omega) (by omega)).mono ?_
  rintro e w' ⟨rfl, rfl⟩
  go_wp2_with fail
  refine (lay_int ao l cap _ _ _ HS.out hl (by omega) (by omega) (by omega) (by omega)).mono ?_
  rintro e w2 ⟨rfl, hb, hB⟩
  have HB := mkHid hb
  have HL := mkHid hB
  clear hb hB
  go_wp2
  go_ret2
  exact ⟨rfl, HB.out, HL.out⟩

set_option maxRecDepth 10000 in
theorem putw_big_8 (ao : Option Addr) (len cap : Nat) (v : Int) (w : World) (ht : Tb w) (h0 : 4611686018427387904 ≤ v) (h1 : v ≤ 4611686018427387903) :
    Calls Tryd.prog 47 #[.slice ao len cap, .int .i64 v, .int .i64 8] w fun e w' => e = .returned (.tuple #[.slice none 0 0, .int .i64 3]) ∧ w' = w := by
  have HT := mkHid ht
  clear ht
  have m1 : mV 8 = 3 := by decide
  have m2 : mB 8 = true := by decide
  have hf : fitB v 4611686018427387904 = false := fitB_no (by omega)
  go_enter Tryd.func47, Tryd.ntmps47
  go_wp2_with fail
  refine (mark_any _ _ HT.out).mono ?_
  rintro e w' ⟨rfl, rfl⟩
  go_wp2_with fail
  refine (isVar_yes _ _ (by omega) (by omega)).mono ?_
  rintro e w' ⟨rfl, rfl⟩
  go_wp2_with fail
  refine (fits_8 _ _).mono ?_
  rintro e w' ⟨rfl, rfl⟩
  go_wp2
  go_ret2
  exact ⟨rfl, rfl⟩

set_option maxRecDepth 10000 in
theorem putw_arg (ao : Option Addr) (len cap : Nat) (v n : Int) (w : World) (ht : Tb w) (h : v < 0 ∨ 4611686018427387903 < v ∨ mB n = false) :
    Calls Tryd.prog 47 #[.slice ao len cap, .int .i64 v, .int .i64 n] w fun e w' => e = .returned (.tuple #[.slice none 0 0, .int .i64 2]) ∧ w' = w := by
  have HT := mkHid ht
  clear ht
  by_cases hv : v < 0 ∨ 4611686018427387903 < v
  · clear h
    go_enter Tryd.func47, Tryd.ntmps47
    go_wp2_with fail
    refine (mark_any _ _ HT.out).mono ?_
    rintro e w' ⟨rfl, rfl⟩
    go_wp2_with fail
    refine (isVar_no _ _ hv).mono ?_
    rintro e w' ⟨rfl, rfl⟩
    go_wp2
    go_ret2
    exact ⟨rfl, rfl⟩
  · have hm : mB n = false := by rcases h with h | h | h <;> first | exact h | omega
    clear h
    have h0 : 0 ≤ v := by omega
    have h1 : v ≤ 4611686018427387903 := by omega
    clear hv
    go_enter Tryd.func47, Tryd.ntmps47
    go_wp2_with fail
    refine (mark_any _ _ HT.out).mono ?_
    rintro e w' ⟨rfl, rfl⟩
    go_wp2_with fail
    refine (isVar_yes _ _ h0 h1).mono ?_
    rintro e w' ⟨rfl, rfl⟩
    go_wp2
    go_ret2
    exact ⟨rfl, rfl⟩
end Go.Proofs.YtcppnellgkbndaaDoor
