/- What octet.Var answers, for every input: contracts. -/
import Derived.Test.YtcppnellgkbndaaDoorTake
namespace Go.Proofs.YtcppnellgkbndaaDoor
open Go.ChangeShapes Go.WideShapes Go.ChangeAt Go.RowKit
set_option linter.unusedVariables false

theorem ret_3 {a a' b b' c c' : Int} (h : a = a') (h' : b = b') (h'' : c = c') : Ending.returned (.tuple #[.int .i64 a, .int .i64 b, .int .i64 c]) = .returned (.tuple #[.int .i64 a', .int .i64 b', .int .i64 c']) := by rw [h, h', h'']

theorem and_63 (a : Int) (h₀ : 0 ≤ a) (h₁ : a < 18446744073709551616) : bits .and .u64 a 63 = a % 64 :=
  bits_mask .u64 64 (by decide) wraps_u64 6 (by decide) a h₀ (by omega)
theorem and_16383 (a : Int) (h₀ : 0 ≤ a) (h₁ : a < 18446744073709551616) : bits .and .u64 a 16383 = a % 16384 :=
  bits_mask .u64 64 (by decide) wraps_u64 14 (by decide) a h₀ (by omega)
theorem and_1073741823 (a : Int) (h₀ : 0 ≤ a) (h₁ : a < 18446744073709551616) : bits .and .u64 a 1073741823 = a % 1073741824 :=
  bits_mask .u64 64 (by decide) wraps_u64 30 (by decide) a h₀ (by omega)
theorem and_4611686018427387903 (a : Int) (h₀ : 0 ≤ a) (h₁ : a < 18446744073709551616) : bits .and .u64 a 4611686018427387903 = a % 4611686018427387904 :=
  bits_mask .u64 64 (by decide) wraps_u64 62 (by decide) a h₀ (by omega)

theorem var_arg (ao : Option Addr) (len cap : Nat) (a : Int) (w : World) (h : a < 0 ∨ len < a) (hl : len ≤ 9223372036854775000) :
    Calls Tryd.prog 42 #[.slice ao len cap, .int .i64 a] w fun e w' => e = .returned (.tuple #[.int .i64 0, .int .i64 0, .int .i64 2]) ∧ w' = w := by
  go_enter Tryd.func42, Tryd.ntmps42
  go_wp2_with fail
  refine (place_no _ _ _ _ _ h (by omega)).mono ?_
  rintro e w' ⟨rfl, rfl⟩
  clear h
  go_wp2
  go_ret3
  exact ⟨rfl, rfl⟩

theorem var_end (ao : Option Addr) (len cap : Nat) (w : World) (hl : len ≤ 9223372036854775000) :
    Calls Tryd.prog 42 #[.slice ao len cap, .int .i64 len] w fun e w' => e = .returned (.tuple #[.int .i64 0, .int .i64 0, .int .i64 10]) ∧ w' = w := by
  go_enter Tryd.func42, Tryd.ntmps42
  go_wp2_with fail
  refine (place_yes _ _ _ _ _ (by omega) (by omega) (by omega)).mono ?_
  rintro e w' ⟨rfl, rfl⟩
  go_wp2
  go_ret3
  exact ⟨rfl, rfl⟩

set_option maxRecDepth 10000 in
theorem var_1 (ao : Option Addr) (l : List UInt8) (cap a : Nat) (w : World) (ht : Tb w) (hs : Sl w ao l) (hl : l.length ≤ 9223372036854775000) (h : a + 1 ≤ l.length) (hq : (l[a]'(by omega)).toNat / 64 = 0) :
    Calls Tryd.prog 42 #[.slice ao l.length cap, .int .i64 a] w fun e w' => e = .returned (.tuple #[.int .i64 ((num (sub l a 1) : Int) % 64), .int .i64 (a + 1), .int .i64 0]) ∧ w' = w := by
  obtain ⟨t0, t1, t2, t3⟩ := ht
  have hn64 := num_sub_64 l a 1 h (by decide)
  obtain ⟨b, off, rfl, hc⟩ := Sl_addr hs (by omega)
  have hcell := hc a (by omega)
  obtain ⟨c, hcc⟩ : ∃ c : Nat, c = (l[a]'(by omega)).toNat := ⟨_, rfl⟩
  rw [← hcc] at hcell hq
  have hc8 : c < 256 := by rw [hcc]; exact (l[a]'(by omega)).toNat_lt
  have hq' : (c : Int) / 64 = 0 := by omega
  have hm := and_63 (num (sub l a 1) : Int) (by omega) (by omega)
  have HS := mkHid hs
  clear hc hs hcc hq
  go_enter Tryd.func42, Tryd.ntmps42
  go_wp2_with fail
  refine (place_yes _ _ _ _ _ (by omega) (by omega) (by omega)).mono ?_
  rintro e w' ⟨rfl, rfl⟩
  go_wp2_with fail
  refine (take_int _ l cap a _ _ HS.out hl (by omega) (by omega) (by omega) (by omega)).mono ?_
  rintro e w' ⟨rfl, rfl⟩
  go_wp2_with fail
  refine (room_any _ _ (by omega) (by omega)).mono ?_
  rintro e w' ⟨rfl, rfl⟩
  go_wp2
  go_ret3
  exact ⟨rfl, rfl⟩

set_option maxRecDepth 10000 in
theorem var_2 (ao : Option Addr) (l : List UInt8) (cap a : Nat) (w : World) (ht : Tb w) (hs : Sl w ao l) (hl : l.length ≤ 9223372036854775000) (h : a + 2 ≤ l.length) (hq : (l[a]'(by omega)).toNat / 64 = 1) :
    Calls Tryd.prog 42 #[.slice ao l.length cap, .int .i64 a] w fun e w' => e = .returned (.tuple #[.int .i64 ((num (sub l a 2) : Int) % 16384), .int .i64 (a + 2), .int .i64 0]) ∧ w' = w := by
  obtain ⟨t0, t1, t2, t3⟩ := ht
  have hn64 := num_sub_64 l a 2 h (by decide)
  obtain ⟨b, off, rfl, hc⟩ := Sl_addr hs (by omega)
  have hcell := hc a (by omega)
  obtain ⟨c, hcc⟩ : ∃ c : Nat, c = (l[a]'(by omega)).toNat := ⟨_, rfl⟩
  rw [← hcc] at hcell hq
  have hc8 : c < 256 := by rw [hcc]; exact (l[a]'(by omega)).toNat_lt
  have hq' : (c : Int) / 64 = 1 := by omega
  have hm := and_16383 (num (sub l a 2) : Int) (by omega) (by omega)
  have HS := mkHid hs
  clear hc hs hcc hq
  go_enter Tryd.func42, Tryd.ntmps42
  go_wp2_with fail
  refine (place_yes _ _ _ _ _ (by omega) (by omega) (by omega)).mono ?_
  rintro e w' ⟨rfl, rfl⟩
  go_wp2_with fail
  refine (take_int _ l cap a _ _ HS.out hl (by omega) (by omega) (by omega) (by omega)).mono ?_
  rintro e w' ⟨rfl, rfl⟩
  go_wp2_with fail
  refine (room_any _ _ (by omega) (by omega)).mono ?_
  rintro e w' ⟨rfl, rfl⟩
  go_wp2
  go_ret3
  exact ⟨rfl, rfl⟩

set_option maxRecDepth 10000 in
theorem var_few_2 (ao : Option Addr) (l : List UInt8) (cap a : Nat) (w : World) (ht : Tb w) (hs : Sl w ao l) (hl : l.length ≤ 9223372036854775000) (h : a < l.length) (h' : l.length < a + 2) (hq : l[a].toNat / 64 = 1) :
    Calls Tryd.prog 42 #[.slice ao l.length cap, .int .i64 a] w fun e w' => e = .returned (.tuple #[.int .i64 0, .int .i64 0, .int .i64 10]) ∧ w' = w := by
  obtain ⟨t0, t1, t2, t3⟩ := ht
  obtain ⟨b, off, rfl, hc⟩ := Sl_addr hs (by omega)
  have hcell := hc a (by omega)
  obtain ⟨c, hcc⟩ : ∃ c : Nat, c = l[a].toNat := ⟨_, rfl⟩
  rw [← hcc] at hcell hq
  have hc8 : c < 256 := by rw [hcc]; exact l[a].toNat_lt
  have hq' : (c : Int) / 64 = 1 := by omega
  clear hc hs hcc hq
  go_enter Tryd.func42, Tryd.ntmps42
  go_wp2_with fail
  refine (place_yes _ _ _ _ _ (by omega) (by omega) (by omega)).mono ?_
  rintro e w' ⟨rfl, rfl⟩
  go_wp2
  go_ret3
  exact ⟨rfl, rfl⟩

set_option maxRecDepth 10000 in
theorem var_4 (ao : Option Addr) (l : List UInt8) (cap a : Nat) (w : World) (ht : Tb w) (hs : Sl w ao l) (hl : l.length ≤ 9223372036854775000) (h : a + 4 ≤ l.length) (hq : (l[a]'(by omega)).toNat / 64 = 2) :
    Calls Tryd.prog 42 #[.slice ao l.length cap, .int .i64 a] w fun e w' => e = .returned (.tuple #[.int .i64 ((num (sub l a 4) : Int) % 1073741824), .int .i64 (a + 4), .int .i64 0]) ∧ w' = w := by
  obtain ⟨t0, t1, t2, t3⟩ := ht
  have hn64 := num_sub_64 l a 4 h (by decide)
  obtain ⟨b, off, rfl, hc⟩ := Sl_addr hs (by omega)
  have hcell := hc a (by omega)
  obtain ⟨c, hcc⟩ : ∃ c : Nat, c = (l[a]'(by omega)).toNat := ⟨_, rfl⟩
  rw [← hcc] at hcell hq
  have hc8 : c < 256 := by rw [hcc]; exact (l[a]'(by omega)).toNat_lt
  have hq' : (c : Int) / 64 = 2 := by omega
  have hm := and_1073741823 (num (sub l a 4) : Int) (by omega) (by omega)
  have HS := mkHid hs
  clear hc hs hcc hq
  go_enter Tryd.func42, Tryd.ntmps42
  go_wp2_with fail
  refine (place_yes _ _ _ _ _ (by omega) (by omega) (by omega)).mono ?_
  rintro e w' ⟨rfl, rfl⟩
  go_wp2_with fail
  refine (take_int _ l cap a _ _ HS.out hl (by omega) (by omega) (by omega) (by omega)).mono ?_
  rintro e w' ⟨rfl, rfl⟩
  go_wp2_with fail
  refine (room_any _ _ (by omega) (by omega)).mono ?_
  rintro e w' ⟨rfl, rfl⟩
  go_wp2
  go_ret3
  exact ⟨rfl, rfl⟩

set_option maxRecDepth 10000 in
theorem var_few_4 (ao : Option Addr) (l : List UInt8) (cap a : Nat) (w : World) (ht : Tb w) (hs : Sl w ao l) (hl : l.length ≤ 9223372036854775000) (h : a < l.length) (h' : l.length < a + 4) (hq : l[a].toNat / 64 = 2) :
    Calls Tryd.prog 42 #[.slice ao l.length cap, .int .i64 a] w fun e w' => e = .returned (.tuple #[.int .i64 0, .int .i64 0, .int .i64 10]) ∧ w' = w := by
  obtain ⟨t0, t1, t2, t3⟩ := ht
  obtain ⟨b, off, rfl, hc⟩ := Sl_addr hs (by omega)
  have hcell := hc a (by omega)
  obtain ⟨c, hcc⟩ : ∃ c : Nat, c = l[a].toNat := ⟨_, rfl⟩
  rw [← hcc] at hcell hq
  have hc8 : c < 256 := by rw [hcc]; exact l[a].toNat_lt
  have hq' : (c : Int) / 64 = 2 := by omega
  clear hc hs hcc hq
  go_enter Tryd.func42, Tryd.ntmps42
  go_wp2_with fail
  refine (place_yes _ _ _ _ _ (by omega) (by omega) (by omega)).mono ?_
  rintro e w' ⟨rfl, rfl⟩
  go_wp2
  go_ret3
  exact ⟨rfl, rfl⟩

set_option maxRecDepth 10000 in
theorem var_8 (ao : Option Addr) (l : List UInt8) (cap a : Nat) (w : World) (ht : Tb w) (hs : Sl w ao l) (hl : l.length ≤ 9223372036854775000) (h : a + 8 ≤ l.length) (hq : (l[a]'(by omega)).toNat / 64 = 3) :
    Calls Tryd.prog 42 #[.slice ao l.length cap, .int .i64 a] w fun e w' => e = .returned (.tuple #[.int .i64 ((num (sub l a 8) : Int) % 4611686018427387904), .int .i64 (a + 8), .int .i64 0]) ∧ w' = w := by
  obtain ⟨t0, t1, t2, t3⟩ := ht
  have hn64 := num_sub_64 l a 8 h (by decide)
  obtain ⟨b, off, rfl, hc⟩ := Sl_addr hs (by omega)
  have hcell := hc a (by omega)
  obtain ⟨c, hcc⟩ : ∃ c : Nat, c = (l[a]'(by omega)).toNat := ⟨_, rfl⟩
  rw [← hcc] at hcell hq
  have hc8 : c < 256 := by rw [hcc]; exact (l[a]'(by omega)).toNat_lt
  have hq' : (c : Int) / 64 = 3 := by omega
  have hm := and_4611686018427387903 (num (sub l a 8) : Int) (by omega) (by omega)
  have HS := mkHid hs
  clear hc hs hcc hq
  go_enter Tryd.func42, Tryd.ntmps42
  go_wp2_with fail
  refine (place_yes _ _ _ _ _ (by omega) (by omega) (by omega)).mono ?_
  rintro e w' ⟨rfl, rfl⟩
  go_wp2_with fail
  refine (take_int _ l cap a _ _ HS.out hl (by omega) (by omega) (by omega) (by omega)).mono ?_
  rintro e w' ⟨rfl, rfl⟩
  go_wp2_with fail
  refine (room_any _ _ (by omega) (by omega)).mono ?_
  rintro e w' ⟨rfl, rfl⟩
  go_wp2
  go_ret3
  exact ⟨rfl, rfl⟩

set_option maxRecDepth 10000 in
theorem var_few_8 (ao : Option Addr) (l : List UInt8) (cap a : Nat) (w : World) (ht : Tb w) (hs : Sl w ao l) (hl : l.length ≤ 9223372036854775000) (h : a < l.length) (h' : l.length < a + 8) (hq : l[a].toNat / 64 = 3) :
    Calls Tryd.prog 42 #[.slice ao l.length cap, .int .i64 a] w fun e w' => e = .returned (.tuple #[.int .i64 0, .int .i64 0, .int .i64 10]) ∧ w' = w := by
  obtain ⟨t0, t1, t2, t3⟩ := ht
  obtain ⟨b, off, rfl, hc⟩ := Sl_addr hs (by omega)
  have hcell := hc a (by omega)
  obtain ⟨c, hcc⟩ : ∃ c : Nat, c = l[a].toNat := ⟨_, rfl⟩
  rw [← hcc] at hcell hq
  have hc8 : c < 256 := by rw [hcc]; exact l[a].toNat_lt
  have hq' : (c : Int) / 64 = 3 := by omega
  clear hc hs hcc hq
  go_enter Tryd.func42, Tryd.ntmps42
  go_wp2_with fail
  refine (place_yes _ _ _ _ _ (by omega) (by omega) (by omega)).mono ?_
  rintro e w' ⟨rfl, rfl⟩
  go_wp2
  go_ret3
  exact ⟨rfl, rfl⟩
end Go.Proofs.YtcppnellgkbndaaDoor
