/- What octet.take and octet.isPlace answer, for every input: contracts. -/
import Derived.Test.YtcppnellgkbndaaDoorNum
import Derived.Test.YtcppnellgkbndaaDoorWide
namespace Go.Proofs.YtcppnellgkbndaaDoor
open Go.ChangeShapes Go.WideShapes Go.ChangeAt Go.RowKit
set_option linter.unusedVariables false

theorem ret_u64 {a b : Int} (h : a = b) : Ending.returned (.int .u64 a) = .returned (.int .u64 b) := by rw [h]

theorem place_yes (ao : Option Addr) (len cap : Nat) (a : Int) (w : World) (h0 : 0 ≤ a) (h1 : a ≤ len) (hl : len ≤ 9223372036854775807) :
    Calls Tryd.prog 51 #[.slice ao len cap, .int .i64 a] w fun e w' => e = .returned (.bool true) ∧ w' = w := by
  go_enter Tryd.func51, Tryd.ntmps51
  go_wp2
  go_ret
  exact ⟨rfl, rfl⟩

theorem place_no (ao : Option Addr) (len cap : Nat) (a : Int) (w : World) (h : a < 0 ∨ len < a) (hl : len ≤ 9223372036854775807) :
    Calls Tryd.prog 51 #[.slice ao len cap, .int .i64 a] w fun e w' => e = .returned (.bool false) ∧ w' = w := by
  rcases h with h | h
  · go_enter Tryd.func51, Tryd.ntmps51
    go_wp2
    go_ret
    exact ⟨rfl, rfl⟩
  · have h0 : 0 ≤ a := by omega
    have h1 : decide (a ≤ (len : Int)) = false := by simp; omega
    go_enter Tryd.func51, Tryd.ntmps51
    go_wp2
    go_ret
    exact ⟨by simp, rfl⟩

set_option maxRecDepth 10000 in
theorem take_any (ao : Option Addr) (l : List UInt8) (cap a n : Nat) (w : World) (hs : Sl w ao l) (hl : l.length ≤ 9223372036854775000) (h : a + n ≤ l.length) (hn1 : 1 ≤ n) (hn8 : n ≤ 8) :
    Calls Tryd.prog 52 #[.slice ao l.length cap, .int .i64 a, .int .i64 n] w fun e w' => e = .returned (.int .u64 (num (sub l a n))) ∧ w' = w := by
  obtain ⟨b, off, rfl, hc⟩ := Sl_addr hs (by omega)
  have HC := mkHid hc
  clear hc hs
  go_enter Tryd.func52, Tryd.ntmps52
  go_wp2
  go_loop [7, 10] (fun v i => ∃ k : Nat, k ≤ n ∧ i = .int .i64 k ∧ v = .int .u64 (num (sub l a k))) (fun _ i => n - (intOf i).toNat)
  case atStart => exact ⟨0, Nat.zero_le _, rfl, by simp [sub, num]⟩
  case round =>
    obtain ⟨k, hk, rfl, rfl⟩ := hrel
    by_cases hlt : k < n
    · have hcell := HC.out (a + k) (by omega)
      have hst := num_step l a k (by omega)
      have hx := num_sub_56 l a k (by omega) (by omega)
      obtain ⟨c, hcc⟩ : ∃ c : Nat, c = l[a + k].toNat := ⟨_, rfl⟩
      have hc8 : c < 256 := by rw [hcc]; exact l[a + k].toNat_lt
      rw [← hcc] at hcell hst
      obtain ⟨x, hxx⟩ : ∃ x : Nat, x = num (sub l a k) := ⟨_, rfl⟩
      rw [← hxx] at hst hx ⊢
      have HST := mkHid hst
      clear hst hcc hxx
      have ho := or_byte x c (by omega) (by omega) (by omega) (by omega)
      go_wp2
      go_round
      case rel => exact ⟨k + 1, by omega, by go_num, by rw [HST.out]; go_num⟩
      case measure => simp [intOf]; omega
    · go_wp2
      go_ret
      have : k = n := by omega
      subst this
      exact ⟨rfl, rfl⟩

theorem take_int (ao : Option Addr) (l : List UInt8) (cap : Nat) (a n : Int) (w : World) (hs : Sl w ao l) (hl : l.length ≤ 9223372036854775000) (h0 : 0 ≤ a) (h : a + n ≤ l.length) (hn1 : 1 ≤ n) (hn8 : n ≤ 8) :
    Calls Tryd.prog 52 #[.slice ao l.length cap, .int .i64 a, .int .i64 n] w fun e w' => e = .returned (.int .u64 (num (sub l a.toNat n.toNat))) ∧ w' = w := by
  obtain ⟨a, rfl⟩ := Int.eq_ofNat_of_zero_le h0
  obtain ⟨n, rfl⟩ := Int.eq_ofNat_of_zero_le (show 0 ≤ n by omega)
  exact take_any ao l cap a n w hs hl (by omega) (by omega) (by omega)
end Go.Proofs.YtcppnellgkbndaaDoor
