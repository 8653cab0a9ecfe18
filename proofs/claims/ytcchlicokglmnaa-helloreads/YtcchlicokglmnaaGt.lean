/- What octet.take and octet.isPlace answer, for every input: contracts. -/
import Derived.Test.YtcchlicokglmnaaNum
namespace Go.Proofs.Ytcchlicokglmnaa
open Go.ChangeShapes Go.WideShapes Go.ChangeAt Go.RowKit
set_option linter.unusedVariables false

theorem ret_u64 {a b : Int} (h : a = b) : Ending.returned (.int .u64 a) = .returned (.int .u64 b) := by rw [h]

theorem place_yes (ao : Option Addr) (len cap : Nat) (a : Int) (w : World) (h0 : 0 ≤ a) (h1 : a ≤ len) (hl : len ≤ 9223372036854775807) :
    Calls Try.prog 37 #[.slice ao len cap, .int .i64 a] w fun e w' => e = .returned (.bool true) ∧ w' = w := by
  go_enter Try.func37, Try.ntmps37
  go_wp2
  go_ret
  exact ⟨rfl, rfl⟩

theorem place_no (ao : Option Addr) (len cap : Nat) (a : Int) (w : World) (h : a < 0 ∨ len < a) (hl : len ≤ 9223372036854775807) :
    Calls Try.prog 37 #[.slice ao len cap, .int .i64 a] w fun e w' => e = .returned (.bool false) ∧ w' = w := by
  rcases h with h | h
  · go_enter Try.func37, Try.ntmps37
    go_wp2
    go_ret
    exact ⟨rfl, rfl⟩
  · have h0 : 0 ≤ a := by omega
    have h1 : decide (a ≤ (len : Int)) = false := by simp; omega
    go_enter Try.func37, Try.ntmps37
    go_wp2
    go_ret
    exact ⟨by simp, rfl⟩

set_option maxRecDepth 10000 in
theorem take_any (ao : Option Addr) (l : List UInt8) (cap a n : Nat) (w : World) (hs : Sl w ao l) (hl : l.length ≤ 9223372036854775000) (h : a + n ≤ l.length) (hn1 : 1 ≤ n) (hn8 : n ≤ 8) :
    Calls Try.prog 38 #[.slice ao l.length cap, .int .i64 a, .int .i64 n] w fun e w' => e = .returned (.int .u64 (num (sub l a n))) ∧ w' = w := by
  obtain ⟨b, off, rfl, hc⟩ := Sl_addr hs (by omega)
  have HC := mkHid hc
  clear hc hs
  go_enter Try.func38, Try.ntmps38
  go_wp2
  go_loop [7, 10] (fun v i => ∃ k : Nat, k ≤ n ∧ i = .int .i64 k ∧ v = .int .u64 (num (sub l a k))) (fun _ i => n - (intOf i).toNat)
  case atStart => exact ⟨0, Nat.zero_le _, rfl, by simp [sub, num]⟩
  case round =>
    obtain ⟨k, hk, rfl, rfl⟩ := hrel
    by_cases hlt : k < n
    · have hcell := HC.out (a + k) (by omega)
      have hst := num_step l a k (by omega)
      have hx := num_sub_56 l a k (by omega) (by omega)
      obtain ⟨c, hcc⟩ : ∃ c : Nat, c = l[a + k].toNat := ⟨_, rfl⟩
      have hc8 : c < 256 := by rw [hcc]; exact l[a + k].toNat_lt
      rw [← hcc] at hcell hst
      obtain ⟨x, hxx⟩ : ∃ x : Nat, x = num (sub l a k) := ⟨_, rfl⟩
      rw [← hxx] at hst hx ⊢
      have HST := mkHid hst
      clear hst hcc hxx
      have ho := or_byte x c (by omega) (by omega) (by omega) (by omega)
      go_wp2
      go_round
      case rel => exact ⟨k + 1, by omega, by go_num, by rw [HST.out]; go_num⟩
      case measure => simp [intOf]; omega
    · go_wp2
      go_ret
      have : k = n := by omega
      subst this
      exact ⟨rfl, rfl⟩

theorem take_int (ao : Option Addr) (l : List UInt8) (cap : Nat) (a n : Int) (w : World) (hs : Sl w ao l) (hl : l.length ≤ 9223372036854775000) (h0 : 0 ≤ a) (h : a + n ≤ l.length) (hn1 : 1 ≤ n) (hn8 : n ≤ 8) :
    Calls Try.prog 38 #[.slice ao l.length cap, .int .i64 a, .int .i64 n] w fun e w' => e = .returned (.int .u64 (num (sub l a.toNat n.toNat))) ∧ w' = w := by
  obtain ⟨a, rfl⟩ := Int.eq_ofNat_of_zero_le h0
  obtain ⟨n, rfl⟩ := Int.eq_ofNat_of_zero_le (show 0 ≤ n by omega)
  exact take_any ao l cap a n w hs hl (by omega) (by omega) (by omega)

/-- What Get answers. -/
def getV (l : List UInt8) (a : Int) (n : Nat) : Int := if 0 ≤ a ∧ a + n ≤ l.length then (num (sub l a.toNat n) : Nat) else 0
def getN (l : List UInt8) (a : Int) (n : Nat) : Int := if 0 ≤ a ∧ a + n ≤ l.length then a + n else 0
def getE (l : List UInt8) (a : Int) (n : Nat) : Int := if a < 0 ∨ (l.length : Int) < a then 2 else if a + n ≤ l.length then 0 else 10
set_option maxRecDepth 10000 in
theorem get_c (ao : Option Addr) (l : List UInt8) (cap : Nat) (a : Int) (n : Nat) (w : World) (hs : Sl w ao l) (hl : l.length ≤ 9223372036854775000) (hn1 : 1 ≤ n) (hn8 : n ≤ 8) :
    Calls Try.prog 36 #[.slice ao l.length cap, .int .i64 a, .int .i64 n] w fun e w' => e = .returned (.tuple #[.int .u64 (getV l a n), .int .i64 (getN l a n), .int .i64 (getE l a n)]) ∧ w' = w := by
  have g1 : ¬ (n : Int) < 1 := by omega
  have g1' : decide ((n : Int) < 1) = false := decide_eq_false g1
  have g2 : ¬ (8 : Int) < (n : Int) := by omega
  have g2' : decide ((8 : Int) < (n : Int)) = false := decide_eq_false g2
  by_cases ha : a < 0 ∨ (l.length : Int) < a
  · have HF : Hid (getV l a n = 0 ∧ getN l a n = 0 ∧ getE l a n = 2) := by
      have : ¬ (0 ≤ a ∧ a + n ≤ l.length) := by omega
      exact ⟨if_neg this, if_neg this, if_pos ha⟩
    have HP := mkHid (place_no ao l.length cap a w ha (by omega))
    clear ha
    go_enter Try.func36, Try.ntmps36
    go_wp2_with fail
    refine HP.out.mono ?_
    rintro e w' ⟨rfl, rfl⟩
    go_wp2_with fail
    refine bodyPost_ret (results_tmp3 (fn := Try.f36) (t := 6) (u := 7) (v := 8) rfl _ _ _) rfl ?_
    rw [HF.out.1, HF.out.2.1, HF.out.2.2]
    exact ⟨rfl, rfl⟩
  · have ha0 : 0 ≤ a := by omega
    have ha1 : a ≤ (l.length : Int) := by omega
    have HP := mkHid (place_yes ao l.length cap a w ha0 ha1 (by omega))
    by_cases hb : a + n ≤ l.length
    · have HF : Hid (getV l a n = (num (sub l a.toNat n) : Nat) ∧ getN l a n = a + n ∧ getE l a n = 0) := ⟨if_pos ⟨ha0, hb⟩, if_pos ⟨ha0, hb⟩, (if_neg ha).trans (if_pos hb)⟩
      have HT := mkHid (take_int ao l cap a n w hs hl ha0 hb (by omega) (by omega))
      have ws : IntKind.i64.wrap ((l.length : Int) - a) = (l.length : Int) - a := by rw [IntKind.wrap_i64]; omega
      have wa : IntKind.i64.wrap (a + n) = a + n := by rw [IntKind.wrap_i64]; omega
      have c1 : ¬ (l.length : Int) - a < (n : Int) := by omega
      have c1' : decide ((l.length : Int) - a < (n : Int)) = false := decide_eq_false c1
      have et : ((n : Int)).toNat = n := by omega
      rw [et] at HT
      clear ha hb hs et
      go_enter Try.func36, Try.ntmps36
      go_wp2_with fail
      refine HP.out.mono ?_
      rintro e w' ⟨rfl, rfl⟩
      go_wp2_with fail
      refine HT.out.mono ?_
      rintro e w' ⟨rfl, rfl⟩
      go_wp2_with fail
      refine bodyPost_ret (results_tmp3 (fn := Try.f36) (t := 6) (u := 7) (v := 8) rfl _ _ _) rfl ?_
      rw [HF.out.1, HF.out.2.1, HF.out.2.2]
      exact ⟨rfl, rfl⟩
    · have HF : Hid (getV l a n = 0 ∧ getN l a n = 0 ∧ getE l a n = 10) := by
        have : ¬ (0 ≤ a ∧ a + n ≤ l.length) := by omega
        exact ⟨if_neg this, if_neg this, (if_neg ha).trans (if_neg hb)⟩
      have ws : IntKind.i64.wrap ((l.length : Int) - a) = (l.length : Int) - a := by rw [IntKind.wrap_i64]; omega
      have c1 : (l.length : Int) - a < (n : Int) := by omega
      have c1' : decide ((l.length : Int) - a < (n : Int)) = true := decide_eq_true c1
      clear ha hb hs
      go_enter Try.func36, Try.ntmps36
      go_wp2_with fail
      refine HP.out.mono ?_
      rintro e w' ⟨rfl, rfl⟩
      go_wp2_with fail
      refine bodyPost_ret (results_tmp3 (fn := Try.f36) (t := 6) (u := 7) (v := 8) rfl _ _ _) rfl ?_
      rw [HF.out.1, HF.out.2.1, HF.out.2.2]
      exact ⟨rfl, rfl⟩
end Go.Proofs.Ytcchlicokglmnaa
