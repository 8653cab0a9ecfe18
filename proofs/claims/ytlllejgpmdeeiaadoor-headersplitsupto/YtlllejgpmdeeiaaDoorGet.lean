/- What octet.Get and the reference's Number and Get answer, for every input: contracts. -/
import Derived.Test.YtlllejgpmdeeiaaDoorTake
namespace Go.Proofs.YtlllejgpmdeeiaaDoor
open Go.ChangeShapes Go.WideShapes Go.ChangeAt Go.RowKit
set_option linter.unusedVariables false

abbrev gOk (len a n : Int) : Prop := 1 ≤ n ∧ n ≤ 8 ∧ 0 ≤ a ∧ a + n ≤ len
abbrev gArg (len a n : Int) : Prop := n < 1 ∨ 8 < n ∨ a < 0 ∨ len < a
def gV (l : List UInt8) (a n : Int) : Int := if gOk l.length a n then (num (sub l a.toNat n.toNat) : Int) else 0
def gN (l : List UInt8) (a n : Int) : Int := if gOk l.length a n then a + n else 0
def gE (l : List UInt8) (a n : Int) : Int := if gArg l.length a n then 2 else if gOk l.length a n then 0 else 10

set_option maxRecDepth 10000 in
theorem number_any (ao : Option Addr) (l : List UInt8) (len cap : Nat) (w : World) (hs : Sl w ao l) (he : l.length = len) (h1 : 1 ≤ len) (h8 : len ≤ 8) :
    Calls Tryd.prog 46 #[.slice ao len cap] w fun e w' => e = .returned (.int .u64 (num l)) ∧ w' = w := by
  obtain ⟨b, off, rfl, hc⟩ := Sl_addr hs (by omega)
  have HC := mkHid hc
  have HE := mkHid he
  clear hc hs he
  go_enter Tryd.func46, Tryd.ntmps46
  go_wp2
  go_loop [3, 4] (fun v i => ∃ k : Nat, k ≤ len ∧ i = .int .i64 k ∧ v = .int .u64 (num (sub l 0 k))) (fun _ i => len - (intOf i).toNat)
  case atStart => exact ⟨0, Nat.zero_le _, rfl, by simp [sub, num]⟩
  case round =>
    obtain ⟨k, hk, rfl, rfl⟩ := hrel
    by_cases hlt : k < len
    · have hkl : 0 + k < l.length := by have := HE.out; omega
      have hcell := HC.out k (by omega)
      have hst := num_step l 0 k hkl
      have hx := num_sub_56 l 0 k (by omega) (by omega)
      simp only [Nat.zero_add] at hst hkl
      obtain ⟨c, hcc⟩ : ∃ c : Nat, c = l[k].toNat := ⟨_, rfl⟩
      have hc8 : c < 256 := by rw [hcc]; exact l[k].toNat_lt
      rw [← hcc] at hcell hst
      obtain ⟨x, hxx⟩ : ∃ x : Nat, x = num (sub l 0 k) := ⟨_, rfl⟩
      rw [← hxx] at hst hx ⊢
      have HST := mkHid hst
      clear hst hcc hxx hkl
      go_wp2
      go_round
      case rel => exact ⟨k + 1, by omega, by go_num, by rw [HST.out]; go_num⟩
      case measure => simp [intOf]; omega
    · go_wp2
      go_ret
      have hkl : k = l.length := by have := HE.out; omega
      subst hkl
      exact ⟨ret_u64 (by simp [sub]), rfl⟩

theorem ret_3u {a a' b b' c c' : Int} (h : a = a') (h' : b = b') (h'' : c = c') : Ending.returned (.tuple #[.int .u64 a, .int .i64 b, .int .i64 c]) = .returned (.tuple #[.int .u64 a', .int .i64 b', .int .i64 c']) := by rw [h, h', h'']

theorem gcases (len a n : Int) : (gOk len a n ∧ ¬ gArg len a n) ∨ (¬ gOk len a n ∧ ¬ gArg len a n ∧ len < a + n) ∨ (gArg len a n ∧ ¬ gOk len a n) := by
  unfold gOk gArg; omega

set_option maxRecDepth 10000 in
theorem get_any (ao : Option Addr) (l : List UInt8) (cap : Nat) (a n : Int) (w : World) (hs : Sl w ao l) (hl : l.length ≤ 9223372036854775000) :
    Calls Tryd.prog 32 #[.slice ao l.length cap, .int .i64 a, .int .i64 n] w fun e w' => e = .returned (.tuple #[.int .u64 (gV l a n), .int .i64 (gN l a n), .int .i64 (gE l a n)]) ∧ w' = w := by
  have HS := mkHid hs
  clear hs
  rcases gcases l.length a n with ⟨hok, harg⟩ | ⟨hok, harg, hfew⟩ | ⟨harg, hok⟩
  · have V : Hid (gV l a n = num (sub l a.toNat n.toNat)) := if_pos hok
    have N : Hid (gN l a n = a + n) := if_pos hok
    have E : Hid (gE l a n = 0) := (if_neg harg).trans (if_pos hok)
    obtain ⟨h1, h2, h3, h4⟩ := hok
    clear harg
    go_enter Tryd.func32, Tryd.ntmps32
    go_wp2_with fail
    refine (place_yes _ _ _ _ _ (by omega) (by omega) (by omega)).mono ?_
    rintro e w' ⟨rfl, rfl⟩
    go_wp2_with fail
    refine (take_int _ l cap _ _ _ HS.out hl (by omega) (by omega) (by omega) (by omega)).mono ?_
    rintro e w' ⟨rfl, rfl⟩
    go_wp2
    go_ret3
    exact ⟨ret_3u V.out.symm N.out.symm E.out.symm, rfl⟩
  · have V : Hid (gV l a n = 0) := if_neg hok
    have N : Hid (gN l a n = 0) := if_neg hok
    have E : Hid (gE l a n = 10) := (if_neg harg).trans (if_neg hok)
    have g1 : 1 ≤ n := by unfold gArg at harg; omega
    have g2 : n ≤ 8 := by unfold gArg at harg; omega
    have g3 : 0 ≤ a := by unfold gArg at harg; omega
    have g4 : a ≤ l.length := by unfold gArg at harg; omega
    clear harg hok
    go_enter Tryd.func32, Tryd.ntmps32
    go_wp2_with fail
    refine (place_yes _ _ _ _ _ (by omega) (by omega) (by omega)).mono ?_
    rintro e w' ⟨rfl, rfl⟩
    go_wp2
    go_ret3
    exact ⟨ret_3u V.out.symm N.out.symm E.out.symm, rfl⟩
  · have V : Hid (gV l a n = 0) := if_neg hok
    have N : Hid (gN l a n = 0) := if_neg hok
    have E : Hid (gE l a n = 2) := if_pos harg
    have hcs : n < 1 ∨ (1 ≤ n ∧ 8 < n) ∨ (1 ≤ n ∧ n ≤ 8 ∧ (a < 0 ∨ (l.length : Int) < a)) := by unfold gArg at harg; omega
    clear harg hok
    rcases hcs with h | ⟨h, h'⟩ | ⟨h, h', h''⟩
    · go_enter Tryd.func32, Tryd.ntmps32
      go_wp2
      go_ret3
      exact ⟨ret_3u V.out.symm N.out.symm E.out.symm, rfl⟩
    · go_enter Tryd.func32, Tryd.ntmps32
      go_wp2
      go_ret3
      exact ⟨ret_3u V.out.symm N.out.symm E.out.symm, rfl⟩
    · go_enter Tryd.func32, Tryd.ntmps32
      go_wp2_with fail
      refine (place_no _ _ _ _ _ h'' (by omega)).mono ?_
      rintro e w' ⟨rfl, rfl⟩
      clear h''
      go_wp2
      go_ret3
      exact ⟨ret_3u V.out.symm N.out.symm E.out.symm, rfl⟩

/-- A piece of a slice. -/
theorem Sl_sub {w : World} {b off : Nat} {l : List UInt8} (a n : Nat) (hc : ∀ j (hj : j < l.length), w.cell? ⟨b, off + j, none⟩ = some (.int .u8 (l[j].toNat))) (h : a + n ≤ l.length) : Sl w (some ⟨b, off + a, none⟩) (sub l a n) := by
  intro j hj
  rw [sub_length l a n h] at hj
  refine ⟨b, off + a, rfl, ?_⟩
  have := hc (a + j) (by omega)
  rw [Nat.add_assoc, this]
  simp [sub]

set_option maxRecDepth 10000 in
theorem rget_any (ao : Option Addr) (l : List UInt8) (cap : Nat) (a n : Int) (w : World) (hs : Sl w ao l) (hl : l.length ≤ 9223372036854775000) (hcap : l.length ≤ cap) (hcm : cap ≤ 9223372036854775807) :
    Calls Tryd.prog 44 #[.slice ao l.length cap, .int .i64 a, .int .i64 n] w fun e w' => e = .returned (.tuple #[.int .u64 (gV l a n), .int .i64 (gN l a n), .int .i64 (gE l a n)]) ∧ w' = w := by
  rcases gcases l.length a n with ⟨hok, harg⟩ | ⟨hok, harg, hfew⟩ | ⟨harg, hok⟩
  · have V : Hid (gV l a n = num (sub l a.toNat n.toNat)) := if_pos hok
    have N : Hid (gN l a n = a + n) := if_pos hok
    have E : Hid (gE l a n = 0) := (if_neg harg).trans (if_pos hok)
    obtain ⟨h1, h2, h3, h4⟩ := hok
    clear harg
    obtain ⟨A, rfl⟩ := Int.eq_ofNat_of_zero_le h3
    obtain ⟨M, rfl⟩ := Int.eq_ofNat_of_zero_le (show 0 ≤ n by omega)
    obtain ⟨b, off, rfl, hc⟩ := Sl_addr hs (by omega)
    have HP := mkHid (Sl_sub A M hc (by omega))
    have HL := mkHid (sub_length l A M (by omega))
    clear hc hs
    go_enter Tryd.func44, Tryd.ntmps44
    go_wp2_with fail
    refine (number_any _ (sub l A M) M _ _ HP.out HL.out (by omega) (by omega)).mono ?_
    rintro e w' ⟨rfl, rfl⟩
    go_wp2
    go_ret3
    exact ⟨ret_3u V.out.symm N.out.symm E.out.symm, rfl⟩
  · have V : Hid (gV l a n = 0) := if_neg hok
    have N : Hid (gN l a n = 0) := if_neg hok
    have E : Hid (gE l a n = 10) := (if_neg harg).trans (if_neg hok)
    have g1 : 1 ≤ n := by unfold gArg at harg; omega
    have g2 : n ≤ 8 := by unfold gArg at harg; omega
    have g3 : 0 ≤ a := by unfold gArg at harg; omega
    have g4 : a ≤ l.length := by unfold gArg at harg; omega
    clear harg hok hs
    go_enter Tryd.func44, Tryd.ntmps44
    go_wp2
    go_ret3
    exact ⟨ret_3u V.out.symm N.out.symm E.out.symm, rfl⟩
  · have V : Hid (gV l a n = 0) := if_neg hok
    have N : Hid (gN l a n = 0) := if_neg hok
    have E : Hid (gE l a n = 2) := if_pos harg
    have hcs : n < 1 ∨ (1 ≤ n ∧ 8 < n) ∨ (1 ≤ n ∧ n ≤ 8 ∧ a < 0) ∨ (1 ≤ n ∧ n ≤ 8 ∧ 0 ≤ a ∧ (l.length : Int) < a) := by unfold gArg at harg; omega
    clear harg hok hs
    rcases hcs with h | ⟨h, h'⟩ | ⟨h, h', h''⟩ | ⟨h, h', h'', h'''⟩
    all_goals
      go_enter Tryd.func44, Tryd.ntmps44
      go_wp2
      go_ret3
      exact ⟨ret_3u V.out.symm N.out.symm E.out.symm, rfl⟩
end Go.Proofs.YtlllejgpmdeeiaaDoor
