/- What octet.Get and the reference's Number and Get answer, for every input: contracts. -/
import Derived.Test.YtcppnellgkbndaaDoorTake
namespace Go.Proofs.YtcppnellgkbndaaDoor
open Go.ChangeShapes Go.WideShapes Go.ChangeAt Go.RowKit
set_option linter.unusedVariables false

abbrev gOk (len a n : Int) : Prop := 1 ≤ n ∧ n ≤ 8 ∧ 0 ≤ a ∧ a + n ≤ len
abbrev gArg (len a n : Int) : Prop := n < 1 ∨ 8 < n ∨ a < 0 ∨ len < a
def gV (l : List UInt8) (a n : Int) : Int := if gOk l.length a n then (num (sub l a.toNat n.toNat) : Int) else 0
def gN (l : List UInt8) (a n : Int) : Int := if gOk l.length a n then a + n else 0
def gE (l : List UInt8) (a n : Int) : Int := if gArg l.length a n then 2 else if gOk l.length a n then 0 else 10

set_option maxRecDepth 10000 in
theorem number_any (ao : Option Addr) (l : List UInt8) (len cap : Nat) (w : World) (hs : Sl w ao l) (he : l.length = len) (h1 : 1 ≤ len) (h8 : len ≤ 8) :
    Calls Tryd.prog 45 #[.slice ao len cap] w fun e w' => e = .returned (.int .u64 (num l)) ∧ w' = w := by
  obtain ⟨b, off, rfl, hc⟩ := Sl_addr hs (by omega)
  have HC := mkHid hc
  have HE := mkHid he
  clear hc hs he
  go_enter Tryd.func45, Tryd.ntmps45
  go_wp2
  go_loop [3, 4] (fun v i => ∃ k : Nat, k ≤ len ∧ i = .int .i64 k ∧ v = .int .u64 (num (sub l 0 k))) (fun _ i => len - (intOf i).toNat)
  case atStart => exact ⟨0, Nat.zero_le _, rfl, by simp [sub, num]⟩
  case round =>
    obtain ⟨k, hk, rfl, rfl⟩ := hrel
    by_cases hlt : k < len
    · have hkl : 0 + k < l.length := by have := HE.out; omega
      have hcell := HC.out k (by omega)
      have hst := num_step l 0 k hkl
      have hx := num_sub_56 l 0 k (by omega) (by omega)
      simp only [Nat.zero_add] at hst hkl
      obtain ⟨c, hcc⟩ : ∃ c : Nat, c = l[k].toNat := ⟨_, rfl⟩
      have hc8 : c < 256 := by rw [hcc]; exact l[k].toNat_lt
      rw [← hcc] at hcell hst
      obtain ⟨x, hxx⟩ : ∃ x : Nat, x = num (sub l 0 k) := ⟨_, rfl⟩
      rw [← hxx] at hst hx ⊢
      have HST := mkHid hst
      clear hst hcc hxx hkl
      go_wp2
      go_round
      case rel => exact ⟨k + 1, by omega, by go_num, by rw [HST.out]; go_num⟩
      case measure => simp [intOf]; omega
    · go_wp2
      go_ret
      have hkl : k = l.length := by have := HE.out; omega
      subst hkl
      exact ⟨ret_u64 (by simp [sub]), rfl⟩

theorem ret_3u {a a' b b' c c' : Int} (h : a = a') (h' : b = b') (h'' : c = c') : Ending.returned (.tuple #[.int .u64 a, .int .i64 b, .int .i64 c]) = .returned (.tuple #[.int .u64 a', .int .i64 b', .int .i64 c']) := by rw [h, h', h'']

theorem gcases (len a n : Int) : (gOk len a n ∧ ¬ gArg len a n) ∨ (¬ gOk len a n ∧ ¬ gArg len a n ∧ len < a + n) ∨ (gArg len a n ∧ ¬ gOk len a n) := by
  unfold gOk gArg; omega

/-- A piece of a slice. -/
theorem Sl_sub {w : World} {b off : Nat} {l : List UInt8} (a n : Nat) (hc : ∀ j (hj : j < l.length), w.cell? ⟨b, off + j, none⟩ = some (.int .u8 (l[j].toNat))) (h : a + n ≤ l.length) : Sl w (some ⟨b, off + a, none⟩) (sub l a n) := by
  intro j hj
  rw [sub_length l a n h] at hj
  refine ⟨b, off + a, rfl, ?_⟩
  have := hc (a + j) (by omega)
  rw [Nat.add_assoc, this]
  simp [sub]

end Go.Proofs.YtcppnellgkbndaaDoor
