/- frame.Eliciting, frame.Allowed and the reference's, for every kind and packet: contracts. -/
import Derived.Test.YtmgknknjlpdciaaDoorWhy
namespace Go.Proofs.YtmgknknjlpdciaaDoor
open Go.RowKit
set_option linter.unusedVariables false

def knownK (k : Int) : Bool := (decide (0 ≤ k) && decide (k ≤ 30)) || k == 48 || k == 49
def ofH (k : Int) : Bool := k == 0 || k == 1 || k == 2 || k == 3 || k == 6 || k == 28
def aftH (k : Int) : Bool := k == 2 || k == 3 || k == 6 || k == 7 || k == 27 || k == 25 || k == 30
def noEl (k : Int) : Bool := k == 0 || k == 2 || k == 3 || k == 28 || k == 29
theorem rb {a b : Bool} (h : a = b) : Ending.returned (.bool a) = .returned (.bool b) := by rw [h]

theorem isKind_any (k : Int) (w : World) : Calls Tryd.prog 23 #[.int .i64 k] w fun e w' => e = .returned (.bool (knownK k)) ∧ w' = w := by
  go_enter Tryd.func23, Tryd.ntmps23
  go_wp2
  all_goals go_ret
  all_goals exact ⟨rb (by unfold knownK; rw [Bool.eq_iff_iff]; simp; omega), rfl⟩
theorem known_any (k : Int) (w : World) : Calls Tryd.prog 29 #[.int .i64 k] w fun e w' => e = .returned (.bool (knownK k)) ∧ w' = w := by
  go_enter Tryd.func29, Tryd.ntmps29
  go_wp2
  all_goals go_ret
  all_goals exact ⟨rb (by unfold knownK; rw [Bool.eq_iff_iff]; simp; omega), rfl⟩
theorem isOf_any (k : Int) (w : World) : Calls Tryd.prog 43 #[.int .i64 k] w fun e w' => e = .returned (.bool (ofH k)) ∧ w' = w := by
  go_enter Tryd.func43, Tryd.ntmps43
  go_wp2
  all_goals go_ret
  all_goals exact ⟨by simp_all [ofH], rfl⟩
theorem isAft_any (k : Int) (w : World) : Calls Tryd.prog 44 #[.int .i64 k] w fun e w' => e = .returned (.bool (aftH k)) ∧ w' = w := by
  go_enter Tryd.func44, Tryd.ntmps44
  go_wp2
  all_goals go_ret
  all_goals exact ⟨by simp_all [aftH], rfl⟩
theorem elic_any (k : Int) (w : World) : Calls Tryd.prog 21 #[.int .i64 k] w fun e w' => e = .returned (.bool (knownK k && !noEl k)) ∧ w' = w := by
  go_enter Tryd.func21, Tryd.ntmps21
  go_wp2_with (go_at_call 23; refine (isKind_any _ _).mono ?_; rintro e w' ⟨rfl, rfl⟩)
  all_goals go_ret
  all_goals exact ⟨by simp_all [noEl], rfl⟩
theorem relic_any (k : Int) (w : World) : Calls Tryd.prog 22 #[.int .i64 k] w fun e w' => e = .returned (.bool (knownK k && !noEl k)) ∧ w' = w := by
  go_enter Tryd.func22, Tryd.ntmps22
  go_wp2_with (go_at_call 29; refine (known_any _ _).mono ?_; rintro e w' ⟨rfl, rfl⟩)
  all_goals go_ret
  all_goals exact ⟨by simp_all [noEl, bne], rfl⟩
def allow (k p : Int) : Bool := knownK k && (if p = 0 ∨ p = 2 then ofH k else if p = 1 then !aftH k else p == 5)
theorem allow_any (k p : Int) (w : World) : Calls Tryd.prog 18 #[.int .i64 k, .int .i64 p] w fun e w' => e = .returned (.bool (allow k p)) ∧ w' = w := by
  go_enter Tryd.func18, Tryd.ntmps18
  go_wp2_with (first | (go_at_call 23; refine (isKind_any _ _).mono ?_; rintro e w' ⟨rfl, rfl⟩) | (go_at_call 43; refine (isOf_any _ _).mono ?_; rintro e w' ⟨rfl, rfl⟩) | (go_at_call 44; refine (isAft_any _ _).mono ?_; rintro e w' ⟨rfl, rfl⟩))
  all_goals go_ret
  all_goals exact ⟨by simp_all [allow], rfl⟩
theorem rallow_any (k p : Int) (w : World) : Calls Tryd.prog 19 #[.int .i64 k, .int .i64 p] w fun e w' => e = .returned (.bool (allow k p)) ∧ w' = w := by
  go_enter Tryd.func19, Tryd.ntmps19
  go_wp2_with (go_at_call 29; refine (known_any _ _).mono ?_; rintro e w' ⟨rfl, rfl⟩)
  all_goals go_ret
  all_goals exact ⟨by simp_all [allow, bne, ofH, aftH], rfl⟩

set_option maxRecDepth 10000 in
set_option maxHeartbeats 1000000 in
theorem kinds_walk (k p : Int) (w : World) (hE : w.cell? ⟨1, 0, none⟩ = some (rtp 38)) :
    Calls Tryd.prog 6 #[.int .i64 k, .int .i64 p] w fun e w' => e = .returned (.bool true) ∧ Below w.heap.size w w' := by
  have hb1 : 1 < w.heap.size := World.block_lt_of_cell? w _ hE
  have HE := hidIt hE
  clear hE
  go_enter Tryd.func6, Tryd.ntmps6
  go_wp2_with fail
  go_loop [5] (fun i => ∃ n : Nat, n ≤ 9 ∧ i = .int .i64 ((n : Int) - 1)) (fun i => 10 - (intOf i + 1).toNat)
  case atStart => exact ⟨0, by omega, rfl⟩
  case round =>
    obtain ⟨n, hn, rfl⟩ := hrel
    by_cases h9 : n = 9
    · subst h9
      go_wp2_with fail
      refine (why_nil _).mono ?_
      rintro e w1 ⟨rfl, hB1⟩
      have hs1 := hB1.size
      have HB1 := hidIt hB1
      clear hB1
      obtain ⟨W2, hW2⟩ : ∃ W2, W2 = w1.alloc (.cells #[.int .i64 9, .bool false, .int .i64 0, .int .i64 30] 60) := ⟨_, rfl⟩
      have HB2 : Hid (Below w.heap.size w W2) := by rw [hW2]; exact HB1.out.alloc hs1 _
      have HE2 : Hid (W2.cell? ⟨1, 0, none⟩ = some (rtp 38)) := (World.cell?_of_block (w := w) (a := ⟨1, 0, none⟩) (HB2.out.block 1 hb1)).trans HE.out
      have HP2 : Hid (W2.heap[w1.heap.size]? = some (.cells #[.int .i64 9, .bool false, .int .i64 0, .int .i64 30] 60 (0, 0))) := by show _ = _; rw [hW2]; exact heap_alloc_new _ _
      have HY := hidIt (why_close w1.heap.size 9 0 30 false W2 HP2.out HE2.out)
      have hs2 : w.heap.size ≤ W2.heap.size := HB2.out.size
      rw [hW2] at HY
      have HW2 := hidIt hW2
      clear hW2
      go_wp2_with fail
      refine HY.out.mono ?_
      rintro e w3 ⟨rfl, hB3⟩
      rw [← HW2.out] at hB3
      have HB3 := hidIt (HB2.out.trans (hB3.mono hs2))
      clear hB3 HY
      go_wp2_with fail
      refine (elic_any _ _).mono ?_
      rintro e w4 ⟨rfl, rfl⟩
      go_wp2_with fail
      refine (relic_any _ _).mono ?_
      rintro e w4 ⟨rfl, rfl⟩
      go_wp2_with fail
      refine (allow_any _ _ _).mono ?_
      rintro e w4 ⟨rfl, rfl⟩
      go_wp2_with fail
      refine (rallow_any _ _ _).mono ?_
      rintro e w4 ⟨rfl, rfl⟩
      go_wp2
      go_ret
      exact ⟨by simp, HB3.out⟩
    · go_wp2_with fail
      refine (allow_any _ _ _).mono ?_
      rintro e w' ⟨rfl, rfl⟩
      go_wp2_with fail
      refine (rallow_any _ _ _).mono ?_
      rintro e w' ⟨rfl, rfl⟩
      go_wp2
      go_round
      case rel => exact ⟨n + 1, by omega, by go_num⟩
      case measure => simp [intOf]; omega
end Go.Proofs.YtmgknknjlpdciaaDoor
