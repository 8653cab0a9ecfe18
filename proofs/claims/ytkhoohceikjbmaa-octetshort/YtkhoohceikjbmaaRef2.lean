/- What octet.Whole and the reference's Whole answer at 2 bytes, for every input: contracts. -/
import Derived.Test.YtkhoohceikjbmaaRef
namespace Go.Proofs.Ytkhoohceikjbmaa
open Go.ChangeShapes Go.WideShapes Go.ChangeAt Go.RowKit
set_option linter.unusedVariables false

set_option maxRecDepth 10000 in
set_option maxHeartbeats 1000000 in
theorem rwhole_2 (low g : Int) (w : World) (h0 : 0 ≤ low) (h1 : low < 65536) (h2 : -1 ≤ g) (h3 : g ≤ 4611686018427387903) :
    Calls Try.prog 8 #[.int .u64 low, .int .i64 2, .int .i64 g] w fun e w' => e = .returned (.tuple #[.int .i64 (wh low 65536 g), .int .i64 0]) ∧ w' = w := by
  go_enter Try.func8, Try.ntmps8
  go_wp2
  generalize hB : (g + 1) / 65536 * 65536 + low = B
  have hb0 : 0 ≤ B := by omega
  have hb1 : g + 1 < B + 65536 := by omega
  have hb2 : B < g + 1 + 65536 := by omega
  have HB : Hid ((g + 1) / 65536 * 65536 + low = B) := hB
  clear hB
  go_loop [11, 12, 13] (fun vb vf vk => ∃ b f k : Int, vb = .int .i64 b ∧ vf = .int .i64 f ∧ vk = .int .i64 k ∧ wInv 65536 B (g + 1) (wh low 65536 g) k b f) (fun _ _ vk => (2 - intOf vk).toNat)
  case atStart => exact ⟨-1, 0, -1, rfl, rfl, rfl, Or.inl ⟨rfl, rfl, rfl⟩⟩
  case round =>
    obtain ⟨b, f, k, rfl, rfl, rfl, hinv⟩ := hrel
    rcases hinv with ⟨rfl, rfl, rfl⟩ | ⟨rfl, ⟨hx, rfl, rfl⟩ | ⟨hx, rfl, rfl⟩⟩ | ⟨rfl, ⟨hx, hy, rfl, rfl, hz⟩ | ⟨hx, hy, rfl, rfl, hz⟩ | ⟨hx, hy, rfl, rfl⟩⟩ | ⟨rfl, hx⟩
    · go_wp2
      all_goals
        go_round
        case rel => exact ⟨_, _, _, rfl, rfl, rfl, by unfold wInv; omega⟩
        case measure => simp [intOf]
    · go_wp2
      all_goals
        go_round
        case rel => exact ⟨_, _, _, rfl, rfl, rfl, by unfold wInv; omega⟩
        case measure => simp [intOf]
    · go_wp2
      all_goals
        go_round
        case rel => exact ⟨_, _, _, rfl, rfl, rfl, by unfold wInv; omega⟩
        case measure => simp [intOf]
    · go_wp2
      all_goals
        go_round
        case rel => exact ⟨_, _, _, rfl, rfl, rfl, by unfold wInv wh whTop; have := HB.out; omega⟩
        case measure => simp [intOf]
    · go_wp2
      all_goals
        go_round
        case rel => exact ⟨_, _, _, rfl, rfl, rfl, by unfold wInv wh whTop; have := HB.out; omega⟩
        case measure => simp [intOf]
    · go_wp2
      all_goals
        go_round
        case rel => exact ⟨_, _, _, rfl, rfl, rfl, by unfold wInv wh whTop; have := HB.out; omega⟩
        case measure => simp [intOf]
    · have HX : Hid (b = wh low 65536 g) := hx
      clear hx
      go_wp2
      go_ret2
      exact ⟨ret_tup2 HX.out, rfl⟩

theorem whole_no_2 (low g : Int) (w : World) (h0 : 0 ≤ low) (h00 : low ≤ 18446744073709551615) (h : 65536 ≤ low ∨ g < -1 ∨ 4611686018427387903 < g) :
    Calls Try.prog 7 #[.int .u64 low, .int .i64 2, .int .i64 g] w fun e w' => e = .returned (.tuple #[.int .i64 0, .int .i64 2]) ∧ w' = w := by
  have hcs : 65536 ≤ low ∨ (low < 65536 ∧ g < -1) ∨ (low < 65536 ∧ -1 ≤ g ∧ 4611686018427387903 < g) := by omega
  clear h
  rcases hcs with h | ⟨h, h'⟩ | ⟨h, h', h''⟩
  all_goals
    go_enter Try.func7, Try.ntmps7
    go_wp2
    go_ret2
    exact ⟨rfl, rfl⟩

theorem whole_any_2 (low g : Int) (w : World) (h0 : 0 ≤ low) (h00 : low ≤ 18446744073709551615) :
    Calls Try.prog 7 #[.int .u64 low, .int .i64 2, .int .i64 g] w fun e w' => e = .returned (.tuple #[.int .i64 (wV low 65536 g), .int .i64 (wE low 65536 g)]) ∧ w' = w := by
  by_cases h : low < 65536 ∧ -1 ≤ g ∧ g ≤ 4611686018427387903
  · have e1 : wV low 65536 g = wh low 65536 g := if_pos h
    have e2 : wE low 65536 g = 0 := if_pos h
    rw [e1, e2]
    exact whole_2 low g w h0 h.1 h.2.1 h.2.2
  · have e1 : wV low 65536 g = 0 := if_neg h
    have e2 : wE low 65536 g = 2 := if_neg h
    rw [e1, e2]
    exact whole_no_2 low g w h0 h00 (by omega)

theorem rwhole_no_2 (low g : Int) (w : World) (h0 : 0 ≤ low) (h00 : low ≤ 18446744073709551615) (h : 65536 ≤ low ∨ g < -1 ∨ 4611686018427387903 < g) :
    Calls Try.prog 8 #[.int .u64 low, .int .i64 2, .int .i64 g] w fun e w' => e = .returned (.tuple #[.int .i64 0, .int .i64 2]) ∧ w' = w := by
  have hcs : 65536 ≤ low ∨ (low < 65536 ∧ g < -1) ∨ (low < 65536 ∧ -1 ≤ g ∧ 4611686018427387903 < g) := by omega
  clear h
  rcases hcs with h | ⟨h, h'⟩ | ⟨h, h', h''⟩
  all_goals
    go_enter Try.func8, Try.ntmps8
    go_wp2
    go_ret2
    exact ⟨rfl, rfl⟩

theorem rwhole_any_2 (low g : Int) (w : World) (h0 : 0 ≤ low) (h00 : low ≤ 18446744073709551615) :
    Calls Try.prog 8 #[.int .u64 low, .int .i64 2, .int .i64 g] w fun e w' => e = .returned (.tuple #[.int .i64 (wV low 65536 g), .int .i64 (wE low 65536 g)]) ∧ w' = w := by
  by_cases h : low < 65536 ∧ -1 ≤ g ∧ g ≤ 4611686018427387903
  · have e1 : wV low 65536 g = wh low 65536 g := if_pos h
    have e2 : wE low 65536 g = 0 := if_pos h
    rw [e1, e2]
    exact rwhole_2 low g w h0 h.1 h.2.1 h.2.2
  · have e1 : wV low 65536 g = 0 := if_neg h
    have e2 : wE low 65536 g = 2 := if_neg h
    rw [e1, e2]
    exact rwhole_no_2 low g w h0 h00 (by omega)
end Go.Proofs.Ytkhoohceikjbmaa
