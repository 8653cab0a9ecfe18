/- params: the reference: isNumber, one. -/
import Derived.Test.YtcppnellgkbndaaDoorRm
import Derived.Test.YtcppnellgkbndaaDoorMl

namespace Go.Proofs.YtcppnellgkbndaaDoor
open Go.ChangeShapes Go.WideShapes Go.ChangeAt Go.RowKit
set_option linter.unusedVariables false
set_option maxRecDepth 100000

theorem wrn (n : Int) (h : -9223372036854775808 ≤ n) (h2 : n ≤ 9223372036854775807) : IntKind.i64.wrap n = n := by
  rw [IntKind.wrap_i64]; omega
set_option maxHeartbeats 1000000 in
theorem isNumber_c (x : Int) (w : World) : Calls Tryd.prog 22 #[.int .i64 x] w fun e w' => e = .returned (.bool (decide (x ∈ numsL))) ∧ Below w.heap.size w w' := by
  have hn := numbers_c w
  obtain ⟨W1, hW1, hb1⟩ : ∃ W1, w.alloc (.cells numsA 3) = W1 ∧ Below w.heap.size w W1 := ⟨_, rfl, bel1 w _⟩
  have HC : Aside (∀ k (h : k < numsL.length), W1.cell? ⟨w.heap.size, k, none⟩ = some (.int .i64 numsL[k])) := by rw [← hW1]; exact nums_cell w
  rw [hW1] at hn
  have HB1 : Aside (Below w.heap.size w W1) := hb1
  have HLN : Aside (numsL.length = 12) := rfl
  clear hW1 hb1
  generalize numsL = L at *
  go_enter Tryd.func22, Tryd.ntmps22
  go_wp2_with fail
  refine hn.mono ?_
  rintro e w' ⟨rfl, hw⟩
  subst w'
  clear hn
  go_wp2
  go_loopg [4] 12 (fun kx s4 wr => ∃ k : Nat, s4 = .int .i64 (k : Int) ∧ k ≤ 12 ∧ 12 - k ≤ kx ∧ Aside (wr = W1 ∧ x ∉ L.take k))
  case atStart => exact ⟨0, rfl, by omega, by omega, rfl, by simp⟩
  case round =>
    obtain ⟨k, rfl, hk, hg, HI⟩ := hrel
    have hwr := HI.out.1
    have HX : Aside (x ∉ L.take k) := HI.out.2
    subst hwr
    clear HI
    by_cases hlt : k < 12
    · have hi : k < L.length := by rw [HLN.out]; exact hlt
      have c0 := HC.out k hi
      have HM : Aside (L[k] ∈ L) := List.getElem_mem hi
      have HT : Aside (L.take (k + 1) = L.take k ++ [L[k]]) := List.take_succ_eq_append_getElem hi
      generalize L[k] = y at *
      have i1 : (k : Int) < 12 := by omega
      have iw : IntKind.i64.wrap ((k : Int) + 1) = (k : Int) + 1 := wrn _ (by omega) (by omega)
      by_cases hxy : y = x
      · have HT2 : Aside (decide (x ∈ L) = true) := decide_eq_true (by rw [← hxy]; exact HM.out)
        have hb : (y == x) = true := by simp [hxy]
        clear hxy HT HM
        go_wp2
        go_ret
        exact ⟨by rw [HT2.out]; rfl, HB1.out⟩
      · have HX2 : Aside (x ∉ L.take (k + 1)) := by
          show ¬ _
          rw [HT.out, List.mem_append, List.mem_singleton]
          rintro (h | h)
          · exact HX.out h
          · exact hxy h.symm
        have hb : (y == x) = false := by simp [hxy]
        clear HT HM
        go_wp2
        go_roundg (12 - (k + 1))
        case measure => omega
        case rel => exact ⟨k + 1, rfl, by omega, Nat.le_refl _, rfl, HX2.out⟩
    · obtain rfl : k = 12 := by omega
      have i1 : ¬ ((12 : Nat) : Int) < 12 := by omega
      have HT2 : Aside (decide (x ∈ L) = false) := decide_eq_false (by have := HX.out; rw [← HLN.out, List.take_length] at this; exact this)
      go_wp2
      go_ret
      exact ⟨by rw [HT2.out]; rfl, HB1.out⟩
end Go.Proofs.YtcppnellgkbndaaDoor
