/- The reference's known, protos, may. -/
import Derived.Test.YtcchlicokglmnaaRa
namespace Go.Proofs.Ytcchlicokglmnaa
open Go.ChangeShapes Go.WideShapes Go.ChangeAt Go.RowKit Go.Lib
set_option linter.unusedVariables false

set_option maxRecDepth 10000 in
theorem known_c (k : Int) (w : World) : Calls Try.prog 19 #[.int .i64 k] w fun e w' => e = .returned (.bool (isK k)) ∧ w' = w := by
  have fin : ∀ b, isK k = b → (.returned (.bool b) : Ending) = .returned (.bool (isK k)) := fun b h => by rw [h]
  by_cases h1 : k = 1
  · subst h1
    clear fin
    go_enter Try.func19, Try.ntmps19
    go_wp2_with fail
    go_ret
    exact ⟨rfl, rfl⟩
  have b1 : (k == 1) = false := by simpa using h1
  have d1 : decide (k = 1) = false := by simpa using h1
  by_cases h2 : k = 2
  · subst h2
    clear fin
    go_enter Try.func19, Try.ntmps19
    go_wp2_with fail
    go_ret
    exact ⟨rfl, rfl⟩
  have b2 : (k == 2) = false := by simpa using h2
  have d2 : decide (k = 2) = false := by simpa using h2
  by_cases h4 : k = 4
  · subst h4
    clear fin
    go_enter Try.func19, Try.ntmps19
    go_wp2_with fail
    go_ret
    exact ⟨rfl, rfl⟩
  have b4 : (k == 4) = false := by simpa using h4
  have d4 : decide (k = 4) = false := by simpa using h4
  by_cases h8 : k = 8
  · subst h8
    clear fin
    go_enter Try.func19, Try.ntmps19
    go_wp2_with fail
    go_ret
    exact ⟨rfl, rfl⟩
  have b8 : (k == 8) = false := by simpa using h8
  have d8 : decide (k = 8) = false := by simpa using h8
  by_cases h11 : k = 11
  · subst h11
    clear fin
    go_enter Try.func19, Try.ntmps19
    go_wp2_with fail
    go_ret
    exact ⟨rfl, rfl⟩
  have b11 : (k == 11) = false := by simpa using h11
  have d11 : decide (k = 11) = false := by simpa using h11
  by_cases h15 : k = 15
  · subst h15
    clear fin
    go_enter Try.func19, Try.ntmps19
    go_wp2_with fail
    go_ret
    exact ⟨rfl, rfl⟩
  have b15 : (k == 15) = false := by simpa using h15
  have d15 : decide (k = 15) = false := by simpa using h15
  by_cases h20 : k = 20
  · subst h20
    clear fin
    go_enter Try.func19, Try.ntmps19
    go_wp2_with fail
    go_ret
    exact ⟨rfl, rfl⟩
  have b20 : (k == 20) = false := by simpa using h20
  have d20 : decide (k = 20) = false := by simpa using h20
  have F := mkHid (fin false (by simp [isK, h1, h2, h4, h8, h11, h15, h20]))
  clear fin
  go_enter Try.func19, Try.ntmps19
  go_wp2_with fail
  go_ret
  exact ⟨F.out, rfl⟩
/-- Names that may be. -/
def nmB (S : ByteArray) : Bool := decide (1 ≤ S.size ∧ S.size ≤ 255)
def proB (Ns : List ByteArray) (most : Int) : Bool := Ns.all nmB && decide (1 ≤ Ns.length) && decide ((Ns.length : Int) ≤ most)
set_option maxRecDepth 10000 in
set_option maxHeartbeats 1000000 in
theorem rprotos_c (ao : Option Addr) (cp : Nat) (Ns : List ByteArray) (w : World) (h : Nms w ao Ns) (h63 : Ns.length ≤ 9223372036854775806) (hS63 : ∀ S ∈ Ns, S.size ≤ 9223372036854775807) (most : Int) : Calls Try.prog 32 #[.slice ao Ns.length cp, .int .i64 most] w fun e w' => e = .returned (.bool (proB Ns most)) ∧ w' = w := by
  have HN : Hid (Nms w ao Ns) := h
  obtain ⟨N, hN⟩ : ∃ N, Ns.length = N := ⟨_, rfl⟩
  rw [hN] at h63 ⊢
  have HL : Hid _ := hN
  have HS : Hid _ := hS63
  obtain ⟨pb, hpb⟩ : ∃ pb, pb = proB Ns most := ⟨_, rfl⟩
  rw [← hpb]
  have HP : Hid _ := hpb
  clear h hN hS63 hpb
  go_enter Try.func32, Try.ntmps32
  go_wp2_with fail
  go_loopg [5] (N + 1) (fun kx s5 wr => ∃ i : Nat, s5 = .int .i64 (i : Int) ∧ i ≤ N ∧ N - i ≤ kx ∧ wr = w ∧ Hid ((Ns.take i).all nmB = true))
  case atStart => exact ⟨0, rfl, by omega, by omega, rfl, by show _ = _; simp⟩
  case round =>
    obtain ⟨i, rfl, hi1, hg, rfl, HA⟩ := hrel
    by_cases hlt : i < N
    · have i1 : (i : Int) < (N : Int) := by omega
      have i1' : decide ((i : Int) < (N : Int)) = true := by simpa using i1
      have i0' : (0 : Int) ≤ (i : Int) := by omega
      have iw : IntKind.i64.wrap ((i : Int) + 1) = ((i + 1 : Nat) : Int) := by rw [IntKind.wrap_i64]; omega
      have hl : i < Ns.length := by rw [HL.out]; exact hlt
      obtain ⟨b, off, hao, hcell⟩ := HN.out i hl
      subst hao
      obtain ⟨S, hS⟩ : ∃ S, Ns[i] = S := ⟨_, rfl⟩
      rw [hS] at hcell
      have HNX : Hid ((Ns.take (i + 1)).all nmB = ((Ns.take i).all nmB && nmB S)) := by
        show _ = _
        rw [List.take_succ_eq_append_getElem hl, hS]; simp
      have HIN : Hid (S ∈ Ns) := by show S ∈ Ns; rw [← hS]; exact List.getElem_mem _
      clear hS hl
      by_cases h1 : S.size < 1
      · have c1 : (S.size : Int) < 1 := by omega
        have c1' : decide ((S.size : Int) < 1) = true := by simpa using c1
        have F : Hid (pb = false) := by
          show pb = false
          rw [HP.out]
          have : Ns.all nmB = false := by
            rw [List.all_eq_false]
            exact ⟨S, HIN.out, by simp [nmB]; omega⟩
          simp [proB, this]
        go_wp2_with fail
        go_ret
        exact ⟨by rw [F.out]; rfl, rfl⟩
      · by_cases h2 : 255 < S.size
        · have c1 : ¬ (S.size : Int) < 1 := by omega
          have c1' : decide ((S.size : Int) < 1) = false := by simpa using c1
          have c2 : (255 : Int) < (S.size : Int) := by omega
          have c2' : decide ((255 : Int) < (S.size : Int)) = true := by simpa using c2
          have F : Hid (pb = false) := by
            show pb = false
            rw [HP.out]
            have : Ns.all nmB = false := by
              rw [List.all_eq_false]
              exact ⟨S, HIN.out, by simp [nmB]; omega⟩
            simp [proB, this]
          go_wp2_with fail
          go_ret
          exact ⟨by rw [F.out]; rfl, rfl⟩
        · have c1 : ¬ (S.size : Int) < 1 := by omega
          have c1' : decide ((S.size : Int) < 1) = false := by simpa using c1
          have c2 : ¬ (255 : Int) < (S.size : Int) := by omega
          have c2' : decide ((255 : Int) < (S.size : Int)) = false := by simpa using c2
          have HA2 : Hid ((Ns.take (i + 1)).all nmB = true) := by
            show _ = _
            rw [HNX.out, HA.out]
            simp [nmB]; omega
          go_wp2_with fail
          go_roundg (N - (i + 1))
          case measure => omega
          case rel => exact ⟨i + 1, rfl, by omega, Nat.le_refl _, rfl, HA2.out⟩
    · have i1 : ¬ (i : Int) < (N : Int) := by omega
      have i1' : decide ((i : Int) < (N : Int)) = false := by simpa using i1
      have hall : Ns.all nmB = true := by
        have := HA.out
        rw [show i = Ns.length by rw [HL.out]; omega, List.take_length] at this
        exact this
      by_cases h1 : 1 ≤ N
      · have c1 : (1 : Int) ≤ (N : Int) := by omega
        have c1' : decide ((1 : Int) ≤ (N : Int)) = true := by simpa using c1
        have F : Hid (pb = decide ((N : Int) ≤ most)) := by
          show pb = _
          rw [HP.out]; simp [proB, hall, HL.out, h1]
        generalize hq : decide ((N : Int) ≤ most) = bq at *
        go_wp2_with fail
        go_ret
        exact ⟨by rw [F.out]; rfl, rfl⟩
      · have c1 : ¬ (1 : Int) ≤ (N : Int) := by omega
        have c1' : decide ((1 : Int) ≤ (N : Int)) = false := by simpa using c1
        have F : Hid (pb = false) := by
          show pb = _
          rw [HP.out]
          have : ¬ 1 ≤ Ns.length := by rw [HL.out]; exact h1
          simp [proB, this]
        go_wp2_with fail
        go_ret
        exact ⟨by rw [F.out]; rfl, rfl⟩
end Go.Proofs.Ytcchlicokglmnaa
