/- The law's own: both. -/
import Derived.Test.YtdklkofnekacdaaKy
namespace Go.Proofs.Ytdklkofnekacdaa
open Go.RowKit Go.Shelf Go.Lib
set_option linter.unusedVariables false

/-- The terms of a vault with so many secrets. -/
def frs (i : Nat) : List Tm := rt :: List.replicate i fr
theorem frs_len (i : Nat) : (frs i).length = i + 1 := by simp [frs]
theorem frs_succ (i : Nat) : frs (i + 1) = frs i ++ [fr] := by simp [frs, List.replicate_succ']
section
variable {W0 w w' : World} {V R : Nat} {L0 L : List Tm}
theorem Rs.new (h : Rs W0 w V L0 R L) (hle : L0.length ≤ 1000) : Calls Try.prog 18 #[.pointer (some ⟨V, 0, none⟩)] w fun e w' => e = .returned (hv (nameL L0.length)) ∧ Rs W0 w' V (L0 ++ [fr]) R L := by
  obtain ⟨G, c, M, hv⟩ := h.ag.va
  obtain ⟨g, d, hr⟩ := h.rv
  refine (fresh_c hv (by omega)).mono ?_
  rintro e w' ⟨rfl, G', c', h1, h2, h3⟩
  exact ⟨rfl, ⟨h.ag.bel.trans (h2.bel hv), G', c', M, h1⟩, g, d, hr.kc (Kc.of_vc h2 hv)⟩
theorem Rs.rnew (h : Rs W0 w V L0 R L) (hle : L.length ≤ 1000) : Calls Try.prog 21 #[.pointer (some ⟨R, 0, none⟩)] w fun e w' => e = .returned (hv (nameL L.length)) ∧ Rs W0 w' V L0 R (L ++ [fr]) := by
  obtain ⟨g, d, hr⟩ := h.rv
  refine (rfresh_c hr hle h.ag.bel.size).mono ?_
  rintro e w' ⟨rfl, h1, h2, h3⟩
  exact ⟨rfl, h.ag.kx h3 h2, h1⟩
set_option maxRecDepth 100000 in
set_option maxHeartbeats 400000 in
/-- Both: a vault and a reference's with so many secrets each. -/
theorem both_c (w : World) (n : Nat) (hn : n ≤ 900) : Calls Try.prog 5 #[.int .i64 (n : Int)] w fun e w' => ∃ V R, e = .returned (.tuple #[.pointer (some ⟨V, 0, none⟩), .pointer (some ⟨R, 0, none⟩), .bool true]) ∧ Rs w w' V (frs n) R (frs n) := by
  go_enter Try.func5, Try.ntmps5
  go_wp2_with fail
  refine Calls.mono (new_c w) ?_
  rintro e W1 ⟨V, G, c, M, rfl, hva, hb1⟩
  have H1 : Aside (Ag w W1 V (frs 0)) := ⟨hb1, G, c, M, hva⟩
  clear hva hb1
  as_aux_lemma =>
  go_wp2_with fail
  refine Calls.mono (rnew_c W1) ?_
  rintro e W2 ⟨R, g, d, rfl, hrv, hb2⟩
  have H2 : Aside (Rs w W2 V (frs 0) R (frs 0)) := ⟨H1.out.go hb2, g, d, hrv.hR, hrv.row.mono H1.out.bel.size, Nat.le_trans H1.out.bel.size hrv.bR⟩
  clear hrv hb2 H1
  as_aux_lemma =>
  go_wp2_with fail
  go_loopg [7] (n + 1) (fun kx s7 wr => ∃ i : Nat, s7 = .int .i64 (i : Int) ∧ i ≤ n ∧ n - i ≤ kx ∧ Aside (Rs w wr V (frs i) R (frs i)))
  case atStart => exact ⟨0, rfl, by omega, by omega, H2.out⟩
  case round =>
    obtain ⟨i, rfl, hi, hg, HQ⟩ := hrel
    clear H2
    by_cases hlt : i < n
    · as_aux_lemma =>
      have i1 : (i : Int) < (n : Int) := by omega
      have i1' : decide ((i : Int) < (n : Int)) = true := by simpa using i1
      have iw : IntKind.i64.wrap ((i : Int) + 1) = ((i + 1 : Nat) : Int) := by rw [IntKind.wrap_i64]; omega
      go_wp2_with fail
      refine Calls.mono (HQ.out.new (by rw [frs_len]; omega)) ?_
      rintro e W3 ⟨rfl, h3⟩
      have HQ3 : Aside _ := h3
      clear h3 HQ
      as_aux_lemma =>
      go_wp2_with fail
      refine Calls.mono (HQ3.out.rnew (by rw [frs_len]; omega)) ?_
      rintro e W4 ⟨rfl, h4⟩
      have HQ4 : Aside (Rs w W4 V (frs (i + 1)) R (frs (i + 1))) := by rw [frs_succ]; exact h4
      clear h4 HQ3
      have hN : (nameL (frs i).length).length = 16 := nameL_len _
      generalize nameL (frs i).length = N at *
      as_aux_lemma =>
      have hq : ∀ X, (binOp .neq 29 (hv N) (hv N)).run Try.prog X = .ok (.bool false) X := fun X => by rw [neq28 N N hN hN]; simp
      go_wp2_with fail
      as_aux_lemma =>
      go_roundg (n - (i + 1))
      case measure => omega
      case rel => exact ⟨i + 1, rfl, by omega, Nat.le_refl _, HQ4.out⟩
    · as_aux_lemma =>
      obtain rfl : i = n := by omega
      have i1 : ¬ (i : Int) < (i : Int) := by omega
      have i1' : decide ((i : Int) < (i : Int)) = false := by simp
      go_wp2_with fail
      refine bodyPost_ret (results_tmp3 (fn := Try.f5) (t := 2) (u := 3) (v := 4) rfl _ _ _) rfl ?_
      exact ⟨V, R, rfl, HQ.out⟩
end
end Go.Proofs.Ytdklkofnekacdaa
