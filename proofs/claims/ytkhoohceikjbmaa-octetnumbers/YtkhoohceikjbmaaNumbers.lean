/- Whatever the three numbers are, caravellaw01.OctetNumbers answers true: a packet's number is told again of its Short lowest bytes (Whole), whichever of the numbers from acked to number - 1 came last. Conditions: none beside the law's own tests (number - acked below 2^31). -/
import Derived.Test.YtkhoohceikjbmaaWhole
import Derived.WalkKit
import Derived.ProofKit
import Derived.OpenShut
namespace Go.Proofs.Ytkhoohceikjbmaa.octetNumbers
open Go.ChangeShapes Go.WideShapes Go.ChangeAt Go.RowKit
set_option linter.unusedVariables false      -- a walk need not use every 'w<i>' (that an integer argument fits its kind)

theorem own : ownKnob Try.prog.godebug = none := by kernel_rfl

/-! ### STEP 1: THE WALK -/
theorem far (a b c : Int) (w : World) (h0 : 0 ≤ a) (h1 : a ≤ 4611686018427387903) (h2 : -1 ≤ b) (h3 : b < a) (h : c < b ∨ a ≤ c ∨ 2147483648 ≤ a - b) :
    Calls Try.prog 4 #[.int .i64 a, .int .i64 b, .int .i64 c] w fun e w' => e = .returned (.bool true) ∧ Grown w w' := by
  have e11 : shN (10 - -1) = 1 := by decide
  have hcs : c < b ∨ (b ≤ c ∧ a ≤ c) ∨ (b ≤ c ∧ c < a ∧ 2147483648 ≤ a - b) := by omega
  clear h
  rcases hcs with h | ⟨hb, h⟩ | ⟨hb, hc, h⟩
  all_goals
    go_enter Try.func4, Try.ntmps4
    go_wp2_with fail
    refine (short_yes _ _ _ h0 h1 h2 h3).mono ?_
    rintro e w' ⟨rfl, rfl⟩
    go_wp2_with fail
    refine (short_yes _ _ _ (by omega) (by omega) (by omega) (by omega)).mono ?_
    rintro e w' ⟨rfl, rfl⟩
    rw [e11]
    go_wp2
    go_ret
    exact ⟨rfl, Grown.refl _⟩

set_option maxRecDepth 10000 in
theorem near_1 (a b c : Int) (w : World) (h0 : 0 ≤ a) (h1 : a ≤ 4611686018427387903) (h2 : -1 ≤ b) (h3 : b < a) (h4 : b ≤ c) (h5 : c < a) (h6 : a - b < 128) (HS : Hid (shN (a - b) = 1)) :
    Calls Try.prog 4 #[.int .i64 a, .int .i64 b, .int .i64 c] w fun e w' => e = .returned (.bool true) ∧ Grown w w' := by
  have e11 : shN (10 - -1) = 1 := by decide
  have hm : bits .and .u64 a 255 = a % 256 := and_255 a h0 (by omega)
  have HW : Hid (wh (a % 256) 256 c = a) := wh_1 a b c h0 h1 h4 h5 h6
  go_enter Try.func4, Try.ntmps4
  go_wp2_with fail
  refine (short_yes _ _ _ h0 h1 h2 h3).mono ?_
  rintro e w' ⟨rfl, rfl⟩
  go_wp2_with fail
  refine (short_yes _ _ _ (by omega) (by omega) (by omega) (by omega)).mono ?_
  rintro e w' ⟨rfl, rfl⟩
  rw [e11, HS.out]
  go_wp2_with fail
  refine (whole_1 _ _ _ (by omega) (by omega) (by omega) (by omega)).mono ?_
  rintro e w' ⟨rfl, rfl⟩
  rw [HW.out]
  go_wp2
  go_ret
  exact ⟨by simp, Grown.refl _⟩

set_option maxRecDepth 10000 in
theorem near_2 (a b c : Int) (w : World) (h0 : 0 ≤ a) (h1 : a ≤ 4611686018427387903) (h2 : -1 ≤ b) (h3 : b < a) (h4 : b ≤ c) (h5 : c < a) (h6 : a - b < 32768) (HS : Hid (shN (a - b) = 2)) :
    Calls Try.prog 4 #[.int .i64 a, .int .i64 b, .int .i64 c] w fun e w' => e = .returned (.bool true) ∧ Grown w w' := by
  have e11 : shN (10 - -1) = 1 := by decide
  have hm : bits .and .u64 a 65535 = a % 65536 := and_65535 a h0 (by omega)
  have HW : Hid (wh (a % 65536) 65536 c = a) := wh_2 a b c h0 h1 h4 h5 h6
  go_enter Try.func4, Try.ntmps4
  go_wp2_with fail
  refine (short_yes _ _ _ h0 h1 h2 h3).mono ?_
  rintro e w' ⟨rfl, rfl⟩
  go_wp2_with fail
  refine (short_yes _ _ _ (by omega) (by omega) (by omega) (by omega)).mono ?_
  rintro e w' ⟨rfl, rfl⟩
  rw [e11, HS.out]
  go_wp2_with fail
  refine (whole_2 _ _ _ (by omega) (by omega) (by omega) (by omega)).mono ?_
  rintro e w' ⟨rfl, rfl⟩
  rw [HW.out]
  go_wp2
  go_ret
  exact ⟨by simp, Grown.refl _⟩

set_option maxRecDepth 10000 in
theorem near_3 (a b c : Int) (w : World) (h0 : 0 ≤ a) (h1 : a ≤ 4611686018427387903) (h2 : -1 ≤ b) (h3 : b < a) (h4 : b ≤ c) (h5 : c < a) (h6 : a - b < 8388608) (HS : Hid (shN (a - b) = 3)) :
    Calls Try.prog 4 #[.int .i64 a, .int .i64 b, .int .i64 c] w fun e w' => e = .returned (.bool true) ∧ Grown w w' := by
  have e11 : shN (10 - -1) = 1 := by decide
  have hm : bits .and .u64 a 16777215 = a % 16777216 := and_16777215 a h0 (by omega)
  have HW : Hid (wh (a % 16777216) 16777216 c = a) := wh_3 a b c h0 h1 h4 h5 h6
  go_enter Try.func4, Try.ntmps4
  go_wp2_with fail
  refine (short_yes _ _ _ h0 h1 h2 h3).mono ?_
  rintro e w' ⟨rfl, rfl⟩
  go_wp2_with fail
  refine (short_yes _ _ _ (by omega) (by omega) (by omega) (by omega)).mono ?_
  rintro e w' ⟨rfl, rfl⟩
  rw [e11, HS.out]
  go_wp2_with fail
  refine (whole_3 _ _ _ (by omega) (by omega) (by omega) (by omega)).mono ?_
  rintro e w' ⟨rfl, rfl⟩
  rw [HW.out]
  go_wp2
  go_ret
  exact ⟨by simp, Grown.refl _⟩

set_option maxRecDepth 10000 in
theorem near_4 (a b c : Int) (w : World) (h0 : 0 ≤ a) (h1 : a ≤ 4611686018427387903) (h2 : -1 ≤ b) (h3 : b < a) (h4 : b ≤ c) (h5 : c < a) (h6 : a - b < 2147483648) (HS : Hid (shN (a - b) = 4)) :
    Calls Try.prog 4 #[.int .i64 a, .int .i64 b, .int .i64 c] w fun e w' => e = .returned (.bool true) ∧ Grown w w' := by
  have e11 : shN (10 - -1) = 1 := by decide
  have hm : bits .and .u64 a 4294967295 = a % 4294967296 := and_4294967295 a h0 (by omega)
  have HW : Hid (wh (a % 4294967296) 4294967296 c = a) := wh_4 a b c h0 h1 h4 h5 h6
  go_enter Try.func4, Try.ntmps4
  go_wp2_with fail
  refine (short_yes _ _ _ h0 h1 h2 h3).mono ?_
  rintro e w' ⟨rfl, rfl⟩
  go_wp2_with fail
  refine (short_yes _ _ _ (by omega) (by omega) (by omega) (by omega)).mono ?_
  rintro e w' ⟨rfl, rfl⟩
  rw [e11, HS.out]
  go_wp2_with fail
  refine (whole_4 _ _ _ (by omega) (by omega) (by omega) (by omega)).mono ?_
  rintro e w' ⟨rfl, rfl⟩
  rw [HW.out]
  go_wp2
  go_ret
  exact ⟨by simp, Grown.refl _⟩

theorem walk (a0 : Int) (a1 : Int) (a2 : Int) (w0 : (Lit.int .i64 a0).wf = true) (w1 : (Lit.int .i64 a1).wf = true) (w2 : (Lit.int .i64 a2).wf = true) (w : World) :
    Calls Try.prog 4 #[.int .i64 a0, .int .i64 a1, .int .i64 a2] w fun e w' => e = .returned (.bool true) ∧ Grown w w' := by
  by_cases h : 0 ≤ a0 ∧ a0 ≤ 4611686018427387903 ∧ -1 ≤ a1 ∧ a1 < a0
  · obtain ⟨h0, h1, h2, h3⟩ := h
    by_cases hf : a2 < a1 ∨ a0 ≤ a2 ∨ 2147483648 ≤ a0 - a1
    · exact far a0 a1 a2 w h0 h1 h2 h3 hf
    · rcases shN_cases (a0 - a1) with ⟨hs, hd⟩ | ⟨hs, hd⟩ | ⟨hs, hd⟩ | hs
      · exact near_1 a0 a1 a2 w h0 h1 h2 h3 (by omega) (by omega) hd hs
      · exact near_2 a0 a1 a2 w h0 h1 h2 h3 (by omega) (by omega) hd hs
      · exact near_3 a0 a1 a2 w h0 h1 h2 h3 (by omega) (by omega) hd hs
      · exact near_4 a0 a1 a2 w h0 h1 h2 h3 (by omega) (by omega) (by omega) hs
  · have h' : a0 < 0 ∨ 4611686018427387903 < a0 ∨ a1 < -1 ∨ a0 ≤ a1 := by omega
    clear h
    have e11 : shN (10 - -1) = 1 := by decide
    go_enter Try.func4, Try.ntmps4
    go_wp2_with fail
    refine (short_no _ _ _ h').mono ?_
    rintro e w' ⟨rfl, rfl⟩
    clear h'
    go_wp2_with fail
    refine (short_yes _ _ _ (by omega) (by omega) (by omega) (by omega)).mono ?_
    rintro e w' ⟨rfl, rfl⟩
    rw [e11]
    go_wp2
    go_ret
    exact ⟨rfl, Grown.refl _⟩

/-! ### THE ROW's STEP: WRITTEN OUT: LEAVE IT -/
set_option maxRecDepth 100000 in
theorem lifted (os : Os) (started : os.Started) (H : Type) (enc : TypeId × Value → H) :
    ReturnsInHanded {} Try.checked os 4 .any (Rows.octetNumbersSpec.pre6 enc Try.prog Try.f4 Rows.octetNumbersRow.domain false) (Rows.octetNumbersSpec.post enc Try.prog Try.f4 false true false false) := by
  refine returnsInHanded_of_change (C := Try.checked) own started (by kernel_rfl) Try.func4
    (ChangeSpec.witness6 (enc := enc) (C := Try.checked) false ⟨#[], #[.int .i64 0, .int .i64 0, .int .i64 0], []⟩ 8 (by kernel_rfl) (by kernel_rfl) (by kernel_rfl) (by kernel_rfl)) ?_
  intro W base args ds gs before hval0 hW hcnd _
  have hval : ∀ (j : Nat) t v, Try.f4.params[j]? = some t → args[j]? = some v → Value.okWide Try.prog W .any base t v := hval0
  have hW' := hW
  obtain ⟨p, q, hA0, hV, rfl, hfz, hnd⟩ := hW
  have hA : DataW.TrodAll enc Try.prog W 0 (fun _ => true) true Try.f4.params.toList args.toList ds p := hA0
  rw [Try.params4] at hA hval
  obtain ⟨v0, vs0, d0, ds0, p0, q0, hargs, rfl, rfl, h0, r0⟩ := trodAll_cons hA
  obtain ⟨v1, vs1, d1, ds1, p1, q1, rfl, rfl, rfl, h1, r1⟩ := trodAll_cons r0
  obtain ⟨v2, vs2, d2, ds2, p2, q2, rfl, rfl, rfl, h2, r2⟩ := trodAll_cons r1
  obtain ⟨rfl, rfl, rfl⟩ := trodAll_nil r2
  obtain rfl : args = #[v0, v1, v2] := by cases args; simp_all
  obtain ⟨rfl, rfl⟩ := trodVars_none hV
  obtain ⟨a0, rfl, rfl, rfl, w0⟩ := open_int Try.underlying3 (hval 0 3 v0 rfl rfl) h0
  obtain ⟨a1, rfl, rfl, rfl, w1⟩ := open_int Try.underlying3 (hval 1 3 v1 rfl rfl) h1
  obtain ⟨a2, rfl, rfl, rfl, w2⟩ := open_int Try.underlying3 (hval 2 3 v2 rfl rfl) h2
  clear hA0 hval0
  simp only [List.append_nil] at hW'
  refine (walk a0 a1 a2 w0 w1 w2 W).mono fun e W' ⟨he, hg⟩ => ?_
  subst he
  exact ⟨_, rfl, post_of_same (pa := []) (pv := []) hW' (fun _ _ _ => (trodAll_cons_mk (shut_bool Try.underlying4 _) trodAll_mk0)) (fun sp _ => (trodAll_cons_mk (shut_int Try.underlying3 w0) (trodAll_cons_mk (shut_int Try.underlying3 w1) (trodAll_cons_mk (shut_int Try.underlying3 w2) trodAll_mk0)))) (fun _ _ => rfl) rfl
    (hg.frame _) hg.2.1 (ok_one (by kernel_rfl) rfl (okWide_bool_mk Try.underlying4 _))⟩

theorem over : Rows.octetNumbersRow.holds Try.pinned (OpenSpec.ofChange Rows.octetNumbersSpec) :=
  OpenClaim.holds_of_wide 4 Try.f4 rfl rfl rfl rfl rfl rfl rfl ⟨rfl, rfl, rfl, rfl, rfl⟩ rfl rfl rfl rfl rfl (by kernel_rfl) Try.func4 (by kernel_rfl)
    (of_decide_eq_true (by kernel_rfl)) (by unfold Func.isWrapper; first | (rw [if_pos (by decide +kernel)]; kernel_rfl) | (rw [if_neg (by decide +kernel)]; exact ⟨rfl, rfl⟩))
    (fun os started H enc _ => lifted os started H enc)

/-- ████ THE STATEMENT ████ -/
theorem proved : Rows.OctetNumbersSaid :=
  over
#print axioms proved
end Go.Proofs.Ytkhoohceikjbmaa.octetNumbers
