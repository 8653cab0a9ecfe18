/- rtt: Sample, whole. -/
import Derived.Test.YthjfhckpgindfaaSa
namespace Go.Proofs.Ythjfhckpgindfaa
open Go.RowKit
set_option linter.unusedVariables false

set_option maxRecDepth 100000 in
theorem sample_no (b : Nat) (v : Rv) (t x : Int) (k : Bool) (w : World) (h : Rt 43 w b v) (ho : v.ok) (hn : t < 0 ∨ 1125899906842624 < t ∨ x < 0) : Calls Try.prog 15 #[.pointer (some ⟨b, 0, none⟩), .int .i64 t, .int .i64 x, .bool k] w fun e w' => e = .returned (.int .i64 2) ∧ Below w.heap.size w w' := by
  have hnn := none_c b v w h ho
  have ht := isTime_c t w
  by_cases hc : 0 ≤ t ∧ t ≤ 1125899906842624
  · rw [decide_eq_true hc] at ht
    have hx : x < 0 := by omega
    go_enter Try.func15, Try.ntmps15
    go_wp2_with fail
    refine hnn.mono ?_
    rintro e w' ⟨rfl, hw'⟩
    subst w'
    go_wp2_with fail
    refine ht.mono ?_
    rintro e w' ⟨rfl, hw'⟩
    have HW : Aside _ := hw'
    clear hw' hnn ht
    go_wp2
    go_ret
    exact ⟨rfl, HW.out⟩
  · rw [decide_eq_false hc] at ht
    go_enter Try.func15, Try.ntmps15
    go_wp2_with fail
    refine hnn.mono ?_
    rintro e w' ⟨rfl, hw'⟩
    subst w'
    go_wp2_with fail
    refine ht.mono ?_
    rintro e w' ⟨rfl, hw'⟩
    have HW : Aside _ := hw'
    clear hw' hnn ht
    go_wp2
    go_ret
    exact ⟨rfl, HW.out⟩
set_option maxRecDepth 100000 in
theorem sample_c (b : Nat) (v : Rv) (t x : Int) (k : Bool) (w : World) (h : Rt 43 w b v) (ho : v.ok) (h0 : 0 ≤ t) (h1 : t ≤ 1125899906842624) (hx : 0 ≤ x) (hx1 : x ≤ 9223372036854775807) : Calls Try.prog 15 #[.pointer (some ⟨b, 0, none⟩), .int .i64 t, .int .i64 x, .bool k] w fun e w' => e = .returned (.int .i64 0) ∧ Rt 43 w' b (v.samp t x k) ∧ Tn b w w' := by
  have hnn := none_c b v w h ho
  have ht := isTime_c t w
  rw [decide_eq_true (And.intro h0 h1)] at ht
  have hx' : ¬ x < 0 := by omega
  have HH : Aside _ := h
  have HO : Aside _ := ho
  clear h ho
  cases hh : v.h with
  | true =>
    go_enter Try.func15, Try.ntmps15
    go_wp2_with fail
    refine hnn.mono ?_
    rintro e w' ⟨rfl, hw'⟩
    subst w'
    go_wp2_with fail
    refine ht.mono ?_
    rintro e w1 ⟨rfl, hw'⟩
    have hr := Rt.below HH.out hw'
    have c1 := hr.cells.2.1
    rw [hh] at c1
    have hf := further_c b v t x k w1 hr HO.out h0 h1 hx hx1
    have HW : Aside _ := hw'
    clear hw' hnn ht hr
    go_wp2_with fail
    refine hf.mono ?_
    rintro e w2 ⟨rfl, hr2, ht2⟩
    have f2 := hr2.frozen 2
    have c2 := hr2.cells.2.2.1
    have HR : Aside (Rt 43 (w2.setCell ⟨b, 2, none⟩ (.int .i64 t)) b (v.samp t x k)) := by
      have := hr2.set 2 (.int .i64 t) (v.samp t x k) (by unfold Rv.samp; rw [if_pos hh]; simp [Rv.cs, hh])
      exact this
    have HT : Aside _ := ((Tn.below HW.out).trans ht2).trans (Tn.set hr2 2 (.int .i64 t))
    clear hr2 ht2 hf c1
    go_wp2
    go_ret
    exact ⟨rfl, HR.out, HT.out⟩
  | false =>
    go_enter Try.func15, Try.ntmps15
    go_wp2_with fail
    refine hnn.mono ?_
    rintro e w' ⟨rfl, hw'⟩
    subst w'
    go_wp2_with fail
    refine ht.mono ?_
    rintro e w1 ⟨rfl, hw'⟩
    have hr := Rt.below HH.out hw'
    have c1 := hr.cells.2.1
    rw [hh] at c1
    have hf := first_c b v t w1 hr h0 h1
    have HW : Aside _ := hw'
    clear hw' hnn ht hr
    go_wp2_with fail
    refine hf.mono ?_
    rintro e w2 ⟨rfl, hr2, ht2⟩
    have f2 := hr2.frozen 2
    have c2 := hr2.cells.2.2.1
    have HR : Aside (Rt 43 (w2.setCell ⟨b, 2, none⟩ (.int .i64 t)) b (v.samp t x k)) := by
      have := hr2.set 2 (.int .i64 t) (v.samp t x k) (by unfold Rv.samp; rw [if_neg (by simp [hh])]; simp [Rv.cs])
      exact this
    have HT : Aside _ := ((Tn.below HW.out).trans ht2).trans (Tn.set hr2 2 (.int .i64 t))
    clear hr2 ht2 hf c1
    go_wp2
    go_ret
    exact ⟨rfl, HR.out, HT.out⟩
end Go.Proofs.Ythjfhckpgindfaa
