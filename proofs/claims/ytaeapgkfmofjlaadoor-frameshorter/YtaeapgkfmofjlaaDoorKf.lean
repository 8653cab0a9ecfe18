/- frame.walk with a putter: kinds 12, 13, 14, 15. -/
import Derived.Test.YtaeapgkfmofjlaaDoorAz
namespace Go.Proofs.YtaeapgkfmofjlaaDoor
open Go.ChangeShapes Go.WideShapes Go.ChangeAt Go.RowKit
set_option linter.unusedVariables false
set_option maxRecDepth 10000

set_option maxHeartbeats 1000000 in
theorem pstream_12 (p B F : Nat) (X : List UInt8) (r : Bool) (f : Fr) (d : Da) (w : World) (h : WD w p B F X r f d) (hX : X.length ≤ 1024) :
    Calls Tryd.prog 39 #[.iface 63 (.pointer (some ⟨p, 0, none⟩)), .int .i64 12, .pointer (some ⟨F, 0, none⟩)] w fun e w' => e = .returned (.tuple #[]) ∧ WD w' p B F (X ++ encs [f.s] ++ encs [f.o] ++ rB d.D) (((r || bads [f.s] || bads [f.o])) || bg d.D) f d ∧ Gr p B w w' := by
  have hmf : ∀ (fn : Fn) (first cap : Array Value) (w : World), (Instr.makeFunc fn first cap).run Tryd.prog w = .ok (.func fn first cap) w := fun _ _ _ _ => rfl
  have b4 : bits .and .i64 12 4 = 4 := by decide
  have b2 : bits .and .i64 12 2 = 0 := by decide
  have m0N := mNum
  have n0N := nNum
  have m1N := mRest
  have n1N := nRest
  have HW := mkHid h
  have HX := mkHid hX
  clear h hX
  go_enter Tryd.func39, Tryd.ntmps39
  go_wp2_with fail
  have HN2 := mkHid (WD.numbers HW.out [(1, f.s)] (by intro x hx; simp at hx; subst hx; rfl) (by have hx := HX.out; omega) (by simp))
  go_region_held3 (fun w' => True) (trivial) (first | (go_at_call 21; refine Calls.mono HN2.out ?_; rintro e w2 ⟨rfl, HS2, HG2⟩))
  all_goals
    have HN3 := mkHid (WD.numbers HS2.out [(2, f.o)] (by intro x hx; simp at hx; subst hx; rfl) (by have q0 := encs_le [f.s]; simp only [List.length_cons, List.length_nil] at q0; have hx := HX.out; simp only [List.length_append, List.map_cons, List.map_nil]; omega) (by simp))
    go_wp2_with fail
    go_region_held3 (fun w' => True) (trivial) (first | (go_at_call 21; refine Calls.mono HN3.out ?_; rintro e w3 ⟨rfl, HS3, HG3⟩))
    all_goals
      have HN4 := mkHid (WD.rest (WD.drew HS3.out) (by have q0 := encs_le [f.s]; simp only [List.length_cons, List.length_nil] at q0; have q1 := encs_le [f.o]; simp only [List.length_cons, List.length_nil] at q1; have hx := HX.out; simp only [List.length_append, List.map_cons, List.map_nil]; omega))
      go_wp2_with fail
      go_region_held3 (fun w' => True) (trivial) (first | (go_at_call 93; refine Calls.mono HN4.out ?_; rintro e w4 ⟨rfl, HS4, HG4⟩))
      all_goals
        go_wp2
        go_end0
        have GG : Gr p B w _ := ((HG2.out).trans HG3.out).trans (((Gr.refl p B w3).drew).trans HG4.out)
        exact ⟨rfl, HS4.out, GG⟩
set_option maxHeartbeats 1000000 in
theorem pwalk_12 (p B F : Nat) (X : List UInt8) (r : Bool) (f : Fr) (d : Da) (w : World) (h : WD w p B F X r f d) (hX : X.length ≤ 1024) :
    Calls Tryd.prog 22 #[.iface 63 (.pointer (some ⟨p, 0, none⟩)), .int .i64 12, .pointer (some ⟨F, 0, none⟩)] w fun e w' => e = .returned (.tuple #[]) ∧ WD w' p B F (X ++ encs [f.s] ++ encs [f.o] ++ rB d.D) (((r || bads [f.s] || bads [f.o])) || bg d.D) f d ∧ Gr p B w w' := by
  have h1 := pstream_12 p B F X r f d w h hX
  clear h hX
  go_enter Tryd.func22, Tryd.ntmps22
  go_wp2_with (go_at_call 18; refine (isStr_any _ _ (by decide) (by decide)).mono ?_; rintro e w9 ⟨rfl, hw9⟩; subst w9)
  refine h1.mono ?_
  rintro e w2 ⟨rfl, hr, hg⟩
  have HR := mkHid hr
  have HG := mkHid hg
  clear hr hg h1
  go_wp2
  refine bodyPost_ret (results_none rfl _ _ _) rfl ?_
  exact ⟨rfl, HR.out, HG.out⟩
set_option maxHeartbeats 1000000 in
theorem pstream_13 (p B F : Nat) (X : List UInt8) (r : Bool) (f : Fr) (d : Da) (w : World) (h : WD w p B F X r f d) (hX : X.length ≤ 1024) :
    Calls Tryd.prog 39 #[.iface 63 (.pointer (some ⟨p, 0, none⟩)), .int .i64 13, .pointer (some ⟨F, 0, none⟩)] w fun e w' => e = .returned (.tuple #[]) ∧ WD w' p B F (X ++ encs [f.s] ++ encs [f.o] ++ rB d.D) (((r || bads [f.s] || bads [f.o])) || bg d.D) f d ∧ Gr p B w w' := by
  have hmf : ∀ (fn : Fn) (first cap : Array Value) (w : World), (Instr.makeFunc fn first cap).run Tryd.prog w = .ok (.func fn first cap) w := fun _ _ _ _ => rfl
  have b4 : bits .and .i64 13 4 = 4 := by decide
  have b2 : bits .and .i64 13 2 = 0 := by decide
  have m0N := mNum
  have n0N := nNum
  have m1N := mRest
  have n1N := nRest
  have HW := mkHid h
  have HX := mkHid hX
  clear h hX
  go_enter Tryd.func39, Tryd.ntmps39
  go_wp2_with fail
  have HN2 := mkHid (WD.numbers HW.out [(1, f.s)] (by intro x hx; simp at hx; subst hx; rfl) (by have hx := HX.out; omega) (by simp))
  go_region_held3 (fun w' => True) (trivial) (first | (go_at_call 21; refine Calls.mono HN2.out ?_; rintro e w2 ⟨rfl, HS2, HG2⟩))
  all_goals
    have HN3 := mkHid (WD.numbers HS2.out [(2, f.o)] (by intro x hx; simp at hx; subst hx; rfl) (by have q0 := encs_le [f.s]; simp only [List.length_cons, List.length_nil] at q0; have hx := HX.out; simp only [List.length_append, List.map_cons, List.map_nil]; omega) (by simp))
    go_wp2_with fail
    go_region_held3 (fun w' => True) (trivial) (first | (go_at_call 21; refine Calls.mono HN3.out ?_; rintro e w3 ⟨rfl, HS3, HG3⟩))
    all_goals
      have HN4 := mkHid (WD.rest (WD.drew HS3.out) (by have q0 := encs_le [f.s]; simp only [List.length_cons, List.length_nil] at q0; have q1 := encs_le [f.o]; simp only [List.length_cons, List.length_nil] at q1; have hx := HX.out; simp only [List.length_append, List.map_cons, List.map_nil]; omega))
      go_wp2_with fail
      go_region_held3 (fun w' => True) (trivial) (first | (go_at_call 93; refine Calls.mono HN4.out ?_; rintro e w4 ⟨rfl, HS4, HG4⟩))
      all_goals
        go_wp2
        go_end0
        have GG : Gr p B w _ := ((HG2.out).trans HG3.out).trans (((Gr.refl p B w3).drew).trans HG4.out)
        exact ⟨rfl, HS4.out, GG⟩
set_option maxHeartbeats 1000000 in
theorem pwalk_13 (p B F : Nat) (X : List UInt8) (r : Bool) (f : Fr) (d : Da) (w : World) (h : WD w p B F X r f d) (hX : X.length ≤ 1024) :
    Calls Tryd.prog 22 #[.iface 63 (.pointer (some ⟨p, 0, none⟩)), .int .i64 13, .pointer (some ⟨F, 0, none⟩)] w fun e w' => e = .returned (.tuple #[]) ∧ WD w' p B F (X ++ encs [f.s] ++ encs [f.o] ++ rB d.D) (((r || bads [f.s] || bads [f.o])) || bg d.D) f d ∧ Gr p B w w' := by
  have h1 := pstream_13 p B F X r f d w h hX
  clear h hX
  go_enter Tryd.func22, Tryd.ntmps22
  go_wp2_with (go_at_call 18; refine (isStr_any _ _ (by decide) (by decide)).mono ?_; rintro e w9 ⟨rfl, hw9⟩; subst w9)
  refine h1.mono ?_
  rintro e w2 ⟨rfl, hr, hg⟩
  have HR := mkHid hr
  have HG := mkHid hg
  clear hr hg h1
  go_wp2
  refine bodyPost_ret (results_none rfl _ _ _) rfl ?_
  exact ⟨rfl, HR.out, HG.out⟩
set_option maxHeartbeats 1000000 in
theorem pstream_14 (p B F : Nat) (X : List UInt8) (r : Bool) (f : Fr) (d : Da) (w : World) (h : WD w p B F X r f d) (hX : X.length ≤ 1024) :
    Calls Tryd.prog 39 #[.iface 63 (.pointer (some ⟨p, 0, none⟩)), .int .i64 14, .pointer (some ⟨F, 0, none⟩)] w fun e w' => e = .returned (.tuple #[]) ∧ WD w' p B F (X ++ encs [f.s] ++ encs [f.o] ++ encv d.D.length ++ rB d.D) (((r || bads [f.s] || bads [f.o])) || bg d.D) f d ∧ Gr p B w w' := by
  have hmf : ∀ (fn : Fn) (first cap : Array Value) (w : World), (Instr.makeFunc fn first cap).run Tryd.prog w = .ok (.func fn first cap) w := fun _ _ _ _ => rfl
  have b4 : bits .and .i64 14 4 = 4 := by decide
  have b2 : bits .and .i64 14 2 = 2 := by decide
  have m0N := mCnt
  have n0N := nCnt
  have m1N := mNum
  have n1N := nNum
  have HW := mkHid h
  have HX := mkHid hX
  clear h hX
  go_enter Tryd.func39, Tryd.ntmps39
  go_wp2_with fail
  have HN2 := mkHid (WD.numbers HW.out [(1, f.s)] (by intro x hx; simp at hx; subst hx; rfl) (by have hx := HX.out; omega) (by simp))
  go_region_held3 (fun w' => True) (trivial) (first | (go_at_call 21; refine Calls.mono HN2.out ?_; rintro e w2 ⟨rfl, HS2, HG2⟩))
  all_goals
    have HN3 := mkHid (WD.numbers HS2.out [(2, f.o)] (by intro x hx; simp at hx; subst hx; rfl) (by have q0 := encs_le [f.s]; simp only [List.length_cons, List.length_nil] at q0; have hx := HX.out; simp only [List.length_append, List.map_cons, List.map_nil]; omega) (by simp))
    go_wp2_with fail
    go_region_held3 (fun w' => True) (trivial) (first | (go_at_call 21; refine Calls.mono HN3.out ?_; rintro e w3 ⟨rfl, HS3, HG3⟩))
    all_goals
      have HN4 := mkHid (WD.counted (WD.drew HS3.out) (by have q0 := encs_le [f.s]; simp only [List.length_cons, List.length_nil] at q0; have q1 := encs_le [f.o]; simp only [List.length_cons, List.length_nil] at q1; have hx := HX.out; simp only [List.length_append, List.map_cons, List.map_nil]; omega))
      go_wp2_with fail
      go_region_held3 (fun w' => True) (trivial) (first | (go_at_call 90; refine Calls.mono HN4.out ?_; rintro e w4 ⟨rfl, HS4, HG4⟩))
      all_goals
        go_wp2
        go_end0
        have GG : Gr p B w _ := ((HG2.out).trans HG3.out).trans (((Gr.refl p B w3).drew).trans HG4.out)
        exact ⟨rfl, HS4.out, GG⟩
set_option maxHeartbeats 1000000 in
theorem pwalk_14 (p B F : Nat) (X : List UInt8) (r : Bool) (f : Fr) (d : Da) (w : World) (h : WD w p B F X r f d) (hX : X.length ≤ 1024) :
    Calls Tryd.prog 22 #[.iface 63 (.pointer (some ⟨p, 0, none⟩)), .int .i64 14, .pointer (some ⟨F, 0, none⟩)] w fun e w' => e = .returned (.tuple #[]) ∧ WD w' p B F (X ++ encs [f.s] ++ encs [f.o] ++ encv d.D.length ++ rB d.D) (((r || bads [f.s] || bads [f.o])) || bg d.D) f d ∧ Gr p B w w' := by
  have h1 := pstream_14 p B F X r f d w h hX
  clear h hX
  go_enter Tryd.func22, Tryd.ntmps22
  go_wp2_with (go_at_call 18; refine (isStr_any _ _ (by decide) (by decide)).mono ?_; rintro e w9 ⟨rfl, hw9⟩; subst w9)
  refine h1.mono ?_
  rintro e w2 ⟨rfl, hr, hg⟩
  have HR := mkHid hr
  have HG := mkHid hg
  clear hr hg h1
  go_wp2
  refine bodyPost_ret (results_none rfl _ _ _) rfl ?_
  exact ⟨rfl, HR.out, HG.out⟩
set_option maxHeartbeats 1000000 in
theorem pstream_15 (p B F : Nat) (X : List UInt8) (r : Bool) (f : Fr) (d : Da) (w : World) (h : WD w p B F X r f d) (hX : X.length ≤ 1024) :
    Calls Tryd.prog 39 #[.iface 63 (.pointer (some ⟨p, 0, none⟩)), .int .i64 15, .pointer (some ⟨F, 0, none⟩)] w fun e w' => e = .returned (.tuple #[]) ∧ WD w' p B F (X ++ encs [f.s] ++ encs [f.o] ++ encv d.D.length ++ rB d.D) (((r || bads [f.s] || bads [f.o])) || bg d.D) f d ∧ Gr p B w w' := by
  have hmf : ∀ (fn : Fn) (first cap : Array Value) (w : World), (Instr.makeFunc fn first cap).run Tryd.prog w = .ok (.func fn first cap) w := fun _ _ _ _ => rfl
  have b4 : bits .and .i64 15 4 = 4 := by decide
  have b2 : bits .and .i64 15 2 = 2 := by decide
  have m0N := mCnt
  have n0N := nCnt
  have m1N := mNum
  have n1N := nNum
  have HW := mkHid h
  have HX := mkHid hX
  clear h hX
  go_enter Tryd.func39, Tryd.ntmps39
  go_wp2_with fail
  have HN2 := mkHid (WD.numbers HW.out [(1, f.s)] (by intro x hx; simp at hx; subst hx; rfl) (by have hx := HX.out; omega) (by simp))
  go_region_held3 (fun w' => True) (trivial) (first | (go_at_call 21; refine Calls.mono HN2.out ?_; rintro e w2 ⟨rfl, HS2, HG2⟩))
  all_goals
    have HN3 := mkHid (WD.numbers HS2.out [(2, f.o)] (by intro x hx; simp at hx; subst hx; rfl) (by have q0 := encs_le [f.s]; simp only [List.length_cons, List.length_nil] at q0; have hx := HX.out; simp only [List.length_append, List.map_cons, List.map_nil]; omega) (by simp))
    go_wp2_with fail
    go_region_held3 (fun w' => True) (trivial) (first | (go_at_call 21; refine Calls.mono HN3.out ?_; rintro e w3 ⟨rfl, HS3, HG3⟩))
    all_goals
      have HN4 := mkHid (WD.counted (WD.drew HS3.out) (by have q0 := encs_le [f.s]; simp only [List.length_cons, List.length_nil] at q0; have q1 := encs_le [f.o]; simp only [List.length_cons, List.length_nil] at q1; have hx := HX.out; simp only [List.length_append, List.map_cons, List.map_nil]; omega))
      go_wp2_with fail
      go_region_held3 (fun w' => True) (trivial) (first | (go_at_call 90; refine Calls.mono HN4.out ?_; rintro e w4 ⟨rfl, HS4, HG4⟩))
      all_goals
        go_wp2
        go_end0
        have GG : Gr p B w _ := ((HG2.out).trans HG3.out).trans (((Gr.refl p B w3).drew).trans HG4.out)
        exact ⟨rfl, HS4.out, GG⟩
set_option maxHeartbeats 1000000 in
theorem pwalk_15 (p B F : Nat) (X : List UInt8) (r : Bool) (f : Fr) (d : Da) (w : World) (h : WD w p B F X r f d) (hX : X.length ≤ 1024) :
    Calls Tryd.prog 22 #[.iface 63 (.pointer (some ⟨p, 0, none⟩)), .int .i64 15, .pointer (some ⟨F, 0, none⟩)] w fun e w' => e = .returned (.tuple #[]) ∧ WD w' p B F (X ++ encs [f.s] ++ encs [f.o] ++ encv d.D.length ++ rB d.D) (((r || bads [f.s] || bads [f.o])) || bg d.D) f d ∧ Gr p B w w' := by
  have h1 := pstream_15 p B F X r f d w h hX
  clear h hX
  go_enter Tryd.func22, Tryd.ntmps22
  go_wp2_with (go_at_call 18; refine (isStr_any _ _ (by decide) (by decide)).mono ?_; rintro e w9 ⟨rfl, hw9⟩; subst w9)
  refine h1.mono ?_
  rintro e w2 ⟨rfl, hr, hg⟩
  have HR := mkHid hr
  have HG := mkHid hg
  clear hr hg h1
  go_wp2
  refine bodyPost_ret (results_none rfl _ _ _) rfl ?_
  exact ⟨rfl, HR.out, HG.out⟩
end Go.Proofs.YtaeapgkfmofjlaaDoor
