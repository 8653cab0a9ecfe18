/- frame.walk with a putter: kinds 25, 26, 27, 28, 29, 6. -/
import Derived.Test.YtaeapgkfmofjlaaDoorAz
namespace Go.Proofs.YtaeapgkfmofjlaaDoor
open Go.ChangeShapes Go.WideShapes Go.ChangeAt Go.RowKit
set_option linter.unusedVariables false
set_option maxRecDepth 10000

set_option maxHeartbeats 1000000 in
theorem pwalk_25 (p B F : Nat) (X : List UInt8) (r : Bool) (f : Fr) (d : Da) (w : World) (h : WD w p B F X r f d) (hX : X.length ≤ 1024) :
    Calls Tryd.prog 22 #[.iface 63 (.pointer (some ⟨p, 0, none⟩)), .int .i64 25, .pointer (some ⟨F, 0, none⟩)] w fun e w' => e = .returned (.tuple #[]) ∧ WD w' p B F (X ++ encs [f.seq]) (r || bads [f.seq]) f d ∧ Gr p B w w' := by
  have hmf : ∀ (fn : Fn) (first cap : Array Value) (w : World), (Instr.makeFunc fn first cap).run Tryd.prog w = .ok (.func fn first cap) w := fun _ _ _ _ => rfl
  have m0N := mNum
  have n0N := nNum
  have HW := mkHid h
  have HX := mkHid hX
  clear h hX
  go_enter Tryd.func22, Tryd.ntmps22
  go_wp2_with (go_at_call 18; refine (isStr_any _ _ (by decide) (by decide)).mono ?_; rintro e w9 ⟨rfl, hw9⟩; subst w9)
  have HN2 := mkHid (WD.numbers HW.out [(14, f.seq)] (by intro x hx; simp at hx; subst hx; rfl) (by have hx := HX.out; omega) (by simp))
  go_region_held3 (fun w' => True) (trivial) (first | (go_at_call 21; refine Calls.mono HN2.out ?_; rintro e w2 ⟨rfl, HS2, HG2⟩))
  all_goals
    go_wp2
    go_end0
    have GG : Gr p B w _ := HG2.out
    exact ⟨rfl, HS2.out, GG⟩
set_option maxHeartbeats 1000000 in
theorem pwalk_26 (p B F : Nat) (X : List UInt8) (r : Bool) (f : Fr) (d : Da) (w : World) (h : WD w p B F X r f d) (hX : X.length ≤ 1024) :
    Calls Tryd.prog 22 #[.iface 63 (.pointer (some ⟨p, 0, none⟩)), .int .i64 26, .pointer (some ⟨F, 0, none⟩)] w fun e w' => e = .returned (.tuple #[]) ∧ WD w' p B F (X ++ d.T) (r) f d ∧ Gr p B w w' := by
  have hmf : ∀ (fn : Fn) (first cap : Array Value) (w : World), (Instr.makeFunc fn first cap).run Tryd.prog w = .ok (.func fn first cap) w := fun _ _ _ _ => rfl
  have m0N := mArr
  have n0N := nArr
  have HW := mkHid h
  have HX := mkHid hX
  clear h hX
  go_enter Tryd.func22, Tryd.ntmps22
  go_wp2_with (go_at_call 18; refine (isStr_any _ _ (by decide) (by decide)).mono ?_; rintro e w9 ⟨rfl, hw9⟩; subst w9)
  have HN2 := mkHid (WD.path (WD.drew HW.out) (by have hx := HX.out; omega))
  go_region_held3 (fun w' => True) (trivial) (first | (go_at_call 89; refine Calls.mono HN2.out ?_; rintro e w2 ⟨rfl, HS2, HG2⟩))
  all_goals
    go_wp2
    go_end0
    have GG : Gr p B w _ := (((Gr.refl p B w).drew).trans HG2.out)
    exact ⟨rfl, HS2.out, GG⟩
set_option maxHeartbeats 1000000 in
theorem pwalk_27 (p B F : Nat) (X : List UInt8) (r : Bool) (f : Fr) (d : Da) (w : World) (h : WD w p B F X r f d) (hX : X.length ≤ 1024) :
    Calls Tryd.prog 22 #[.iface 63 (.pointer (some ⟨p, 0, none⟩)), .int .i64 27, .pointer (some ⟨F, 0, none⟩)] w fun e w' => e = .returned (.tuple #[]) ∧ WD w' p B F (X ++ d.T) (r) f d ∧ Gr p B w w' := by
  have hmf : ∀ (fn : Fn) (first cap : Array Value) (w : World), (Instr.makeFunc fn first cap).run Tryd.prog w = .ok (.func fn first cap) w := fun _ _ _ _ => rfl
  have m0N := mArr
  have n0N := nArr
  have HW := mkHid h
  have HX := mkHid hX
  clear h hX
  go_enter Tryd.func22, Tryd.ntmps22
  go_wp2_with (go_at_call 18; refine (isStr_any _ _ (by decide) (by decide)).mono ?_; rintro e w9 ⟨rfl, hw9⟩; subst w9)
  have HN2 := mkHid (WD.path (WD.drew HW.out) (by have hx := HX.out; omega))
  go_region_held3 (fun w' => True) (trivial) (first | (go_at_call 89; refine Calls.mono HN2.out ?_; rintro e w2 ⟨rfl, HS2, HG2⟩))
  all_goals
    go_wp2
    go_end0
    have GG : Gr p B w _ := (((Gr.refl p B w).drew).trans HG2.out)
    exact ⟨rfl, HS2.out, GG⟩
set_option maxHeartbeats 1000000 in
theorem pwalk_28 (p B F : Nat) (X : List UInt8) (r : Bool) (f : Fr) (d : Da) (w : World) (h : WD w p B F X r f d) (hX : X.length ≤ 1024) :
    Calls Tryd.prog 22 #[.iface 63 (.pointer (some ⟨p, 0, none⟩)), .int .i64 28, .pointer (some ⟨F, 0, none⟩)] w fun e w' => e = .returned (.tuple #[]) ∧ WD w' p B F (X ++ encs [f.code, f.of] ++ encv d.D.length ++ rB d.D) ((r || bads [f.code, f.of]) || bg d.D) f d ∧ Gr p B w w' := by
  have hmf : ∀ (fn : Fn) (first cap : Array Value) (w : World), (Instr.makeFunc fn first cap).run Tryd.prog w = .ok (.func fn first cap) w := fun _ _ _ _ => rfl
  have m0N := mCnt
  have n0N := nCnt
  have m1N := mNum
  have n1N := nNum
  have HW := mkHid h
  have HX := mkHid hX
  clear h hX
  go_enter Tryd.func22, Tryd.ntmps22
  go_wp2_with (go_at_call 18; refine (isStr_any _ _ (by decide) (by decide)).mono ?_; rintro e w9 ⟨rfl, hw9⟩; subst w9)
  have HN2 := mkHid (WD.numbers HW.out [(7, f.code), (8, f.of)] (by intro x hx; simp at hx; rcases hx with rfl | rfl <;> rfl) (by have hx := HX.out; omega) (by simp))
  go_region_held3 (fun w' => True) (trivial) (first | (go_at_call 21; refine Calls.mono HN2.out ?_; rintro e w2 ⟨rfl, HS2, HG2⟩))
  all_goals
    have HN3 := mkHid (WD.counted (WD.drew HS2.out) (by have q0 := encs_le [f.code, f.of]; simp only [List.length_cons, List.length_nil] at q0; have hx := HX.out; simp only [List.length_append, List.map_cons, List.map_nil]; omega))
    go_wp2_with fail
    go_region_held3 (fun w' => True) (trivial) (first | (go_at_call 90; refine Calls.mono HN3.out ?_; rintro e w3 ⟨rfl, HS3, HG3⟩))
    all_goals
      go_wp2
      go_end0
      have GG : Gr p B w _ := (HG2.out).trans (((Gr.refl p B w2).drew).trans HG3.out)
      exact ⟨rfl, HS3.out, GG⟩
set_option maxHeartbeats 1000000 in
theorem pwalk_29 (p B F : Nat) (X : List UInt8) (r : Bool) (f : Fr) (d : Da) (w : World) (h : WD w p B F X r f d) (hX : X.length ≤ 1024) :
    Calls Tryd.prog 22 #[.iface 63 (.pointer (some ⟨p, 0, none⟩)), .int .i64 29, .pointer (some ⟨F, 0, none⟩)] w fun e w' => e = .returned (.tuple #[]) ∧ WD w' p B F (X ++ encs [f.code] ++ encv d.D.length ++ rB d.D) ((r || bads [f.code]) || bg d.D) f d ∧ Gr p B w w' := by
  have hmf : ∀ (fn : Fn) (first cap : Array Value) (w : World), (Instr.makeFunc fn first cap).run Tryd.prog w = .ok (.func fn first cap) w := fun _ _ _ _ => rfl
  have m0N := mCnt
  have n0N := nCnt
  have m1N := mNum
  have n1N := nNum
  have HW := mkHid h
  have HX := mkHid hX
  clear h hX
  go_enter Tryd.func22, Tryd.ntmps22
  go_wp2_with (go_at_call 18; refine (isStr_any _ _ (by decide) (by decide)).mono ?_; rintro e w9 ⟨rfl, hw9⟩; subst w9)
  have HN2 := mkHid (WD.numbers HW.out [(7, f.code)] (by intro x hx; simp at hx; subst hx; rfl) (by have hx := HX.out; omega) (by simp))
  go_region_held3 (fun w' => True) (trivial) (first | (go_at_call 21; refine Calls.mono HN2.out ?_; rintro e w2 ⟨rfl, HS2, HG2⟩))
  all_goals
    have HN3 := mkHid (WD.counted (WD.drew HS2.out) (by have q0 := encs_le [f.code]; simp only [List.length_cons, List.length_nil] at q0; have hx := HX.out; simp only [List.length_append, List.map_cons, List.map_nil]; omega))
    go_wp2_with fail
    go_region_held3 (fun w' => True) (trivial) (first | (go_at_call 90; refine Calls.mono HN3.out ?_; rintro e w3 ⟨rfl, HS3, HG3⟩))
    all_goals
      go_wp2
      go_end0
      have GG : Gr p B w _ := (HG2.out).trans (((Gr.refl p B w2).drew).trans HG3.out)
      exact ⟨rfl, HS3.out, GG⟩
set_option maxHeartbeats 1000000 in
theorem pwalk_6 (p B F : Nat) (X : List UInt8) (r : Bool) (f : Fr) (d : Da) (w : World) (h : WD w p B F X r f d) (hX : X.length ≤ 1024) :
    Calls Tryd.prog 22 #[.iface 63 (.pointer (some ⟨p, 0, none⟩)), .int .i64 6, .pointer (some ⟨F, 0, none⟩)] w fun e w' => e = .returned (.tuple #[]) ∧ WD w' p B F (X ++ encs [f.o] ++ encv d.D.length ++ rB d.D) ((r || bads [f.o]) || bg d.D) f d ∧ Gr p B w w' := by
  have hmf : ∀ (fn : Fn) (first cap : Array Value) (w : World), (Instr.makeFunc fn first cap).run Tryd.prog w = .ok (.func fn first cap) w := fun _ _ _ _ => rfl
  have m0N := mCnt
  have n0N := nCnt
  have m1N := mNum
  have n1N := nNum
  have HW := mkHid h
  have HX := mkHid hX
  clear h hX
  go_enter Tryd.func22, Tryd.ntmps22
  go_wp2_with (go_at_call 18; refine (isStr_any _ _ (by decide) (by decide)).mono ?_; rintro e w9 ⟨rfl, hw9⟩; subst w9)
  have HN2 := mkHid (WD.numbers HW.out [(2, f.o)] (by intro x hx; simp at hx; subst hx; rfl) (by have hx := HX.out; omega) (by simp))
  go_region_held3 (fun w' => True) (trivial) (first | (go_at_call 21; refine Calls.mono HN2.out ?_; rintro e w2 ⟨rfl, HS2, HG2⟩))
  all_goals
    have HN3 := mkHid (WD.counted (WD.drew HS2.out) (by have q0 := encs_le [f.o]; simp only [List.length_cons, List.length_nil] at q0; have hx := HX.out; simp only [List.length_append, List.map_cons, List.map_nil]; omega))
    go_wp2_with fail
    go_region_held3 (fun w' => True) (trivial) (first | (go_at_call 90; refine Calls.mono HN3.out ?_; rintro e w3 ⟨rfl, HS3, HG3⟩))
    all_goals
      go_wp2
      go_end0
      have GG : Gr p B w _ := (HG2.out).trans (((Gr.refl p B w2).drew).trans HG3.out)
      exact ⟨rfl, HS3.out, GG⟩
end Go.Proofs.YtaeapgkfmofjlaaDoor
