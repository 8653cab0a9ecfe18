/- frame.walk with a putter: kinds 7, 49, 48, 0, 2, 3. -/
import Derived.Test.YtaeapgkfmofjlaaDoorAz
namespace Go.Proofs.YtaeapgkfmofjlaaDoor
open Go.ChangeShapes Go.WideShapes Go.ChangeAt Go.RowKit
set_option linter.unusedVariables false
set_option maxRecDepth 10000

set_option maxHeartbeats 1000000 in
theorem pwalk_7 (p B F : Nat) (X : List UInt8) (r : Bool) (f : Fr) (d : Da) (w : World) (h : WD w p B F X r f d) (hX : X.length ≤ 1024) :
    Calls Tryd.prog 22 #[.iface 63 (.pointer (some ⟨p, 0, none⟩)), .int .i64 7, .pointer (some ⟨F, 0, none⟩)] w fun e w' => e = .returned (.tuple #[]) ∧ WD w' p B F (X ++ encv d.D.length ++ rB d.D) (r || bg d.D) f d ∧ Gr p B w w' := by
  have hmf : ∀ (fn : Fn) (first cap : Array Value) (w : World), (Instr.makeFunc fn first cap).run Tryd.prog w = .ok (.func fn first cap) w := fun _ _ _ _ => rfl
  have m0N := mCnt
  have n0N := nCnt
  have HW := mkHid h
  have HX := mkHid hX
  clear h hX
  go_enter Tryd.func22, Tryd.ntmps22
  go_wp2_with (go_at_call 18; refine (isStr_any _ _ (by decide) (by decide)).mono ?_; rintro e w9 ⟨rfl, hw9⟩; subst w9)
  have HN2 := mkHid (WD.counted (WD.drew HW.out) (by have hx := HX.out; omega))
  go_region_held3 (fun w' => True) (trivial) (first | (go_at_call 90; refine Calls.mono HN2.out ?_; rintro e w2 ⟨rfl, HS2, HG2⟩))
  all_goals
    go_wp2
    go_end0
    have GG : Gr p B w _ := (((Gr.refl p B w).drew).trans HG2.out)
    exact ⟨rfl, HS2.out, GG⟩
set_option maxHeartbeats 1000000 in
theorem pwalk_49 (p B F : Nat) (X : List UInt8) (r : Bool) (f : Fr) (d : Da) (w : World) (h : WD w p B F X r f d) (hX : X.length ≤ 1024) :
    Calls Tryd.prog 22 #[.iface 63 (.pointer (some ⟨p, 0, none⟩)), .int .i64 49, .pointer (some ⟨F, 0, none⟩)] w fun e w' => e = .returned (.tuple #[]) ∧ WD w' p B F (X ++ encv d.D.length ++ rB d.D) (r || bg d.D) f d ∧ Gr p B w w' := by
  have hmf : ∀ (fn : Fn) (first cap : Array Value) (w : World), (Instr.makeFunc fn first cap).run Tryd.prog w = .ok (.func fn first cap) w := fun _ _ _ _ => rfl
  have m0N := mCnt
  have n0N := nCnt
  have HW := mkHid h
  have HX := mkHid hX
  clear h hX
  go_enter Tryd.func22, Tryd.ntmps22
  go_wp2_with (go_at_call 18; refine (isStr_any _ _ (by decide) (by decide)).mono ?_; rintro e w9 ⟨rfl, hw9⟩; subst w9)
  have HN2 := mkHid (WD.counted (WD.drew HW.out) (by have hx := HX.out; omega))
  go_region_held3 (fun w' => True) (trivial) (first | (go_at_call 90; refine Calls.mono HN2.out ?_; rintro e w2 ⟨rfl, HS2, HG2⟩))
  all_goals
    go_wp2
    go_end0
    have GG : Gr p B w _ := (((Gr.refl p B w).drew).trans HG2.out)
    exact ⟨rfl, HS2.out, GG⟩
set_option maxHeartbeats 1000000 in
theorem pwalk_48 (p B F : Nat) (X : List UInt8) (r : Bool) (f : Fr) (d : Da) (w : World) (h : WD w p B F X r f d) (hX : X.length ≤ 1024) :
    Calls Tryd.prog 22 #[.iface 63 (.pointer (some ⟨p, 0, none⟩)), .int .i64 48, .pointer (some ⟨F, 0, none⟩)] w fun e w' => e = .returned (.tuple #[]) ∧ WD w' p B F (X ++ rB d.D) (r || bg d.D) f d ∧ Gr p B w w' := by
  have hmf : ∀ (fn : Fn) (first cap : Array Value) (w : World), (Instr.makeFunc fn first cap).run Tryd.prog w = .ok (.func fn first cap) w := fun _ _ _ _ => rfl
  have m0N := mRest
  have n0N := nRest
  have HW := mkHid h
  have HX := mkHid hX
  clear h hX
  go_enter Tryd.func22, Tryd.ntmps22
  go_wp2_with (go_at_call 18; refine (isStr_any _ _ (by decide) (by decide)).mono ?_; rintro e w9 ⟨rfl, hw9⟩; subst w9)
  have HN2 := mkHid (WD.rest (WD.drew HW.out) (by have hx := HX.out; omega))
  go_region_held3 (fun w' => True) (trivial) (first | (go_at_call 93; refine Calls.mono HN2.out ?_; rintro e w2 ⟨rfl, HS2, HG2⟩))
  all_goals
    go_wp2
    go_end0
    have GG : Gr p B w _ := (((Gr.refl p B w).drew).trans HG2.out)
    exact ⟨rfl, HS2.out, GG⟩
set_option maxHeartbeats 1000000 in
theorem pwalk_0 (p B F : Nat) (X : List UInt8) (r : Bool) (f : Fr) (d : Da) (w : World) (h : WD w p B F X r f d) (hX : X.length ≤ 1024) (hX0 : 0 < X.length) (hc : 1 ≤ f.cnt) :
    Calls Tryd.prog 22 #[.iface 63 (.pointer (some ⟨p, 0, none⟩)), .int .i64 0, .pointer (some ⟨F, 0, none⟩)] w fun e w' => e = .returned (.tuple #[]) ∧ WD w' p B F (X ++ padB f.cnt) (r || decide (1048576 < f.cnt)) f d ∧ Gr p B w w' := by
  have hmf : ∀ (fn : Fn) (first cap : Array Value) (w : World), (Instr.makeFunc fn first cap).run Tryd.prog w = .ok (.func fn first cap) w := fun _ _ _ _ => rfl
  have m0N := mPad
  have n0N := nPad
  have HW := mkHid h
  have HX := mkHid hX
  have HX0 := mkHid hX0
  have HC := mkHid hc
  clear h hX hX0 hc
  go_enter Tryd.func22, Tryd.ntmps22
  go_wp2_with (go_at_call 18; refine (isStr_any _ _ (by decide) (by decide)).mono ?_; rintro e w9 ⟨rfl, hw9⟩; subst w9)
  have HN2 := mkHid (WD.padding (WD.drew HW.out) (by have hx := HX.out; omega) HX0.out HC.out)
  go_region_held3 (fun w' => True) (trivial) (first | (go_at_call 92; refine Calls.mono HN2.out ?_; rintro e w2 ⟨rfl, HS2, HG2⟩))
  all_goals
    go_wp2
    go_end0
    have GG : Gr p B w _ := (((Gr.refl p B w).drew).trans HG2.out)
    exact ⟨rfl, HS2.out, GG⟩
set_option maxHeartbeats 1000000 in
theorem pwalk_2 (p B F : Nat) (X : List UInt8) (r : Bool) (f : Fr) (d : Da) (w : World) (h : WD w p B F X r f d) (hX : X.length ≤ 1024) :
    Calls Tryd.prog 22 #[.iface 63 (.pointer (some ⟨p, 0, none⟩)), .int .i64 2, .pointer (some ⟨F, 0, none⟩)] w fun e w' => e = .returned (.tuple #[]) ∧ WD w' p B F (X ++ ackB d.A f.del) (r || ackX d.A f.del) f d ∧ Gr p B w w' := by
  have hmf : ∀ (fn : Fn) (first cap : Array Value) (w : World), (Instr.makeFunc fn first cap).run Tryd.prog w = .ok (.func fn first cap) w := fun _ _ _ _ => rfl
  have m0N := mAck
  have n0N := nAck
  have HW := mkHid h
  have HX := mkHid hX
  clear h hX
  go_enter Tryd.func22, Tryd.ntmps22
  go_wp2_with (go_at_call 18; refine (isStr_any _ _ (by decide) (by decide)).mono ?_; rintro e w9 ⟨rfl, hw9⟩; subst w9)
  have HN2 := mkHid (WD.acks HW.out (by have hx := HX.out; omega))
  go_wp2_with fail
  refine Calls.mono HN2.out ?_
  rintro e w2 ⟨rfl, HS2, HG2⟩
  all_goals
    go_wp2
    go_end0
    have GG : Gr p B w _ := HG2.out
    exact ⟨rfl, HS2.out, GG⟩
set_option maxHeartbeats 1000000 in
theorem pwalk_3 (p B F : Nat) (X : List UInt8) (r : Bool) (f : Fr) (d : Da) (w : World) (h : WD w p B F X r f d) (hX : X.length ≤ 1024) :
    Calls Tryd.prog 22 #[.iface 63 (.pointer (some ⟨p, 0, none⟩)), .int .i64 3, .pointer (some ⟨F, 0, none⟩)] w fun e w' => e = .returned (.tuple #[]) ∧ WD w' p B F (X ++ ackB d.A f.del ++ encs [f.e0, f.e1, f.e2]) ((r || ackX d.A f.del || bads [f.e0, f.e1, f.e2])) f d ∧ Gr p B w w' := by
  have hmf : ∀ (fn : Fn) (first cap : Array Value) (w : World), (Instr.makeFunc fn first cap).run Tryd.prog w = .ok (.func fn first cap) w := fun _ _ _ _ => rfl
  have m0N := mAck
  have n0N := nAck
  have m1N := mNum
  have n1N := nNum
  have HW := mkHid h
  have HX := mkHid hX
  clear h hX
  go_enter Tryd.func22, Tryd.ntmps22
  go_wp2_with (go_at_call 18; refine (isStr_any _ _ (by decide) (by decide)).mono ?_; rintro e w9 ⟨rfl, hw9⟩; subst w9)
  have HN2 := mkHid (WD.acks HW.out (by have hx := HX.out; omega))
  go_wp2_with fail
  refine Calls.mono HN2.out ?_
  rintro e w2 ⟨rfl, HS2, HG2⟩
  all_goals
    have HN3 := mkHid (WD.numbers HS2.out [(11, f.e0), (12, f.e1), (13, f.e2)] (by intro x hx; simp at hx; rcases hx with rfl | rfl | rfl <;> rfl) (by have q0 := ackB_le d.A f.del; have hx := HX.out; simp only [List.length_append]; omega) (by simp))
    go_wp2_with fail
    go_region_held3 (fun w' => True) (trivial) (first | (go_at_call 21; refine Calls.mono HN3.out ?_; rintro e w3 ⟨rfl, HS3, HG3⟩))
    all_goals
      go_wp2
      go_end0
      have GG : Gr p B w _ := (HG2.out).trans HG3.out
      exact ⟨rfl, HS3.out, GG⟩
end Go.Proofs.YtaeapgkfmofjlaaDoor
