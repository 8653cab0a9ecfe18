/- frame.walk with a putter: kinds 18, 19, 20, 22, 23, 24. -/
import Derived.Test.YtaeapgkfmofjlaaDoorAz
namespace Go.Proofs.YtaeapgkfmofjlaaDoor
open Go.ChangeShapes Go.WideShapes Go.ChangeAt Go.RowKit
set_option linter.unusedVariables false
set_option maxRecDepth 10000

set_option maxHeartbeats 1000000 in
theorem pwalk_18 (p B F : Nat) (X : List UInt8) (r : Bool) (f : Fr) (d : Da) (w : World) (h : WD w p B F X r f d) (hX : X.length ≤ 1024) :
    Calls Tryd.prog 22 #[.iface 63 (.pointer (some ⟨p, 0, none⟩)), .int .i64 18, .pointer (some ⟨F, 0, none⟩)] w fun e w' => e = .returned (.tuple #[]) ∧ WD w' p B F (X ++ encs [f.lim]) (r || bads [f.lim]) f d ∧ Gr p B w w' := by
  have hmf : ∀ (fn : Fn) (first cap : Array Value) (w : World), (Instr.makeFunc fn first cap).run Tryd.prog w = .ok (.func fn first cap) w := fun _ _ _ _ => rfl
  have m0N := mNum
  have n0N := nNum
  have HW := mkHid h
  have HX := mkHid hX
  clear h hX
  go_enter Tryd.func22, Tryd.ntmps22
  go_wp2_with (go_at_call 18; refine (isStr_any _ _ (by decide) (by decide)).mono ?_; rintro e w9 ⟨rfl, hw9⟩; subst w9)
  have HN2 := mkHid (WD.numbers HW.out [(6, f.lim)] (by intro x hx; simp at hx; subst hx; rfl) (by have hx := HX.out; omega) (by simp))
  go_region_held3 (fun w' => True) (trivial) (first | (go_at_call 21; refine Calls.mono HN2.out ?_; rintro e w2 ⟨rfl, HS2, HG2⟩))
  all_goals
    go_wp2
    go_end0
    have GG : Gr p B w _ := HG2.out
    exact ⟨rfl, HS2.out, GG⟩
set_option maxHeartbeats 1000000 in
theorem pwalk_19 (p B F : Nat) (X : List UInt8) (r : Bool) (f : Fr) (d : Da) (w : World) (h : WD w p B F X r f d) (hX : X.length ≤ 1024) :
    Calls Tryd.prog 22 #[.iface 63 (.pointer (some ⟨p, 0, none⟩)), .int .i64 19, .pointer (some ⟨F, 0, none⟩)] w fun e w' => e = .returned (.tuple #[]) ∧ WD w' p B F (X ++ encs [f.lim]) (r || bads [f.lim]) f d ∧ Gr p B w w' := by
  have hmf : ∀ (fn : Fn) (first cap : Array Value) (w : World), (Instr.makeFunc fn first cap).run Tryd.prog w = .ok (.func fn first cap) w := fun _ _ _ _ => rfl
  have m0N := mNum
  have n0N := nNum
  have HW := mkHid h
  have HX := mkHid hX
  clear h hX
  go_enter Tryd.func22, Tryd.ntmps22
  go_wp2_with (go_at_call 18; refine (isStr_any _ _ (by decide) (by decide)).mono ?_; rintro e w9 ⟨rfl, hw9⟩; subst w9)
  have HN2 := mkHid (WD.numbers HW.out [(6, f.lim)] (by intro x hx; simp at hx; subst hx; rfl) (by have hx := HX.out; omega) (by simp))
  go_region_held3 (fun w' => True) (trivial) (first | (go_at_call 21; refine Calls.mono HN2.out ?_; rintro e w2 ⟨rfl, HS2, HG2⟩))
  all_goals
    go_wp2
    go_end0
    have GG : Gr p B w _ := HG2.out
    exact ⟨rfl, HS2.out, GG⟩
set_option maxHeartbeats 1000000 in
theorem pwalk_20 (p B F : Nat) (X : List UInt8) (r : Bool) (f : Fr) (d : Da) (w : World) (h : WD w p B F X r f d) (hX : X.length ≤ 1024) :
    Calls Tryd.prog 22 #[.iface 63 (.pointer (some ⟨p, 0, none⟩)), .int .i64 20, .pointer (some ⟨F, 0, none⟩)] w fun e w' => e = .returned (.tuple #[]) ∧ WD w' p B F (X ++ encs [f.lim]) (r || bads [f.lim]) f d ∧ Gr p B w w' := by
  have hmf : ∀ (fn : Fn) (first cap : Array Value) (w : World), (Instr.makeFunc fn first cap).run Tryd.prog w = .ok (.func fn first cap) w := fun _ _ _ _ => rfl
  have m0N := mNum
  have n0N := nNum
  have HW := mkHid h
  have HX := mkHid hX
  clear h hX
  go_enter Tryd.func22, Tryd.ntmps22
  go_wp2_with (go_at_call 18; refine (isStr_any _ _ (by decide) (by decide)).mono ?_; rintro e w9 ⟨rfl, hw9⟩; subst w9)
  have HN2 := mkHid (WD.numbers HW.out [(6, f.lim)] (by intro x hx; simp at hx; subst hx; rfl) (by have hx := HX.out; omega) (by simp))
  go_region_held3 (fun w' => True) (trivial) (first | (go_at_call 21; refine Calls.mono HN2.out ?_; rintro e w2 ⟨rfl, HS2, HG2⟩))
  all_goals
    go_wp2
    go_end0
    have GG : Gr p B w _ := HG2.out
    exact ⟨rfl, HS2.out, GG⟩
set_option maxHeartbeats 1000000 in
theorem pwalk_22 (p B F : Nat) (X : List UInt8) (r : Bool) (f : Fr) (d : Da) (w : World) (h : WD w p B F X r f d) (hX : X.length ≤ 1024) :
    Calls Tryd.prog 22 #[.iface 63 (.pointer (some ⟨p, 0, none⟩)), .int .i64 22, .pointer (some ⟨F, 0, none⟩)] w fun e w' => e = .returned (.tuple #[]) ∧ WD w' p B F (X ++ encs [f.lim]) (r || bads [f.lim]) f d ∧ Gr p B w w' := by
  have hmf : ∀ (fn : Fn) (first cap : Array Value) (w : World), (Instr.makeFunc fn first cap).run Tryd.prog w = .ok (.func fn first cap) w := fun _ _ _ _ => rfl
  have m0N := mNum
  have n0N := nNum
  have HW := mkHid h
  have HX := mkHid hX
  clear h hX
  go_enter Tryd.func22, Tryd.ntmps22
  go_wp2_with (go_at_call 18; refine (isStr_any _ _ (by decide) (by decide)).mono ?_; rintro e w9 ⟨rfl, hw9⟩; subst w9)
  have HN2 := mkHid (WD.numbers HW.out [(6, f.lim)] (by intro x hx; simp at hx; subst hx; rfl) (by have hx := HX.out; omega) (by simp))
  go_region_held3 (fun w' => True) (trivial) (first | (go_at_call 21; refine Calls.mono HN2.out ?_; rintro e w2 ⟨rfl, HS2, HG2⟩))
  all_goals
    go_wp2
    go_end0
    have GG : Gr p B w _ := HG2.out
    exact ⟨rfl, HS2.out, GG⟩
set_option maxHeartbeats 1000000 in
theorem pwalk_23 (p B F : Nat) (X : List UInt8) (r : Bool) (f : Fr) (d : Da) (w : World) (h : WD w p B F X r f d) (hX : X.length ≤ 1024) :
    Calls Tryd.prog 22 #[.iface 63 (.pointer (some ⟨p, 0, none⟩)), .int .i64 23, .pointer (some ⟨F, 0, none⟩)] w fun e w' => e = .returned (.tuple #[]) ∧ WD w' p B F (X ++ encs [f.lim]) (r || bads [f.lim]) f d ∧ Gr p B w w' := by
  have hmf : ∀ (fn : Fn) (first cap : Array Value) (w : World), (Instr.makeFunc fn first cap).run Tryd.prog w = .ok (.func fn first cap) w := fun _ _ _ _ => rfl
  have m0N := mNum
  have n0N := nNum
  have HW := mkHid h
  have HX := mkHid hX
  clear h hX
  go_enter Tryd.func22, Tryd.ntmps22
  go_wp2_with (go_at_call 18; refine (isStr_any _ _ (by decide) (by decide)).mono ?_; rintro e w9 ⟨rfl, hw9⟩; subst w9)
  have HN2 := mkHid (WD.numbers HW.out [(6, f.lim)] (by intro x hx; simp at hx; subst hx; rfl) (by have hx := HX.out; omega) (by simp))
  go_region_held3 (fun w' => True) (trivial) (first | (go_at_call 21; refine Calls.mono HN2.out ?_; rintro e w2 ⟨rfl, HS2, HG2⟩))
  all_goals
    go_wp2
    go_end0
    have GG : Gr p B w _ := HG2.out
    exact ⟨rfl, HS2.out, GG⟩
set_option maxHeartbeats 1000000 in
theorem pwalk_24 (p B F : Nat) (X : List UInt8) (r : Bool) (f : Fr) (d : Da) (w : World) (h : WD w p B F X r f d) (hX : X.length ≤ 1024) (hI : d.I.length ≤ 20) :
    Calls Tryd.prog 22 #[.iface 63 (.pointer (some ⟨p, 0, none⟩)), .int .i64 24, .pointer (some ⟨F, 0, none⟩)] w fun e w' => e = .returned (.tuple #[]) ∧ WD w' p B F (X ++ encs [f.seq, f.ret] ++ [UInt8.ofNat d.I.length] ++ d.I ++ d.R) (r || bads [f.seq, f.ret]) f d ∧ Gr p B w w' := by
  have hmf : ∀ (fn : Fn) (first cap : Array Value) (w : World), (Instr.makeFunc fn first cap).run Tryd.prog w = .ok (.func fn first cap) w := fun _ _ _ _ => rfl
  have m0N := mArr
  have n0N := nArr
  have m1N := mId
  have n1N := nId
  have m2N := mNum
  have n2N := nNum
  have HW := mkHid h
  have HX := mkHid hX
  have HI := mkHid hI
  clear h hX hI
  go_enter Tryd.func22, Tryd.ntmps22
  go_wp2_with (go_at_call 18; refine (isStr_any _ _ (by decide) (by decide)).mono ?_; rintro e w9 ⟨rfl, hw9⟩; subst w9)
  have HN2 := mkHid (WD.numbers HW.out [(14, f.seq), (15, f.ret)] (by intro x hx; simp at hx; rcases hx with rfl | rfl <;> rfl) (by have hx := HX.out; omega) (by simp))
  go_region_held3 (fun w' => True) (trivial) (first | (go_at_call 21; refine Calls.mono HN2.out ?_; rintro e w2 ⟨rfl, HS2, HG2⟩))
  all_goals
    have HN3 := mkHid (WD.id (WD.drew HS2.out) (by have q0 := encs_le [f.seq, f.ret]; simp only [List.length_cons, List.length_nil] at q0; have hx := HX.out; simp only [List.length_append, List.map_cons, List.map_nil]; omega) HI.out)
    go_wp2_with fail
    go_region_held3 (fun w' => True) (trivial) (first | (go_at_call 91; refine Calls.mono HN3.out ?_; rintro e w3 ⟨rfl, HS3, HG3⟩))
    skip
    have HN4 := mkHid (WD.reset (WD.drew HS3.out) (by have q0 := encs_le [f.seq, f.ret]; simp only [List.length_cons, List.length_nil] at q0; have q1 := HI.out; have hx := HX.out; simp only [List.length_append, List.map_cons, List.map_nil, List.length_cons, List.length_nil]; omega))
    go_wp2_with fail
    go_region_held3 (fun w' => True) (trivial) (first | (go_at_call 89; refine Calls.mono HN4.out ?_; rintro e w4 ⟨rfl, HS4, HG4⟩))
    all_goals
      go_wp2
      go_end0
      have GG : Gr p B w _ := ((HG2.out).trans (((Gr.refl p B w2).drew).trans HG3.out)).trans (((Gr.refl p B w3).drew).trans HG4.out)
      exact ⟨rfl, HS4.out, GG⟩
end Go.Proofs.YtaeapgkfmofjlaaDoor
