/- frame.walk with a putter: kinds 1, 30, 4, 5, 17, 21, 16. -/
import Derived.Test.YtaeapgkfmofjlaaDoorAz
namespace Go.Proofs.YtaeapgkfmofjlaaDoor
open Go.ChangeShapes Go.WideShapes Go.ChangeAt Go.RowKit
set_option linter.unusedVariables false
set_option maxRecDepth 10000

set_option maxHeartbeats 1000000 in
theorem pwalk_1 (p B F : Nat) (X : List UInt8) (r : Bool) (f : Fr) (d : Da) (w : World) (h : WD w p B F X r f d) (hX : X.length ≤ 1024) :
    Calls Tryd.prog 22 #[.iface 63 (.pointer (some ⟨p, 0, none⟩)), .int .i64 1, .pointer (some ⟨F, 0, none⟩)] w fun e w' => e = .returned (.tuple #[]) ∧ WD w' p B F (X) (r) f d ∧ Gr p B w w' := by
  have hmf : ∀ (fn : Fn) (first cap : Array Value) (w : World), (Instr.makeFunc fn first cap).run Tryd.prog w = .ok (.func fn first cap) w := fun _ _ _ _ => rfl
  have HW := mkHid h
  have HX := mkHid hX
  clear h hX
  go_enter Tryd.func22, Tryd.ntmps22
  go_wp2_with (go_at_call 18; refine (isStr_any _ _ (by decide) (by decide)).mono ?_; rintro e w9 ⟨rfl, hw9⟩; subst w9)
  go_end0
  have GG : Gr p B w w := Gr.refl _ _ _
  exact ⟨rfl, by simpa using HW.out, GG⟩
set_option maxHeartbeats 1000000 in
theorem pwalk_30 (p B F : Nat) (X : List UInt8) (r : Bool) (f : Fr) (d : Da) (w : World) (h : WD w p B F X r f d) (hX : X.length ≤ 1024) :
    Calls Tryd.prog 22 #[.iface 63 (.pointer (some ⟨p, 0, none⟩)), .int .i64 30, .pointer (some ⟨F, 0, none⟩)] w fun e w' => e = .returned (.tuple #[]) ∧ WD w' p B F (X) (r) f d ∧ Gr p B w w' := by
  have hmf : ∀ (fn : Fn) (first cap : Array Value) (w : World), (Instr.makeFunc fn first cap).run Tryd.prog w = .ok (.func fn first cap) w := fun _ _ _ _ => rfl
  have HW := mkHid h
  have HX := mkHid hX
  clear h hX
  go_enter Tryd.func22, Tryd.ntmps22
  go_wp2_with (go_at_call 18; refine (isStr_any _ _ (by decide) (by decide)).mono ?_; rintro e w9 ⟨rfl, hw9⟩; subst w9)
  go_end0
  have GG : Gr p B w w := Gr.refl _ _ _
  exact ⟨rfl, by simpa using HW.out, GG⟩
set_option maxHeartbeats 1000000 in
theorem pwalk_4 (p B F : Nat) (X : List UInt8) (r : Bool) (f : Fr) (d : Da) (w : World) (h : WD w p B F X r f d) (hX : X.length ≤ 1024) :
    Calls Tryd.prog 22 #[.iface 63 (.pointer (some ⟨p, 0, none⟩)), .int .i64 4, .pointer (some ⟨F, 0, none⟩)] w fun e w' => e = .returned (.tuple #[]) ∧ WD w' p B F (X ++ encs [f.s, f.code, f.lim]) (r || bads [f.s, f.code, f.lim]) f d ∧ Gr p B w w' := by
  have hmf : ∀ (fn : Fn) (first cap : Array Value) (w : World), (Instr.makeFunc fn first cap).run Tryd.prog w = .ok (.func fn first cap) w := fun _ _ _ _ => rfl
  have m0N := mNum
  have n0N := nNum
  have HW := mkHid h
  have HX := mkHid hX
  clear h hX
  go_enter Tryd.func22, Tryd.ntmps22
  go_wp2_with (go_at_call 18; refine (isStr_any _ _ (by decide) (by decide)).mono ?_; rintro e w9 ⟨rfl, hw9⟩; subst w9)
  have HN2 := mkHid (WD.numbers HW.out [(1, f.s), (7, f.code), (6, f.lim)] (by intro x hx; simp at hx; rcases hx with rfl | rfl | rfl <;> rfl) (by have hx := HX.out; omega) (by simp))
  go_region_held3 (fun w' => True) (trivial) (first | (go_at_call 21; refine Calls.mono HN2.out ?_; rintro e w2 ⟨rfl, HS2, HG2⟩))
  all_goals
    go_wp2
    go_end0
    have GG : Gr p B w _ := HG2.out
    exact ⟨rfl, HS2.out, GG⟩
set_option maxHeartbeats 1000000 in
theorem pwalk_5 (p B F : Nat) (X : List UInt8) (r : Bool) (f : Fr) (d : Da) (w : World) (h : WD w p B F X r f d) (hX : X.length ≤ 1024) :
    Calls Tryd.prog 22 #[.iface 63 (.pointer (some ⟨p, 0, none⟩)), .int .i64 5, .pointer (some ⟨F, 0, none⟩)] w fun e w' => e = .returned (.tuple #[]) ∧ WD w' p B F (X ++ encs [f.s, f.code]) (r || bads [f.s, f.code]) f d ∧ Gr p B w w' := by
  have hmf : ∀ (fn : Fn) (first cap : Array Value) (w : World), (Instr.makeFunc fn first cap).run Tryd.prog w = .ok (.func fn first cap) w := fun _ _ _ _ => rfl
  have m0N := mNum
  have n0N := nNum
  have HW := mkHid h
  have HX := mkHid hX
  clear h hX
  go_enter Tryd.func22, Tryd.ntmps22
  go_wp2_with (go_at_call 18; refine (isStr_any _ _ (by decide) (by decide)).mono ?_; rintro e w9 ⟨rfl, hw9⟩; subst w9)
  have HN2 := mkHid (WD.numbers HW.out [(1, f.s), (7, f.code)] (by intro x hx; simp at hx; rcases hx with rfl | rfl <;> rfl) (by have hx := HX.out; omega) (by simp))
  go_region_held3 (fun w' => True) (trivial) (first | (go_at_call 21; refine Calls.mono HN2.out ?_; rintro e w2 ⟨rfl, HS2, HG2⟩))
  all_goals
    go_wp2
    go_end0
    have GG : Gr p B w _ := HG2.out
    exact ⟨rfl, HS2.out, GG⟩
set_option maxHeartbeats 1000000 in
theorem pwalk_17 (p B F : Nat) (X : List UInt8) (r : Bool) (f : Fr) (d : Da) (w : World) (h : WD w p B F X r f d) (hX : X.length ≤ 1024) :
    Calls Tryd.prog 22 #[.iface 63 (.pointer (some ⟨p, 0, none⟩)), .int .i64 17, .pointer (some ⟨F, 0, none⟩)] w fun e w' => e = .returned (.tuple #[]) ∧ WD w' p B F (X ++ encs [f.s] ++ encs [f.lim]) ((r || bads [f.s] || bads [f.lim])) f d ∧ Gr p B w w' := by
  have hmf : ∀ (fn : Fn) (first cap : Array Value) (w : World), (Instr.makeFunc fn first cap).run Tryd.prog w = .ok (.func fn first cap) w := fun _ _ _ _ => rfl
  have m0N := mNum
  have n0N := nNum
  have HW := mkHid h
  have HX := mkHid hX
  clear h hX
  go_enter Tryd.func22, Tryd.ntmps22
  go_wp2_with (go_at_call 18; refine (isStr_any _ _ (by decide) (by decide)).mono ?_; rintro e w9 ⟨rfl, hw9⟩; subst w9)
  have HN2 := mkHid (WD.numbers HW.out [(1, f.s)] (by intro x hx; simp at hx; subst hx; rfl) (by have hx := HX.out; omega) (by simp))
  go_region_held3 (fun w' => True) (trivial) (first | (go_at_call 21; refine Calls.mono HN2.out ?_; rintro e w2 ⟨rfl, HS2, HG2⟩))
  all_goals
    have HN3 := mkHid (WD.numbers HS2.out [(6, f.lim)] (by intro x hx; simp at hx; subst hx; rfl) (by have q0 := encs_le [f.s]; simp only [List.length_cons, List.length_nil] at q0; have hx := HX.out; simp only [List.length_append, List.map_cons, List.map_nil]; omega) (by simp))
    go_wp2_with fail
    go_region_held3 (fun w' => True) (trivial) (first | (go_at_call 21; refine Calls.mono HN3.out ?_; rintro e w3 ⟨rfl, HS3, HG3⟩))
    all_goals
      go_wp2
      go_end0
      have GG : Gr p B w _ := (HG2.out).trans HG3.out
      exact ⟨rfl, HS3.out, GG⟩
set_option maxHeartbeats 1000000 in
theorem pwalk_21 (p B F : Nat) (X : List UInt8) (r : Bool) (f : Fr) (d : Da) (w : World) (h : WD w p B F X r f d) (hX : X.length ≤ 1024) :
    Calls Tryd.prog 22 #[.iface 63 (.pointer (some ⟨p, 0, none⟩)), .int .i64 21, .pointer (some ⟨F, 0, none⟩)] w fun e w' => e = .returned (.tuple #[]) ∧ WD w' p B F (X ++ encs [f.s] ++ encs [f.lim]) ((r || bads [f.s] || bads [f.lim])) f d ∧ Gr p B w w' := by
  have hmf : ∀ (fn : Fn) (first cap : Array Value) (w : World), (Instr.makeFunc fn first cap).run Tryd.prog w = .ok (.func fn first cap) w := fun _ _ _ _ => rfl
  have m0N := mNum
  have n0N := nNum
  have HW := mkHid h
  have HX := mkHid hX
  clear h hX
  go_enter Tryd.func22, Tryd.ntmps22
  go_wp2_with (go_at_call 18; refine (isStr_any _ _ (by decide) (by decide)).mono ?_; rintro e w9 ⟨rfl, hw9⟩; subst w9)
  have HN2 := mkHid (WD.numbers HW.out [(1, f.s)] (by intro x hx; simp at hx; subst hx; rfl) (by have hx := HX.out; omega) (by simp))
  go_region_held3 (fun w' => True) (trivial) (first | (go_at_call 21; refine Calls.mono HN2.out ?_; rintro e w2 ⟨rfl, HS2, HG2⟩))
  all_goals
    have HN3 := mkHid (WD.numbers HS2.out [(6, f.lim)] (by intro x hx; simp at hx; subst hx; rfl) (by have q0 := encs_le [f.s]; simp only [List.length_cons, List.length_nil] at q0; have hx := HX.out; simp only [List.length_append, List.map_cons, List.map_nil]; omega) (by simp))
    go_wp2_with fail
    go_region_held3 (fun w' => True) (trivial) (first | (go_at_call 21; refine Calls.mono HN3.out ?_; rintro e w3 ⟨rfl, HS3, HG3⟩))
    all_goals
      go_wp2
      go_end0
      have GG : Gr p B w _ := (HG2.out).trans HG3.out
      exact ⟨rfl, HS3.out, GG⟩
set_option maxHeartbeats 1000000 in
theorem pwalk_16 (p B F : Nat) (X : List UInt8) (r : Bool) (f : Fr) (d : Da) (w : World) (h : WD w p B F X r f d) (hX : X.length ≤ 1024) :
    Calls Tryd.prog 22 #[.iface 63 (.pointer (some ⟨p, 0, none⟩)), .int .i64 16, .pointer (some ⟨F, 0, none⟩)] w fun e w' => e = .returned (.tuple #[]) ∧ WD w' p B F (X ++ encs [f.lim]) (r || bads [f.lim]) f d ∧ Gr p B w w' := by
  have hmf : ∀ (fn : Fn) (first cap : Array Value) (w : World), (Instr.makeFunc fn first cap).run Tryd.prog w = .ok (.func fn first cap) w := fun _ _ _ _ => rfl
  have m0N := mNum
  have n0N := nNum
  have HW := mkHid h
  have HX := mkHid hX
  clear h hX
  go_enter Tryd.func22, Tryd.ntmps22
  go_wp2_with (go_at_call 18; refine (isStr_any _ _ (by decide) (by decide)).mono ?_; rintro e w9 ⟨rfl, hw9⟩; subst w9)
  have HN2 := mkHid (WD.numbers HW.out [(6, f.lim)] (by intro x hx; simp at hx; subst hx; rfl) (by have hx := HX.out; omega) (by simp))
  go_region_held3 (fun w' => True) (trivial) (first | (go_at_call 21; refine Calls.mono HN2.out ?_; rintro e w2 ⟨rfl, HS2, HG2⟩))
  all_goals
    go_wp2
    go_end0
    have GG : Gr p B w _ := HG2.out
    exact ⟨rfl, HS2.out, GG⟩
end Go.Proofs.YtaeapgkfmofjlaaDoor
