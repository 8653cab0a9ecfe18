/- frame.walk with a reader: kinds 24, 25, 26, 27, 28. -/
import Derived.Test.YtaeapgkfmofjlaaDoorSm
namespace Go.Proofs.YtaeapgkfmofjlaaDoor
open Go.ChangeShapes Go.WideShapes Go.ChangeAt Go.RowKit
set_option linter.unusedVariables false
set_option maxRecDepth 10000

set_option maxHeartbeats 1000000 in
theorem rwalk_24 {w0 w : World} {lo p F g off c : Nat} {wa : Option Addr} {l : List UInt8} {a : Fa × Sq} (h : Wk w0 lo p F g off c wa l a w) :
    Calls Tryd.prog 22 #[.iface 72 (.pointer (some ⟨p, 0, none⟩)), .int .i64 24, .pointer (some ⟨F, 0, none⟩)] w fun e w' => e = .returned (.tuple #[]) ∧ Aside (Wk w0 lo p F g off c wa l (yR l (yI l (yNs l (a) [14, 15]))) w') := by
  have hmf : ∀ (fn : Fn) (first cap : Array Value) (w : World), (Instr.makeFunc fn first cap).run Tryd.prog w = .ok (.func fn first cap) w := fun _ _ _ _ => rfl
  have m0N := mArrR
  have n0N := nArrR
  have m1N := mIdR
  have n1N := nIdR
  have m2N := mNumR
  have n2N := nNumR
  have HS1 : Aside (Wk w0 lo p F g off c wa l a w) := h
  clear h
  go_enter Tryd.func22, Tryd.ntmps22
  go_wp2_with (go_at_call 18; refine (isStr_any _ _ (by decide) (by decide)).mono ?_; rintro e w9 ⟨rfl, hw9⟩; subst w9)
  have HN2 := mkHid (Wk.numbers HS1.out [14, 15] (by decide) (by decide))
  go_region_held3 (fun w' => True) (trivial) (first | (go_at_call 99; refine Calls.mono HN2.out ?_; rintro e w2 ⟨rfl, HS2⟩))
  all_goals
    have HN3 := mkHid (Wk.id (Wk.drew HS2.out))
    go_wp2_with fail
    go_region_held3 (fun w' => True) (trivial) (first | (go_at_call 98; refine Calls.mono HN3.out ?_; rintro e w3 ⟨rfl, HS3⟩))
    all_goals
      have HN4 := mkHid (Wk.reset (Wk.drew HS3.out))
      go_wp2_with fail
      go_region_held3 (fun w' => True) (trivial) (first | (go_at_call 96; refine Calls.mono HN4.out ?_; rintro e w4 ⟨rfl, HS4⟩))
      all_goals
        go_wp2
        go_end0
        exact ⟨rfl, HS4⟩
set_option maxHeartbeats 1000000 in
theorem rwalk_25 {w0 w : World} {lo p F g off c : Nat} {wa : Option Addr} {l : List UInt8} {a : Fa × Sq} (h : Wk w0 lo p F g off c wa l a w) :
    Calls Tryd.prog 22 #[.iface 72 (.pointer (some ⟨p, 0, none⟩)), .int .i64 25, .pointer (some ⟨F, 0, none⟩)] w fun e w' => e = .returned (.tuple #[]) ∧ Aside (Wk w0 lo p F g off c wa l (yNs l (a) [14]) w') := by
  have hmf : ∀ (fn : Fn) (first cap : Array Value) (w : World), (Instr.makeFunc fn first cap).run Tryd.prog w = .ok (.func fn first cap) w := fun _ _ _ _ => rfl
  have m0N := mNumR
  have n0N := nNumR
  have HS1 : Aside (Wk w0 lo p F g off c wa l a w) := h
  clear h
  go_enter Tryd.func22, Tryd.ntmps22
  go_wp2_with (go_at_call 18; refine (isStr_any _ _ (by decide) (by decide)).mono ?_; rintro e w9 ⟨rfl, hw9⟩; subst w9)
  have HN2 := mkHid (Wk.numbers HS1.out [14] (by decide) (by decide))
  go_region_held3 (fun w' => True) (trivial) (first | (go_at_call 99; refine Calls.mono HN2.out ?_; rintro e w2 ⟨rfl, HS2⟩))
  all_goals
    go_wp2
    go_end0
    exact ⟨rfl, HS2⟩
set_option maxHeartbeats 1000000 in
theorem rwalk_26 {w0 w : World} {lo p F g off c : Nat} {wa : Option Addr} {l : List UInt8} {a : Fa × Sq} (h : Wk w0 lo p F g off c wa l a w) :
    Calls Tryd.prog 22 #[.iface 72 (.pointer (some ⟨p, 0, none⟩)), .int .i64 26, .pointer (some ⟨F, 0, none⟩)] w fun e w' => e = .returned (.tuple #[]) ∧ Aside (Wk w0 lo p F g off c wa l (yP l (a)) w') := by
  have hmf : ∀ (fn : Fn) (first cap : Array Value) (w : World), (Instr.makeFunc fn first cap).run Tryd.prog w = .ok (.func fn first cap) w := fun _ _ _ _ => rfl
  have m0N := mArrR
  have n0N := nArrR
  have HS1 : Aside (Wk w0 lo p F g off c wa l a w) := h
  clear h
  go_enter Tryd.func22, Tryd.ntmps22
  go_wp2_with (go_at_call 18; refine (isStr_any _ _ (by decide) (by decide)).mono ?_; rintro e w9 ⟨rfl, hw9⟩; subst w9)
  have HN2 := mkHid (Wk.path (Wk.drew HS1.out))
  go_region_held3 (fun w' => True) (trivial) (first | (go_at_call 96; refine Calls.mono HN2.out ?_; rintro e w2 ⟨rfl, HS2⟩))
  all_goals
    go_wp2
    go_end0
    exact ⟨rfl, HS2⟩
set_option maxHeartbeats 1000000 in
theorem rwalk_27 {w0 w : World} {lo p F g off c : Nat} {wa : Option Addr} {l : List UInt8} {a : Fa × Sq} (h : Wk w0 lo p F g off c wa l a w) :
    Calls Tryd.prog 22 #[.iface 72 (.pointer (some ⟨p, 0, none⟩)), .int .i64 27, .pointer (some ⟨F, 0, none⟩)] w fun e w' => e = .returned (.tuple #[]) ∧ Aside (Wk w0 lo p F g off c wa l (yP l (a)) w') := by
  have hmf : ∀ (fn : Fn) (first cap : Array Value) (w : World), (Instr.makeFunc fn first cap).run Tryd.prog w = .ok (.func fn first cap) w := fun _ _ _ _ => rfl
  have m0N := mArrR
  have n0N := nArrR
  have HS1 : Aside (Wk w0 lo p F g off c wa l a w) := h
  clear h
  go_enter Tryd.func22, Tryd.ntmps22
  go_wp2_with (go_at_call 18; refine (isStr_any _ _ (by decide) (by decide)).mono ?_; rintro e w9 ⟨rfl, hw9⟩; subst w9)
  have HN2 := mkHid (Wk.path (Wk.drew HS1.out))
  go_region_held3 (fun w' => True) (trivial) (first | (go_at_call 96; refine Calls.mono HN2.out ?_; rintro e w2 ⟨rfl, HS2⟩))
  all_goals
    go_wp2
    go_end0
    exact ⟨rfl, HS2⟩
set_option maxHeartbeats 1000000 in
theorem rwalk_28 {w0 w : World} {lo p F g off c : Nat} {wa : Option Addr} {l : List UInt8} {a : Fa × Sq} (h : Wk w0 lo p F g off c wa l a w) :
    Calls Tryd.prog 22 #[.iface 72 (.pointer (some ⟨p, 0, none⟩)), .int .i64 28, .pointer (some ⟨F, 0, none⟩)] w fun e w' => e = .returned (.tuple #[]) ∧ Aside (Wk w0 lo p F g off c wa l (yC l (yNs l (a) [7, 8])) w') := by
  have hmf : ∀ (fn : Fn) (first cap : Array Value) (w : World), (Instr.makeFunc fn first cap).run Tryd.prog w = .ok (.func fn first cap) w := fun _ _ _ _ => rfl
  have m0N := mCntR
  have n0N := nCntR
  have m1N := mNumR
  have n1N := nNumR
  have HS1 : Aside (Wk w0 lo p F g off c wa l a w) := h
  clear h
  go_enter Tryd.func22, Tryd.ntmps22
  go_wp2_with (go_at_call 18; refine (isStr_any _ _ (by decide) (by decide)).mono ?_; rintro e w9 ⟨rfl, hw9⟩; subst w9)
  have HN2 := mkHid (Wk.numbers HS1.out [7, 8] (by decide) (by decide))
  go_region_held3 (fun w' => True) (trivial) (first | (go_at_call 99; refine Calls.mono HN2.out ?_; rintro e w2 ⟨rfl, HS2⟩))
  all_goals
    have HN3 := mkHid (Wk.counted (Wk.drew HS2.out))
    go_wp2_with fail
    go_region_held3 (fun w' => True) (trivial) (first | (go_at_call 97; refine Calls.mono HN3.out ?_; rintro e w3 ⟨rfl, HS3⟩))
    all_goals
      go_wp2
      go_end0
      exact ⟨rfl, HS3⟩
end Go.Proofs.YtaeapgkfmofjlaaDoor
