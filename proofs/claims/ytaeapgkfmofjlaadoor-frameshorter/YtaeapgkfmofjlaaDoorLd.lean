/- frame.walk with a reader: kinds 29, 6, 7, 49, 48. -/
import Derived.Test.YtaeapgkfmofjlaaDoorSm
namespace Go.Proofs.YtaeapgkfmofjlaaDoor
open Go.ChangeShapes Go.WideShapes Go.ChangeAt Go.RowKit
set_option linter.unusedVariables false
set_option maxRecDepth 10000

set_option maxHeartbeats 1000000 in
theorem rwalk_29 {w0 w : World} {lo p F g off c : Nat} {wa : Option Addr} {l : List UInt8} {a : Fa × Sq} (h : Wk w0 lo p F g off c wa l a w) :
    Calls Tryd.prog 22 #[.iface 72 (.pointer (some ⟨p, 0, none⟩)), .int .i64 29, .pointer (some ⟨F, 0, none⟩)] w fun e w' => e = .returned (.tuple #[]) ∧ Aside (Wk w0 lo p F g off c wa l (yC l (yNs l (a) [7])) w') := by
  have hmf : ∀ (fn : Fn) (first cap : Array Value) (w : World), (Instr.makeFunc fn first cap).run Tryd.prog w = .ok (.func fn first cap) w := fun _ _ _ _ => rfl
  have m0N := mCntR
  have n0N := nCntR
  have m1N := mNumR
  have n1N := nNumR
  have HS1 : Aside (Wk w0 lo p F g off c wa l a w) := h
  clear h
  go_enter Tryd.func22, Tryd.ntmps22
  go_wp2_with (go_at_call 18; refine (isStr_any _ _ (by decide) (by decide)).mono ?_; rintro e w9 ⟨rfl, hw9⟩; subst w9)
  have HN2 := mkHid (Wk.numbers HS1.out [7] (by decide) (by decide))
  go_region_held3 (fun w' => True) (trivial) (first | (go_at_call 99; refine Calls.mono HN2.out ?_; rintro e w2 ⟨rfl, HS2⟩))
  all_goals
    have HN3 := mkHid (Wk.counted (Wk.drew HS2.out))
    go_wp2_with fail
    go_region_held3 (fun w' => True) (trivial) (first | (go_at_call 97; refine Calls.mono HN3.out ?_; rintro e w3 ⟨rfl, HS3⟩))
    all_goals
      go_wp2
      go_end0
      exact ⟨rfl, HS3⟩
set_option maxHeartbeats 1000000 in
theorem rwalk_6 {w0 w : World} {lo p F g off c : Nat} {wa : Option Addr} {l : List UInt8} {a : Fa × Sq} (h : Wk w0 lo p F g off c wa l a w) :
    Calls Tryd.prog 22 #[.iface 72 (.pointer (some ⟨p, 0, none⟩)), .int .i64 6, .pointer (some ⟨F, 0, none⟩)] w fun e w' => e = .returned (.tuple #[]) ∧ Aside (Wk w0 lo p F g off c wa l (yC l (yNs l (a) [2])) w') := by
  have hmf : ∀ (fn : Fn) (first cap : Array Value) (w : World), (Instr.makeFunc fn first cap).run Tryd.prog w = .ok (.func fn first cap) w := fun _ _ _ _ => rfl
  have m0N := mCntR
  have n0N := nCntR
  have m1N := mNumR
  have n1N := nNumR
  have HS1 : Aside (Wk w0 lo p F g off c wa l a w) := h
  clear h
  go_enter Tryd.func22, Tryd.ntmps22
  go_wp2_with (go_at_call 18; refine (isStr_any _ _ (by decide) (by decide)).mono ?_; rintro e w9 ⟨rfl, hw9⟩; subst w9)
  have HN2 := mkHid (Wk.numbers HS1.out [2] (by decide) (by decide))
  go_region_held3 (fun w' => True) (trivial) (first | (go_at_call 99; refine Calls.mono HN2.out ?_; rintro e w2 ⟨rfl, HS2⟩))
  all_goals
    have HN3 := mkHid (Wk.counted (Wk.drew HS2.out))
    go_wp2_with fail
    go_region_held3 (fun w' => True) (trivial) (first | (go_at_call 97; refine Calls.mono HN3.out ?_; rintro e w3 ⟨rfl, HS3⟩))
    all_goals
      go_wp2
      go_end0
      exact ⟨rfl, HS3⟩
set_option maxHeartbeats 1000000 in
theorem rwalk_7 {w0 w : World} {lo p F g off c : Nat} {wa : Option Addr} {l : List UInt8} {a : Fa × Sq} (h : Wk w0 lo p F g off c wa l a w) :
    Calls Tryd.prog 22 #[.iface 72 (.pointer (some ⟨p, 0, none⟩)), .int .i64 7, .pointer (some ⟨F, 0, none⟩)] w fun e w' => e = .returned (.tuple #[]) ∧ Aside (Wk w0 lo p F g off c wa l (yC l (a)) w') := by
  have hmf : ∀ (fn : Fn) (first cap : Array Value) (w : World), (Instr.makeFunc fn first cap).run Tryd.prog w = .ok (.func fn first cap) w := fun _ _ _ _ => rfl
  have m0N := mCntR
  have n0N := nCntR
  have HS1 : Aside (Wk w0 lo p F g off c wa l a w) := h
  clear h
  go_enter Tryd.func22, Tryd.ntmps22
  go_wp2_with (go_at_call 18; refine (isStr_any _ _ (by decide) (by decide)).mono ?_; rintro e w9 ⟨rfl, hw9⟩; subst w9)
  have HN2 := mkHid (Wk.counted (Wk.drew HS1.out))
  go_region_held3 (fun w' => True) (trivial) (first | (go_at_call 97; refine Calls.mono HN2.out ?_; rintro e w2 ⟨rfl, HS2⟩))
  all_goals
    go_wp2
    go_end0
    exact ⟨rfl, HS2⟩
set_option maxHeartbeats 1000000 in
theorem rwalk_49 {w0 w : World} {lo p F g off c : Nat} {wa : Option Addr} {l : List UInt8} {a : Fa × Sq} (h : Wk w0 lo p F g off c wa l a w) :
    Calls Tryd.prog 22 #[.iface 72 (.pointer (some ⟨p, 0, none⟩)), .int .i64 49, .pointer (some ⟨F, 0, none⟩)] w fun e w' => e = .returned (.tuple #[]) ∧ Aside (Wk w0 lo p F g off c wa l (yC l (a)) w') := by
  have hmf : ∀ (fn : Fn) (first cap : Array Value) (w : World), (Instr.makeFunc fn first cap).run Tryd.prog w = .ok (.func fn first cap) w := fun _ _ _ _ => rfl
  have m0N := mCntR
  have n0N := nCntR
  have HS1 : Aside (Wk w0 lo p F g off c wa l a w) := h
  clear h
  go_enter Tryd.func22, Tryd.ntmps22
  go_wp2_with (go_at_call 18; refine (isStr_any _ _ (by decide) (by decide)).mono ?_; rintro e w9 ⟨rfl, hw9⟩; subst w9)
  have HN2 := mkHid (Wk.counted (Wk.drew HS1.out))
  go_region_held3 (fun w' => True) (trivial) (first | (go_at_call 97; refine Calls.mono HN2.out ?_; rintro e w2 ⟨rfl, HS2⟩))
  all_goals
    go_wp2
    go_end0
    exact ⟨rfl, HS2⟩
set_option maxHeartbeats 1000000 in
theorem rwalk_48 {w0 w : World} {lo p F g off c : Nat} {wa : Option Addr} {l : List UInt8} {a : Fa × Sq} (h : Wk w0 lo p F g off c wa l a w) :
    Calls Tryd.prog 22 #[.iface 72 (.pointer (some ⟨p, 0, none⟩)), .int .i64 48, .pointer (some ⟨F, 0, none⟩)] w fun e w' => e = .returned (.tuple #[]) ∧ Aside (Wk w0 lo p F g off c wa l (yE l (a)) w') := by
  have hmf : ∀ (fn : Fn) (first cap : Array Value) (w : World), (Instr.makeFunc fn first cap).run Tryd.prog w = .ok (.func fn first cap) w := fun _ _ _ _ => rfl
  have m0N := mRestR
  have n0N := nRestR
  have HS1 : Aside (Wk w0 lo p F g off c wa l a w) := h
  clear h
  go_enter Tryd.func22, Tryd.ntmps22
  go_wp2_with (go_at_call 18; refine (isStr_any _ _ (by decide) (by decide)).mono ?_; rintro e w9 ⟨rfl, hw9⟩; subst w9)
  have HN2 := mkHid (Wk.rest (Wk.drew HS1.out))
  go_region_held3 (fun w' => True) (trivial) (first | (go_at_call 101; refine Calls.mono HN2.out ?_; rintro e w2 ⟨rfl, HS2⟩))
  all_goals
    go_wp2
    go_end0
    exact ⟨rfl, HS2⟩
end Go.Proofs.YtaeapgkfmofjlaaDoor
