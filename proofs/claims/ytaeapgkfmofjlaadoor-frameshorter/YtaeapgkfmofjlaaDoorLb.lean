/- frame.walk with a reader: kinds 16, 18, 19, 20, 22, 23. -/
import Derived.Test.YtaeapgkfmofjlaaDoorSm
namespace Go.Proofs.YtaeapgkfmofjlaaDoor
open Go.ChangeShapes Go.WideShapes Go.ChangeAt Go.RowKit
set_option linter.unusedVariables false
set_option maxRecDepth 10000

set_option maxHeartbeats 1000000 in
theorem rwalk_16 {w0 w : World} {lo p F g off c : Nat} {wa : Option Addr} {l : List UInt8} {a : Fa × Sq} (h : Wk w0 lo p F g off c wa l a w) :
    Calls Tryd.prog 22 #[.iface 72 (.pointer (some ⟨p, 0, none⟩)), .int .i64 16, .pointer (some ⟨F, 0, none⟩)] w fun e w' => e = .returned (.tuple #[]) ∧ Aside (Wk w0 lo p F g off c wa l (yNs l (a) [6]) w') := by
  have hmf : ∀ (fn : Fn) (first cap : Array Value) (w : World), (Instr.makeFunc fn first cap).run Tryd.prog w = .ok (.func fn first cap) w := fun _ _ _ _ => rfl
  have m0N := mNumR
  have n0N := nNumR
  have HS1 : Aside (Wk w0 lo p F g off c wa l a w) := h
  clear h
  go_enter Tryd.func22, Tryd.ntmps22
  go_wp2_with (go_at_call 18; refine (isStr_any _ _ (by decide) (by decide)).mono ?_; rintro e w9 ⟨rfl, hw9⟩; subst w9)
  have HN2 := mkHid (Wk.numbers HS1.out [6] (by decide) (by decide))
  go_region_held3 (fun w' => True) (trivial) (first | (go_at_call 99; refine Calls.mono HN2.out ?_; rintro e w2 ⟨rfl, HS2⟩))
  all_goals
    go_wp2
    go_end0
    exact ⟨rfl, HS2⟩
set_option maxHeartbeats 1000000 in
theorem rwalk_18 {w0 w : World} {lo p F g off c : Nat} {wa : Option Addr} {l : List UInt8} {a : Fa × Sq} (h : Wk w0 lo p F g off c wa l a w) :
    Calls Tryd.prog 22 #[.iface 72 (.pointer (some ⟨p, 0, none⟩)), .int .i64 18, .pointer (some ⟨F, 0, none⟩)] w fun e w' => e = .returned (.tuple #[]) ∧ Aside (Wk w0 lo p F g off c wa l (yNs l (a) [6]) w') := by
  have hmf : ∀ (fn : Fn) (first cap : Array Value) (w : World), (Instr.makeFunc fn first cap).run Tryd.prog w = .ok (.func fn first cap) w := fun _ _ _ _ => rfl
  have m0N := mNumR
  have n0N := nNumR
  have HS1 : Aside (Wk w0 lo p F g off c wa l a w) := h
  clear h
  go_enter Tryd.func22, Tryd.ntmps22
  go_wp2_with (go_at_call 18; refine (isStr_any _ _ (by decide) (by decide)).mono ?_; rintro e w9 ⟨rfl, hw9⟩; subst w9)
  have HN2 := mkHid (Wk.numbers HS1.out [6] (by decide) (by decide))
  go_region_held3 (fun w' => True) (trivial) (first | (go_at_call 99; refine Calls.mono HN2.out ?_; rintro e w2 ⟨rfl, HS2⟩))
  all_goals
    go_wp2
    go_end0
    exact ⟨rfl, HS2⟩
set_option maxHeartbeats 1000000 in
theorem rwalk_19 {w0 w : World} {lo p F g off c : Nat} {wa : Option Addr} {l : List UInt8} {a : Fa × Sq} (h : Wk w0 lo p F g off c wa l a w) :
    Calls Tryd.prog 22 #[.iface 72 (.pointer (some ⟨p, 0, none⟩)), .int .i64 19, .pointer (some ⟨F, 0, none⟩)] w fun e w' => e = .returned (.tuple #[]) ∧ Aside (Wk w0 lo p F g off c wa l (yNs l (a) [6]) w') := by
  have hmf : ∀ (fn : Fn) (first cap : Array Value) (w : World), (Instr.makeFunc fn first cap).run Tryd.prog w = .ok (.func fn first cap) w := fun _ _ _ _ => rfl
  have m0N := mNumR
  have n0N := nNumR
  have HS1 : Aside (Wk w0 lo p F g off c wa l a w) := h
  clear h
  go_enter Tryd.func22, Tryd.ntmps22
  go_wp2_with (go_at_call 18; refine (isStr_any _ _ (by decide) (by decide)).mono ?_; rintro e w9 ⟨rfl, hw9⟩; subst w9)
  have HN2 := mkHid (Wk.numbers HS1.out [6] (by decide) (by decide))
  go_region_held3 (fun w' => True) (trivial) (first | (go_at_call 99; refine Calls.mono HN2.out ?_; rintro e w2 ⟨rfl, HS2⟩))
  all_goals
    go_wp2
    go_end0
    exact ⟨rfl, HS2⟩
set_option maxHeartbeats 1000000 in
theorem rwalk_20 {w0 w : World} {lo p F g off c : Nat} {wa : Option Addr} {l : List UInt8} {a : Fa × Sq} (h : Wk w0 lo p F g off c wa l a w) :
    Calls Tryd.prog 22 #[.iface 72 (.pointer (some ⟨p, 0, none⟩)), .int .i64 20, .pointer (some ⟨F, 0, none⟩)] w fun e w' => e = .returned (.tuple #[]) ∧ Aside (Wk w0 lo p F g off c wa l (yNs l (a) [6]) w') := by
  have hmf : ∀ (fn : Fn) (first cap : Array Value) (w : World), (Instr.makeFunc fn first cap).run Tryd.prog w = .ok (.func fn first cap) w := fun _ _ _ _ => rfl
  have m0N := mNumR
  have n0N := nNumR
  have HS1 : Aside (Wk w0 lo p F g off c wa l a w) := h
  clear h
  go_enter Tryd.func22, Tryd.ntmps22
  go_wp2_with (go_at_call 18; refine (isStr_any _ _ (by decide) (by decide)).mono ?_; rintro e w9 ⟨rfl, hw9⟩; subst w9)
  have HN2 := mkHid (Wk.numbers HS1.out [6] (by decide) (by decide))
  go_region_held3 (fun w' => True) (trivial) (first | (go_at_call 99; refine Calls.mono HN2.out ?_; rintro e w2 ⟨rfl, HS2⟩))
  all_goals
    go_wp2
    go_end0
    exact ⟨rfl, HS2⟩
set_option maxHeartbeats 1000000 in
theorem rwalk_22 {w0 w : World} {lo p F g off c : Nat} {wa : Option Addr} {l : List UInt8} {a : Fa × Sq} (h : Wk w0 lo p F g off c wa l a w) :
    Calls Tryd.prog 22 #[.iface 72 (.pointer (some ⟨p, 0, none⟩)), .int .i64 22, .pointer (some ⟨F, 0, none⟩)] w fun e w' => e = .returned (.tuple #[]) ∧ Aside (Wk w0 lo p F g off c wa l (yNs l (a) [6]) w') := by
  have hmf : ∀ (fn : Fn) (first cap : Array Value) (w : World), (Instr.makeFunc fn first cap).run Tryd.prog w = .ok (.func fn first cap) w := fun _ _ _ _ => rfl
  have m0N := mNumR
  have n0N := nNumR
  have HS1 : Aside (Wk w0 lo p F g off c wa l a w) := h
  clear h
  go_enter Tryd.func22, Tryd.ntmps22
  go_wp2_with (go_at_call 18; refine (isStr_any _ _ (by decide) (by decide)).mono ?_; rintro e w9 ⟨rfl, hw9⟩; subst w9)
  have HN2 := mkHid (Wk.numbers HS1.out [6] (by decide) (by decide))
  go_region_held3 (fun w' => True) (trivial) (first | (go_at_call 99; refine Calls.mono HN2.out ?_; rintro e w2 ⟨rfl, HS2⟩))
  all_goals
    go_wp2
    go_end0
    exact ⟨rfl, HS2⟩
set_option maxHeartbeats 1000000 in
theorem rwalk_23 {w0 w : World} {lo p F g off c : Nat} {wa : Option Addr} {l : List UInt8} {a : Fa × Sq} (h : Wk w0 lo p F g off c wa l a w) :
    Calls Tryd.prog 22 #[.iface 72 (.pointer (some ⟨p, 0, none⟩)), .int .i64 23, .pointer (some ⟨F, 0, none⟩)] w fun e w' => e = .returned (.tuple #[]) ∧ Aside (Wk w0 lo p F g off c wa l (yNs l (a) [6]) w') := by
  have hmf : ∀ (fn : Fn) (first cap : Array Value) (w : World), (Instr.makeFunc fn first cap).run Tryd.prog w = .ok (.func fn first cap) w := fun _ _ _ _ => rfl
  have m0N := mNumR
  have n0N := nNumR
  have HS1 : Aside (Wk w0 lo p F g off c wa l a w) := h
  clear h
  go_enter Tryd.func22, Tryd.ntmps22
  go_wp2_with (go_at_call 18; refine (isStr_any _ _ (by decide) (by decide)).mono ?_; rintro e w9 ⟨rfl, hw9⟩; subst w9)
  have HN2 := mkHid (Wk.numbers HS1.out [6] (by decide) (by decide))
  go_region_held3 (fun w' => True) (trivial) (first | (go_at_call 99; refine Calls.mono HN2.out ?_; rintro e w2 ⟨rfl, HS2⟩))
  all_goals
    go_wp2
    go_end0
    exact ⟨rfl, HS2⟩
end Go.Proofs.YtaeapgkfmofjlaaDoor
