/- frame.walk with a reader: kinds 8, 9, 10, 11, 12, 13, 14, 15. -/
import Derived.Test.YtaeapgkfmofjlaaDoorSm
namespace Go.Proofs.YtaeapgkfmofjlaaDoor
open Go.ChangeShapes Go.WideShapes Go.ChangeAt Go.RowKit
set_option linter.unusedVariables false
set_option maxRecDepth 10000

set_option maxHeartbeats 1000000 in
theorem rstream_8 {w0 w : World} {lo p F g off c : Nat} {wa : Option Addr} {l : List UInt8} {a : Fa × Sq} (h : Wk w0 lo p F g off c wa l a w) :
    Calls Tryd.prog 39 #[.iface 72 (.pointer (some ⟨p, 0, none⟩)), .int .i64 8, .pointer (some ⟨F, 0, none⟩)] w fun e w' => e = .returned (.tuple #[]) ∧ Aside (Wk w0 lo p F g off c wa l (yE l (yNs l (a) [1])) w') := by
  have hmf : ∀ (fn : Fn) (first cap : Array Value) (w : World), (Instr.makeFunc fn first cap).run Tryd.prog w = .ok (.func fn first cap) w := fun _ _ _ _ => rfl
  have m0N := mNumR
  have n0N := nNumR
  have m1N := mRestR
  have n1N := nRestR
  have b4 : bits .and .i64 8 4 = 0 := by decide
  have b2 : bits .and .i64 8 2 = 0 := by decide
  have HS1 : Aside (Wk w0 lo p F g off c wa l a w) := h
  clear h
  go_enter Tryd.func39, Tryd.ntmps39
  go_wp2_with fail
  have HN2 := mkHid (Wk.numbers HS1.out [1] (by decide) (by decide))
  go_region_held3 (fun w' => True) (trivial) (first | (go_at_call 99; refine Calls.mono HN2.out ?_; rintro e w2 ⟨rfl, HS2⟩))
  all_goals
    have HN3 := mkHid (Wk.rest (Wk.drew HS2.out))
    go_wp2_with fail
    go_region_held3 (fun w' => True) (trivial) (first | (go_at_call 101; refine Calls.mono HN3.out ?_; rintro e w3 ⟨rfl, HS3⟩))
    all_goals
      go_wp2
      go_end0
      exact ⟨rfl, HS3⟩
set_option maxHeartbeats 1000000 in
theorem rwalk_8 {w0 w : World} {lo p F g off c : Nat} {wa : Option Addr} {l : List UInt8} {a : Fa × Sq} (h : Wk w0 lo p F g off c wa l a w) :
    Calls Tryd.prog 22 #[.iface 72 (.pointer (some ⟨p, 0, none⟩)), .int .i64 8, .pointer (some ⟨F, 0, none⟩)] w fun e w' => e = .returned (.tuple #[]) ∧ Aside (Wk w0 lo p F g off c wa l (yE l (yNs l (a) [1])) w') := by
  have hmf : ∀ (fn : Fn) (first cap : Array Value) (w : World), (Instr.makeFunc fn first cap).run Tryd.prog w = .ok (.func fn first cap) w := fun _ _ _ _ => rfl
  have m0N := mNumR
  have n0N := nNumR
  have m1N := mRestR
  have n1N := nRestR
  have b4 : bits .and .i64 8 4 = 0 := by decide
  have b2 : bits .and .i64 8 2 = 0 := by decide
  have HS1 : Aside (Wk w0 lo p F g off c wa l a w) := h
  clear h
  have h1 := rstream_8 HS1.out
  clear HS1
  go_enter Tryd.func22, Tryd.ntmps22
  go_wp2_with (go_at_call 18; refine (isStr_any _ _ (by decide) (by decide)).mono ?_; rintro e w9 ⟨rfl, hw9⟩; subst w9)
  refine h1.mono ?_
  rintro e w2 ⟨rfl, HR⟩
  clear h1
  go_wp2
  refine bodyPost_ret (results_none rfl _ _ _) rfl ?_
  exact ⟨rfl, HR⟩
set_option maxHeartbeats 1000000 in
theorem rstream_9 {w0 w : World} {lo p F g off c : Nat} {wa : Option Addr} {l : List UInt8} {a : Fa × Sq} (h : Wk w0 lo p F g off c wa l a w) :
    Calls Tryd.prog 39 #[.iface 72 (.pointer (some ⟨p, 0, none⟩)), .int .i64 9, .pointer (some ⟨F, 0, none⟩)] w fun e w' => e = .returned (.tuple #[]) ∧ Aside (Wk w0 lo p F g off c wa l (yE l (yNs l (a) [1])) w') := by
  have hmf : ∀ (fn : Fn) (first cap : Array Value) (w : World), (Instr.makeFunc fn first cap).run Tryd.prog w = .ok (.func fn first cap) w := fun _ _ _ _ => rfl
  have m0N := mNumR
  have n0N := nNumR
  have m1N := mRestR
  have n1N := nRestR
  have b4 : bits .and .i64 9 4 = 0 := by decide
  have b2 : bits .and .i64 9 2 = 0 := by decide
  have HS1 : Aside (Wk w0 lo p F g off c wa l a w) := h
  clear h
  go_enter Tryd.func39, Tryd.ntmps39
  go_wp2_with fail
  have HN2 := mkHid (Wk.numbers HS1.out [1] (by decide) (by decide))
  go_region_held3 (fun w' => True) (trivial) (first | (go_at_call 99; refine Calls.mono HN2.out ?_; rintro e w2 ⟨rfl, HS2⟩))
  all_goals
    have HN3 := mkHid (Wk.rest (Wk.drew HS2.out))
    go_wp2_with fail
    go_region_held3 (fun w' => True) (trivial) (first | (go_at_call 101; refine Calls.mono HN3.out ?_; rintro e w3 ⟨rfl, HS3⟩))
    all_goals
      go_wp2
      go_end0
      exact ⟨rfl, HS3⟩
set_option maxHeartbeats 1000000 in
theorem rwalk_9 {w0 w : World} {lo p F g off c : Nat} {wa : Option Addr} {l : List UInt8} {a : Fa × Sq} (h : Wk w0 lo p F g off c wa l a w) :
    Calls Tryd.prog 22 #[.iface 72 (.pointer (some ⟨p, 0, none⟩)), .int .i64 9, .pointer (some ⟨F, 0, none⟩)] w fun e w' => e = .returned (.tuple #[]) ∧ Aside (Wk w0 lo p F g off c wa l (yE l (yNs l (a) [1])) w') := by
  have hmf : ∀ (fn : Fn) (first cap : Array Value) (w : World), (Instr.makeFunc fn first cap).run Tryd.prog w = .ok (.func fn first cap) w := fun _ _ _ _ => rfl
  have m0N := mNumR
  have n0N := nNumR
  have m1N := mRestR
  have n1N := nRestR
  have b4 : bits .and .i64 9 4 = 0 := by decide
  have b2 : bits .and .i64 9 2 = 0 := by decide
  have HS1 : Aside (Wk w0 lo p F g off c wa l a w) := h
  clear h
  have h1 := rstream_9 HS1.out
  clear HS1
  go_enter Tryd.func22, Tryd.ntmps22
  go_wp2_with (go_at_call 18; refine (isStr_any _ _ (by decide) (by decide)).mono ?_; rintro e w9 ⟨rfl, hw9⟩; subst w9)
  refine h1.mono ?_
  rintro e w2 ⟨rfl, HR⟩
  clear h1
  go_wp2
  refine bodyPost_ret (results_none rfl _ _ _) rfl ?_
  exact ⟨rfl, HR⟩
set_option maxHeartbeats 1000000 in
theorem rstream_10 {w0 w : World} {lo p F g off c : Nat} {wa : Option Addr} {l : List UInt8} {a : Fa × Sq} (h : Wk w0 lo p F g off c wa l a w) :
    Calls Tryd.prog 39 #[.iface 72 (.pointer (some ⟨p, 0, none⟩)), .int .i64 10, .pointer (some ⟨F, 0, none⟩)] w fun e w' => e = .returned (.tuple #[]) ∧ Aside (Wk w0 lo p F g off c wa l (yC l (yNs l (a) [1])) w') := by
  have hmf : ∀ (fn : Fn) (first cap : Array Value) (w : World), (Instr.makeFunc fn first cap).run Tryd.prog w = .ok (.func fn first cap) w := fun _ _ _ _ => rfl
  have m0N := mCntR
  have n0N := nCntR
  have m1N := mNumR
  have n1N := nNumR
  have b4 : bits .and .i64 10 4 = 0 := by decide
  have b2 : bits .and .i64 10 2 = 2 := by decide
  have HS1 : Aside (Wk w0 lo p F g off c wa l a w) := h
  clear h
  go_enter Tryd.func39, Tryd.ntmps39
  go_wp2_with fail
  have HN2 := mkHid (Wk.numbers HS1.out [1] (by decide) (by decide))
  go_region_held3 (fun w' => True) (trivial) (first | (go_at_call 99; refine Calls.mono HN2.out ?_; rintro e w2 ⟨rfl, HS2⟩))
  all_goals
    have HN3 := mkHid (Wk.counted (Wk.drew HS2.out))
    go_wp2_with fail
    go_region_held3 (fun w' => True) (trivial) (first | (go_at_call 97; refine Calls.mono HN3.out ?_; rintro e w3 ⟨rfl, HS3⟩))
    all_goals
      go_wp2
      go_end0
      exact ⟨rfl, HS3⟩
set_option maxHeartbeats 1000000 in
theorem rwalk_10 {w0 w : World} {lo p F g off c : Nat} {wa : Option Addr} {l : List UInt8} {a : Fa × Sq} (h : Wk w0 lo p F g off c wa l a w) :
    Calls Tryd.prog 22 #[.iface 72 (.pointer (some ⟨p, 0, none⟩)), .int .i64 10, .pointer (some ⟨F, 0, none⟩)] w fun e w' => e = .returned (.tuple #[]) ∧ Aside (Wk w0 lo p F g off c wa l (yC l (yNs l (a) [1])) w') := by
  have hmf : ∀ (fn : Fn) (first cap : Array Value) (w : World), (Instr.makeFunc fn first cap).run Tryd.prog w = .ok (.func fn first cap) w := fun _ _ _ _ => rfl
  have m0N := mCntR
  have n0N := nCntR
  have m1N := mNumR
  have n1N := nNumR
  have b4 : bits .and .i64 10 4 = 0 := by decide
  have b2 : bits .and .i64 10 2 = 2 := by decide
  have HS1 : Aside (Wk w0 lo p F g off c wa l a w) := h
  clear h
  have h1 := rstream_10 HS1.out
  clear HS1
  go_enter Tryd.func22, Tryd.ntmps22
  go_wp2_with (go_at_call 18; refine (isStr_any _ _ (by decide) (by decide)).mono ?_; rintro e w9 ⟨rfl, hw9⟩; subst w9)
  refine h1.mono ?_
  rintro e w2 ⟨rfl, HR⟩
  clear h1
  go_wp2
  refine bodyPost_ret (results_none rfl _ _ _) rfl ?_
  exact ⟨rfl, HR⟩
set_option maxHeartbeats 1000000 in
theorem rstream_11 {w0 w : World} {lo p F g off c : Nat} {wa : Option Addr} {l : List UInt8} {a : Fa × Sq} (h : Wk w0 lo p F g off c wa l a w) :
    Calls Tryd.prog 39 #[.iface 72 (.pointer (some ⟨p, 0, none⟩)), .int .i64 11, .pointer (some ⟨F, 0, none⟩)] w fun e w' => e = .returned (.tuple #[]) ∧ Aside (Wk w0 lo p F g off c wa l (yC l (yNs l (a) [1])) w') := by
  have hmf : ∀ (fn : Fn) (first cap : Array Value) (w : World), (Instr.makeFunc fn first cap).run Tryd.prog w = .ok (.func fn first cap) w := fun _ _ _ _ => rfl
  have m0N := mCntR
  have n0N := nCntR
  have m1N := mNumR
  have n1N := nNumR
  have b4 : bits .and .i64 11 4 = 0 := by decide
  have b2 : bits .and .i64 11 2 = 2 := by decide
  have HS1 : Aside (Wk w0 lo p F g off c wa l a w) := h
  clear h
  go_enter Tryd.func39, Tryd.ntmps39
  go_wp2_with fail
  have HN2 := mkHid (Wk.numbers HS1.out [1] (by decide) (by decide))
  go_region_held3 (fun w' => True) (trivial) (first | (go_at_call 99; refine Calls.mono HN2.out ?_; rintro e w2 ⟨rfl, HS2⟩))
  all_goals
    have HN3 := mkHid (Wk.counted (Wk.drew HS2.out))
    go_wp2_with fail
    go_region_held3 (fun w' => True) (trivial) (first | (go_at_call 97; refine Calls.mono HN3.out ?_; rintro e w3 ⟨rfl, HS3⟩))
    all_goals
      go_wp2
      go_end0
      exact ⟨rfl, HS3⟩
set_option maxHeartbeats 1000000 in
theorem rwalk_11 {w0 w : World} {lo p F g off c : Nat} {wa : Option Addr} {l : List UInt8} {a : Fa × Sq} (h : Wk w0 lo p F g off c wa l a w) :
    Calls Tryd.prog 22 #[.iface 72 (.pointer (some ⟨p, 0, none⟩)), .int .i64 11, .pointer (some ⟨F, 0, none⟩)] w fun e w' => e = .returned (.tuple #[]) ∧ Aside (Wk w0 lo p F g off c wa l (yC l (yNs l (a) [1])) w') := by
  have hmf : ∀ (fn : Fn) (first cap : Array Value) (w : World), (Instr.makeFunc fn first cap).run Tryd.prog w = .ok (.func fn first cap) w := fun _ _ _ _ => rfl
  have m0N := mCntR
  have n0N := nCntR
  have m1N := mNumR
  have n1N := nNumR
  have b4 : bits .and .i64 11 4 = 0 := by decide
  have b2 : bits .and .i64 11 2 = 2 := by decide
  have HS1 : Aside (Wk w0 lo p F g off c wa l a w) := h
  clear h
  have h1 := rstream_11 HS1.out
  clear HS1
  go_enter Tryd.func22, Tryd.ntmps22
  go_wp2_with (go_at_call 18; refine (isStr_any _ _ (by decide) (by decide)).mono ?_; rintro e w9 ⟨rfl, hw9⟩; subst w9)
  refine h1.mono ?_
  rintro e w2 ⟨rfl, HR⟩
  clear h1
  go_wp2
  refine bodyPost_ret (results_none rfl _ _ _) rfl ?_
  exact ⟨rfl, HR⟩
set_option maxHeartbeats 1000000 in
theorem rstream_12 {w0 w : World} {lo p F g off c : Nat} {wa : Option Addr} {l : List UInt8} {a : Fa × Sq} (h : Wk w0 lo p F g off c wa l a w) :
    Calls Tryd.prog 39 #[.iface 72 (.pointer (some ⟨p, 0, none⟩)), .int .i64 12, .pointer (some ⟨F, 0, none⟩)] w fun e w' => e = .returned (.tuple #[]) ∧ Aside (Wk w0 lo p F g off c wa l (yE l (yNs l (yNs l (a) [1]) [2])) w') := by
  have hmf : ∀ (fn : Fn) (first cap : Array Value) (w : World), (Instr.makeFunc fn first cap).run Tryd.prog w = .ok (.func fn first cap) w := fun _ _ _ _ => rfl
  have m0N := mNumR
  have n0N := nNumR
  have m1N := mRestR
  have n1N := nRestR
  have b4 : bits .and .i64 12 4 = 4 := by decide
  have b2 : bits .and .i64 12 2 = 0 := by decide
  have HS1 : Aside (Wk w0 lo p F g off c wa l a w) := h
  clear h
  go_enter Tryd.func39, Tryd.ntmps39
  go_wp2_with fail
  have HN2 := mkHid (Wk.numbers HS1.out [1] (by decide) (by decide))
  go_region_held3 (fun w' => True) (trivial) (first | (go_at_call 99; refine Calls.mono HN2.out ?_; rintro e w2 ⟨rfl, HS2⟩))
  all_goals
    have HN3 := mkHid (Wk.numbers HS2.out [2] (by decide) (by decide))
    go_wp2_with fail
    go_region_held3 (fun w' => True) (trivial) (first | (go_at_call 99; refine Calls.mono HN3.out ?_; rintro e w3 ⟨rfl, HS3⟩))
    all_goals
      have HN4 := mkHid (Wk.rest (Wk.drew HS3.out))
      go_wp2_with fail
      go_region_held3 (fun w' => True) (trivial) (first | (go_at_call 101; refine Calls.mono HN4.out ?_; rintro e w4 ⟨rfl, HS4⟩))
      all_goals
        go_wp2
        go_end0
        exact ⟨rfl, HS4⟩
set_option maxHeartbeats 1000000 in
theorem rwalk_12 {w0 w : World} {lo p F g off c : Nat} {wa : Option Addr} {l : List UInt8} {a : Fa × Sq} (h : Wk w0 lo p F g off c wa l a w) :
    Calls Tryd.prog 22 #[.iface 72 (.pointer (some ⟨p, 0, none⟩)), .int .i64 12, .pointer (some ⟨F, 0, none⟩)] w fun e w' => e = .returned (.tuple #[]) ∧ Aside (Wk w0 lo p F g off c wa l (yE l (yNs l (yNs l (a) [1]) [2])) w') := by
  have hmf : ∀ (fn : Fn) (first cap : Array Value) (w : World), (Instr.makeFunc fn first cap).run Tryd.prog w = .ok (.func fn first cap) w := fun _ _ _ _ => rfl
  have m0N := mNumR
  have n0N := nNumR
  have m1N := mRestR
  have n1N := nRestR
  have b4 : bits .and .i64 12 4 = 4 := by decide
  have b2 : bits .and .i64 12 2 = 0 := by decide
  have HS1 : Aside (Wk w0 lo p F g off c wa l a w) := h
  clear h
  have h1 := rstream_12 HS1.out
  clear HS1
  go_enter Tryd.func22, Tryd.ntmps22
  go_wp2_with (go_at_call 18; refine (isStr_any _ _ (by decide) (by decide)).mono ?_; rintro e w9 ⟨rfl, hw9⟩; subst w9)
  refine h1.mono ?_
  rintro e w2 ⟨rfl, HR⟩
  clear h1
  go_wp2
  refine bodyPost_ret (results_none rfl _ _ _) rfl ?_
  exact ⟨rfl, HR⟩
set_option maxHeartbeats 1000000 in
theorem rstream_13 {w0 w : World} {lo p F g off c : Nat} {wa : Option Addr} {l : List UInt8} {a : Fa × Sq} (h : Wk w0 lo p F g off c wa l a w) :
    Calls Tryd.prog 39 #[.iface 72 (.pointer (some ⟨p, 0, none⟩)), .int .i64 13, .pointer (some ⟨F, 0, none⟩)] w fun e w' => e = .returned (.tuple #[]) ∧ Aside (Wk w0 lo p F g off c wa l (yE l (yNs l (yNs l (a) [1]) [2])) w') := by
  have hmf : ∀ (fn : Fn) (first cap : Array Value) (w : World), (Instr.makeFunc fn first cap).run Tryd.prog w = .ok (.func fn first cap) w := fun _ _ _ _ => rfl
  have m0N := mNumR
  have n0N := nNumR
  have m1N := mRestR
  have n1N := nRestR
  have b4 : bits .and .i64 13 4 = 4 := by decide
  have b2 : bits .and .i64 13 2 = 0 := by decide
  have HS1 : Aside (Wk w0 lo p F g off c wa l a w) := h
  clear h
  go_enter Tryd.func39, Tryd.ntmps39
  go_wp2_with fail
  have HN2 := mkHid (Wk.numbers HS1.out [1] (by decide) (by decide))
  go_region_held3 (fun w' => True) (trivial) (first | (go_at_call 99; refine Calls.mono HN2.out ?_; rintro e w2 ⟨rfl, HS2⟩))
  all_goals
    have HN3 := mkHid (Wk.numbers HS2.out [2] (by decide) (by decide))
    go_wp2_with fail
    go_region_held3 (fun w' => True) (trivial) (first | (go_at_call 99; refine Calls.mono HN3.out ?_; rintro e w3 ⟨rfl, HS3⟩))
    all_goals
      have HN4 := mkHid (Wk.rest (Wk.drew HS3.out))
      go_wp2_with fail
      go_region_held3 (fun w' => True) (trivial) (first | (go_at_call 101; refine Calls.mono HN4.out ?_; rintro e w4 ⟨rfl, HS4⟩))
      all_goals
        go_wp2
        go_end0
        exact ⟨rfl, HS4⟩
set_option maxHeartbeats 1000000 in
theorem rwalk_13 {w0 w : World} {lo p F g off c : Nat} {wa : Option Addr} {l : List UInt8} {a : Fa × Sq} (h : Wk w0 lo p F g off c wa l a w) :
    Calls Tryd.prog 22 #[.iface 72 (.pointer (some ⟨p, 0, none⟩)), .int .i64 13, .pointer (some ⟨F, 0, none⟩)] w fun e w' => e = .returned (.tuple #[]) ∧ Aside (Wk w0 lo p F g off c wa l (yE l (yNs l (yNs l (a) [1]) [2])) w') := by
  have hmf : ∀ (fn : Fn) (first cap : Array Value) (w : World), (Instr.makeFunc fn first cap).run Tryd.prog w = .ok (.func fn first cap) w := fun _ _ _ _ => rfl
  have m0N := mNumR
  have n0N := nNumR
  have m1N := mRestR
  have n1N := nRestR
  have b4 : bits .and .i64 13 4 = 4 := by decide
  have b2 : bits .and .i64 13 2 = 0 := by decide
  have HS1 : Aside (Wk w0 lo p F g off c wa l a w) := h
  clear h
  have h1 := rstream_13 HS1.out
  clear HS1
  go_enter Tryd.func22, Tryd.ntmps22
  go_wp2_with (go_at_call 18; refine (isStr_any _ _ (by decide) (by decide)).mono ?_; rintro e w9 ⟨rfl, hw9⟩; subst w9)
  refine h1.mono ?_
  rintro e w2 ⟨rfl, HR⟩
  clear h1
  go_wp2
  refine bodyPost_ret (results_none rfl _ _ _) rfl ?_
  exact ⟨rfl, HR⟩
set_option maxHeartbeats 1000000 in
theorem rstream_14 {w0 w : World} {lo p F g off c : Nat} {wa : Option Addr} {l : List UInt8} {a : Fa × Sq} (h : Wk w0 lo p F g off c wa l a w) :
    Calls Tryd.prog 39 #[.iface 72 (.pointer (some ⟨p, 0, none⟩)), .int .i64 14, .pointer (some ⟨F, 0, none⟩)] w fun e w' => e = .returned (.tuple #[]) ∧ Aside (Wk w0 lo p F g off c wa l (yC l (yNs l (yNs l (a) [1]) [2])) w') := by
  have hmf : ∀ (fn : Fn) (first cap : Array Value) (w : World), (Instr.makeFunc fn first cap).run Tryd.prog w = .ok (.func fn first cap) w := fun _ _ _ _ => rfl
  have m0N := mCntR
  have n0N := nCntR
  have m1N := mNumR
  have n1N := nNumR
  have b4 : bits .and .i64 14 4 = 4 := by decide
  have b2 : bits .and .i64 14 2 = 2 := by decide
  have HS1 : Aside (Wk w0 lo p F g off c wa l a w) := h
  clear h
  go_enter Tryd.func39, Tryd.ntmps39
  go_wp2_with fail
  have HN2 := mkHid (Wk.numbers HS1.out [1] (by decide) (by decide))
  go_region_held3 (fun w' => True) (trivial) (first | (go_at_call 99; refine Calls.mono HN2.out ?_; rintro e w2 ⟨rfl, HS2⟩))
  all_goals
    have HN3 := mkHid (Wk.numbers HS2.out [2] (by decide) (by decide))
    go_wp2_with fail
    go_region_held3 (fun w' => True) (trivial) (first | (go_at_call 99; refine Calls.mono HN3.out ?_; rintro e w3 ⟨rfl, HS3⟩))
    all_goals
      have HN4 := mkHid (Wk.counted (Wk.drew HS3.out))
      go_wp2_with fail
      go_region_held3 (fun w' => True) (trivial) (first | (go_at_call 97; refine Calls.mono HN4.out ?_; rintro e w4 ⟨rfl, HS4⟩))
      all_goals
        go_wp2
        go_end0
        exact ⟨rfl, HS4⟩
set_option maxHeartbeats 1000000 in
theorem rwalk_14 {w0 w : World} {lo p F g off c : Nat} {wa : Option Addr} {l : List UInt8} {a : Fa × Sq} (h : Wk w0 lo p F g off c wa l a w) :
    Calls Tryd.prog 22 #[.iface 72 (.pointer (some ⟨p, 0, none⟩)), .int .i64 14, .pointer (some ⟨F, 0, none⟩)] w fun e w' => e = .returned (.tuple #[]) ∧ Aside (Wk w0 lo p F g off c wa l (yC l (yNs l (yNs l (a) [1]) [2])) w') := by
  have hmf : ∀ (fn : Fn) (first cap : Array Value) (w : World), (Instr.makeFunc fn first cap).run Tryd.prog w = .ok (.func fn first cap) w := fun _ _ _ _ => rfl
  have m0N := mCntR
  have n0N := nCntR
  have m1N := mNumR
  have n1N := nNumR
  have b4 : bits .and .i64 14 4 = 4 := by decide
  have b2 : bits .and .i64 14 2 = 2 := by decide
  have HS1 : Aside (Wk w0 lo p F g off c wa l a w) := h
  clear h
  have h1 := rstream_14 HS1.out
  clear HS1
  go_enter Tryd.func22, Tryd.ntmps22
  go_wp2_with (go_at_call 18; refine (isStr_any _ _ (by decide) (by decide)).mono ?_; rintro e w9 ⟨rfl, hw9⟩; subst w9)
  refine h1.mono ?_
  rintro e w2 ⟨rfl, HR⟩
  clear h1
  go_wp2
  refine bodyPost_ret (results_none rfl _ _ _) rfl ?_
  exact ⟨rfl, HR⟩
set_option maxHeartbeats 1000000 in
theorem rstream_15 {w0 w : World} {lo p F g off c : Nat} {wa : Option Addr} {l : List UInt8} {a : Fa × Sq} (h : Wk w0 lo p F g off c wa l a w) :
    Calls Tryd.prog 39 #[.iface 72 (.pointer (some ⟨p, 0, none⟩)), .int .i64 15, .pointer (some ⟨F, 0, none⟩)] w fun e w' => e = .returned (.tuple #[]) ∧ Aside (Wk w0 lo p F g off c wa l (yC l (yNs l (yNs l (a) [1]) [2])) w') := by
  have hmf : ∀ (fn : Fn) (first cap : Array Value) (w : World), (Instr.makeFunc fn first cap).run Tryd.prog w = .ok (.func fn first cap) w := fun _ _ _ _ => rfl
  have m0N := mCntR
  have n0N := nCntR
  have m1N := mNumR
  have n1N := nNumR
  have b4 : bits .and .i64 15 4 = 4 := by decide
  have b2 : bits .and .i64 15 2 = 2 := by decide
  have HS1 : Aside (Wk w0 lo p F g off c wa l a w) := h
  clear h
  go_enter Tryd.func39, Tryd.ntmps39
  go_wp2_with fail
  have HN2 := mkHid (Wk.numbers HS1.out [1] (by decide) (by decide))
  go_region_held3 (fun w' => True) (trivial) (first | (go_at_call 99; refine Calls.mono HN2.out ?_; rintro e w2 ⟨rfl, HS2⟩))
  all_goals
    have HN3 := mkHid (Wk.numbers HS2.out [2] (by decide) (by decide))
    go_wp2_with fail
    go_region_held3 (fun w' => True) (trivial) (first | (go_at_call 99; refine Calls.mono HN3.out ?_; rintro e w3 ⟨rfl, HS3⟩))
    all_goals
      have HN4 := mkHid (Wk.counted (Wk.drew HS3.out))
      go_wp2_with fail
      go_region_held3 (fun w' => True) (trivial) (first | (go_at_call 97; refine Calls.mono HN4.out ?_; rintro e w4 ⟨rfl, HS4⟩))
      all_goals
        go_wp2
        go_end0
        exact ⟨rfl, HS4⟩
set_option maxHeartbeats 1000000 in
theorem rwalk_15 {w0 w : World} {lo p F g off c : Nat} {wa : Option Addr} {l : List UInt8} {a : Fa × Sq} (h : Wk w0 lo p F g off c wa l a w) :
    Calls Tryd.prog 22 #[.iface 72 (.pointer (some ⟨p, 0, none⟩)), .int .i64 15, .pointer (some ⟨F, 0, none⟩)] w fun e w' => e = .returned (.tuple #[]) ∧ Aside (Wk w0 lo p F g off c wa l (yC l (yNs l (yNs l (a) [1]) [2])) w') := by
  have hmf : ∀ (fn : Fn) (first cap : Array Value) (w : World), (Instr.makeFunc fn first cap).run Tryd.prog w = .ok (.func fn first cap) w := fun _ _ _ _ => rfl
  have m0N := mCntR
  have n0N := nCntR
  have m1N := mNumR
  have n1N := nNumR
  have b4 : bits .and .i64 15 4 = 4 := by decide
  have b2 : bits .and .i64 15 2 = 2 := by decide
  have HS1 : Aside (Wk w0 lo p F g off c wa l a w) := h
  clear h
  have h1 := rstream_15 HS1.out
  clear HS1
  go_enter Tryd.func22, Tryd.ntmps22
  go_wp2_with (go_at_call 18; refine (isStr_any _ _ (by decide) (by decide)).mono ?_; rintro e w9 ⟨rfl, hw9⟩; subst w9)
  refine h1.mono ?_
  rintro e w2 ⟨rfl, HR⟩
  clear h1
  go_wp2
  refine bodyPost_ret (results_none rfl _ _ _) rfl ?_
  exact ⟨rfl, HR⟩
end Go.Proofs.YtaeapgkfmofjlaaDoor
