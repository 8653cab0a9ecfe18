/- frame.walk with a reader: six kinds. -/
import Derived.Test.YtfejhlfcabbkcaaDoorRh
import Derived.Deep.RegionWith
namespace Go.Proofs.YtfejhlfcabbkcaaDoor
open Go.ChangeShapes Go.WideShapes Go.ChangeAt Go.RowKit
set_option linter.unusedVariables false
set_option maxRecDepth 100000

theorem mNumR (v : Value) (w : World) : (Go.method 263 58 v "caravel/frame.numbers").run Tryd.prog w = .ok (73, v) w := by kernel_rfl
theorem mArrR (v : Value) (w : World) : (Go.method 263 58 v "caravel/frame.array").run Tryd.prog w = .ok (70, v) w := by kernel_rfl
theorem mPadR (v : Value) (w : World) : (Go.method 263 58 v "caravel/frame.padding").run Tryd.prog w = .ok (74, v) w := by kernel_rfl
theorem nNumR (a : Addr) (w : World) : (nilAhead 263 58 (.pointer (some a)) "caravel/frame.numbers").run Tryd.prog w = .ok (some false) w := by kernel_rfl
theorem nArrR (a : Addr) (w : World) : (nilAhead 263 58 (.pointer (some a)) "caravel/frame.array").run Tryd.prog w = .ok (some false) w := by kernel_rfl
theorem nPadR (a : Addr) (w : World) : (nilAhead 263 58 (.pointer (some a)) "caravel/frame.padding").run Tryd.prog w = .ok (some false) w := by kernel_rfl
section
variable {w w' : World} {p F g off : Nat} {ao : Option Addr} {c : Nat} {l : List UInt8} {at' : Nat} {f : Fr}
set_option maxHeartbeats 1000000 in
theorem rwalk_1 (h : Rq w p F ao c l at' f) :
    Calls Tryd.prog 12 #[.iface 58 (.pointer (some ⟨p, 0, none⟩)), .int .i64 1, .pointer (some ⟨F, 0, none⟩)] w fun e w' => e = .returned (.tuple #[]) ∧ Rp w p F ao c l at' f w' := by
  have HR : Aside (Rp w p F ao c l at' f w) := ⟨h, Chg.refl _ _⟩
  clear h
  go_enter Tryd.func12, Tryd.ntmps12
  go_wp2_with (go_at_call 8; refine (isStr_any _ _ (by decide) (by decide)).mono ?_; rintro e w' ⟨rfl, rfl⟩)
  go_end0
  exact ⟨rfl, HR.out⟩
set_option maxHeartbeats 1000000 in
theorem rwalk_30 (h : Rq w p F ao c l at' f) :
    Calls Tryd.prog 12 #[.iface 58 (.pointer (some ⟨p, 0, none⟩)), .int .i64 30, .pointer (some ⟨F, 0, none⟩)] w fun e w' => e = .returned (.tuple #[]) ∧ Rp w p F ao c l at' f w' := by
  have HR : Aside (Rp w p F ao c l at' f w) := ⟨h, Chg.refl _ _⟩
  clear h
  go_enter Tryd.func12, Tryd.ntmps12
  go_wp2_with (go_at_call 8; refine (isStr_any _ _ (by decide) (by decide)).mono ?_; rintro e w' ⟨rfl, rfl⟩)
  go_end0
  exact ⟨rfl, HR.out⟩
set_option maxHeartbeats 1000000 in
theorem rwalk_16 (h : Rq w p F ao c l at' f) (hE : vE l at' = 0) (b : Nat) (hN : vN l at' = b) :
    Calls Tryd.prog 12 #[.iface 58 (.pointer (some ⟨p, 0, none⟩)), .int .i64 16, .pointer (some ⟨F, 0, none⟩)] w fun e w' => e = .returned (.tuple #[]) ∧ Rp w p F ao c l b { f with lim := vV l at' } w' := by
  have hmf : ∀ (fn : Fn) (first cap : Array Value) (w : World), (Instr.makeFunc fn first cap).run Tryd.prog w = .ok (.func fn first cap) w := fun _ _ _ _ => rfl
  have mN := mNumR
  have nN := nNumR
  have hb1 : Below w.heap.size w (w.alloc (.cells #[.pointer (some ⟨F, 6, none⟩)] 50)).drew := (bel1 w _).drew
  have hn := rnumbers1_c (h.bel hb1) w.heap.size 6 (heap_alloc_new w _) (by have := lt_block h.rd; omega) _ rfl hE b hN { f with lim := vV l at' } rfl
  have HN : Aside (Calls Tryd.prog 73 #[.pointer (some ⟨p, 0, none⟩), .slice (some ⟨w.heap.size, 0, none⟩) 1 1] (w.alloc (.cells #[.pointer (some ⟨F, 6, none⟩)] 50)).drew fun e w' => e = .returned (.tuple #[]) ∧ Aside (Rp w p F ao c l b { f with lim := vV l at' } w')) := hn.mono (by rintro e w' ⟨rfl, x1, x2⟩; exact ⟨rfl, x1, (Chg.of_below hb1).trans x2⟩)
  clear h hb1 hn hE hN
  go_enter Tryd.func12, Tryd.ntmps12
  go_wp2_with (go_at_call 8; refine (isStr_any _ _ (by decide) (by decide)).mono ?_; rintro e w' ⟨rfl, rfl⟩)
  go_region_with (go_at_call 73; refine Calls.mono HN.out ?_; rintro e w2 ⟨rfl, HR⟩)
  all_goals
    go_wp2
    go_end0
    exact ⟨rfl, HR.out⟩
set_option maxHeartbeats 1000000 in
theorem rwalk_25 (h : Rq w p F ao c l at' f) (hE : vE l at' = 0) (b : Nat) (hN : vN l at' = b) :
    Calls Tryd.prog 12 #[.iface 58 (.pointer (some ⟨p, 0, none⟩)), .int .i64 25, .pointer (some ⟨F, 0, none⟩)] w fun e w' => e = .returned (.tuple #[]) ∧ Rp w p F ao c l b { f with seq := vV l at' } w' := by
  have hmf : ∀ (fn : Fn) (first cap : Array Value) (w : World), (Instr.makeFunc fn first cap).run Tryd.prog w = .ok (.func fn first cap) w := fun _ _ _ _ => rfl
  have mN := mNumR
  have nN := nNumR
  have hb1 : Below w.heap.size w (w.alloc (.cells #[.pointer (some ⟨F, 14, none⟩)] 50)).drew := (bel1 w _).drew
  have hn := rnumbers1_c (h.bel hb1) w.heap.size 14 (heap_alloc_new w _) (by have := lt_block h.rd; omega) _ rfl hE b hN { f with seq := vV l at' } rfl
  have HN : Aside (Calls Tryd.prog 73 #[.pointer (some ⟨p, 0, none⟩), .slice (some ⟨w.heap.size, 0, none⟩) 1 1] (w.alloc (.cells #[.pointer (some ⟨F, 14, none⟩)] 50)).drew fun e w' => e = .returned (.tuple #[]) ∧ Aside (Rp w p F ao c l b { f with seq := vV l at' } w')) := hn.mono (by rintro e w' ⟨rfl, x1, x2⟩; exact ⟨rfl, x1, (Chg.of_below hb1).trans x2⟩)
  clear h hb1 hn hE hN
  go_enter Tryd.func12, Tryd.ntmps12
  go_wp2_with (go_at_call 8; refine (isStr_any _ _ (by decide) (by decide)).mono ?_; rintro e w' ⟨rfl, rfl⟩)
  go_region_with (go_at_call 73; refine Calls.mono HN.out ?_; rintro e w2 ⟨rfl, HR⟩)
  all_goals
    go_wp2
    go_end0
    exact ⟨rfl, HR.out⟩
set_option maxHeartbeats 1000000 in
theorem rwalk_26 (h : Rq w p F (some ⟨g, off, none⟩) c l at' f) (hr : f.rs.length = 16) (hp : f.pt.length = 8) (ha : at' + 8 ≤ l.length) (hc : l.length ≤ c) :
    Calls Tryd.prog 12 #[.iface 58 (.pointer (some ⟨p, 0, none⟩)), .int .i64 26, .pointer (some ⟨F, 0, none⟩)] w fun e w' => e = .returned (.tuple #[]) ∧ Rp w p F (some ⟨g, off, none⟩) c l (at' + 8) { f with pt := bc (sub l at' 8) } w' := by
  have hmf : ∀ (fn : Fn) (first cap : Array Value) (w : World), (Instr.makeFunc fn first cap).run Tryd.prog w = .ok (.func fn first cap) w := fun _ _ _ _ => rfl
  have mN := mArrR
  have nN := nArrR
  have hb1 : Below w.heap.size w w.drew := (Below.refl _ w).drew
  have hn := rarray8_c (h.bel hb1) hr hp ha hc
  have HN : Aside (Calls Tryd.prog 70 #[.pointer (some ⟨p, 0, none⟩), .slice (some ⟨F, 33, none⟩) 8 8] w.drew fun e w' => e = .returned (.tuple #[]) ∧ Aside (Rp w p F (some ⟨g, off, none⟩) c l (at' + 8) { f with pt := bc (sub l at' 8) } w')) := hn.mono (by rintro e w' ⟨rfl, x1, x2⟩; exact ⟨rfl, x1, (Chg.of_below hb1).trans x2⟩)
  clear h hb1 hn
  go_enter Tryd.func12, Tryd.ntmps12
  go_wp2_with (go_at_call 8; refine (isStr_any _ _ (by decide) (by decide)).mono ?_; rintro e w' ⟨rfl, rfl⟩)
  go_region_with (go_at_call 70; refine Calls.mono HN.out ?_; rintro e w2 ⟨rfl, HR⟩)
  all_goals
    go_wp2
    go_end0
    exact ⟨rfl, HR.out⟩
set_option maxHeartbeats 1000000 in
theorem rwalk_0 (h : Rq w p F ao c l at' f) (hr : f.rs.length = 16) (hp : f.pt.length = 8) (ha : at' ≤ l.length) (hz : ∀ j (hj : j < l.length), at' ≤ j → l[j] = 0) :
    Calls Tryd.prog 12 #[.iface 58 (.pointer (some ⟨p, 0, none⟩)), .int .i64 0, .pointer (some ⟨F, 0, none⟩)] w fun e w' => e = .returned (.tuple #[]) ∧ Rp w p F ao c l l.length { f with cnt := 1 + (l.length - at' : Nat) } w' := by
  have hmf : ∀ (fn : Fn) (first cap : Array Value) (w : World), (Instr.makeFunc fn first cap).run Tryd.prog w = .ok (.func fn first cap) w := fun _ _ _ _ => rfl
  have mN := mPadR
  have nN := nPadR
  have hb1 : Below w.heap.size w w.drew := (Below.refl _ w).drew
  have hn := rpadding_c (h.bel hb1) hr hp ha hz
  have HN : Aside (Calls Tryd.prog 74 #[.pointer (some ⟨p, 0, none⟩), .pointer (some ⟨F, 41, none⟩)] w.drew fun e w' => e = .returned (.tuple #[]) ∧ Aside (Rp w p F ao c l l.length { f with cnt := 1 + (l.length - at' : Nat) } w')) := hn.mono (by rintro e w' ⟨rfl, x1, x2⟩; exact ⟨rfl, x1, (Chg.of_below hb1).trans x2⟩)
  clear h hb1 hn hz
  go_enter Tryd.func12, Tryd.ntmps12
  go_wp2_with (go_at_call 8; refine (isStr_any _ _ (by decide) (by decide)).mono ?_; rintro e w' ⟨rfl, rfl⟩)
  go_region_with (go_at_call 74; refine Calls.mono HN.out ?_; rintro e w2 ⟨rfl, HR⟩)
  all_goals
    go_wp2
    go_end0
    exact ⟨rfl, HR.out⟩
end
end Go.Proofs.YtfejhlfcabbkcaaDoor
