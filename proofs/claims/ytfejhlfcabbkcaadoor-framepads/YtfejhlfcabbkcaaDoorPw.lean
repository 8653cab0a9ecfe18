/- frame.walk with a putter: five kinds. -/
import Derived.Test.YtfejhlfcabbkcaaDoorFr
namespace Go.Proofs.YtfejhlfcabbkcaaDoor
open Go.ChangeShapes Go.WideShapes Go.ChangeAt Go.RowKit
set_option linter.unusedVariables false

set_option maxRecDepth 10000 in
set_option maxHeartbeats 1000000 in
theorem pwalk_1 (p B F : Nat) (X : List UInt8) (r : Bool) (f : Fr) (w : World) (h : WS w p B F X r f) :
    Calls Tryd.prog 12 #[.iface 52 (.pointer (some ⟨p, 0, none⟩)), .int .i64 1, .pointer (some ⟨F, 0, none⟩)] w fun e w' => e = .returned (.tuple #[]) ∧ WS w' p B F (X ++ []) (r || false) f ∧ Gr p B w w' := by
  have HR := mkHid (show WS w p B F (X ++ []) (r || false) f by simpa using h)
  clear h
  go_enter Tryd.func12, Tryd.ntmps12
  go_wp2_with (go_at_call 8; refine (isStr_any _ _ (by decide) (by decide)).mono ?_; rintro e w' ⟨rfl, rfl⟩)
  go_end0
  exact ⟨rfl, HR.out, Gr.refl _ _ _⟩
set_option maxRecDepth 10000 in
set_option maxHeartbeats 1000000 in
theorem pwalk_30 (p B F : Nat) (X : List UInt8) (r : Bool) (f : Fr) (w : World) (h : WS w p B F X r f) :
    Calls Tryd.prog 12 #[.iface 52 (.pointer (some ⟨p, 0, none⟩)), .int .i64 30, .pointer (some ⟨F, 0, none⟩)] w fun e w' => e = .returned (.tuple #[]) ∧ WS w' p B F (X ++ []) (r || false) f ∧ Gr p B w w' := by
  have HR := mkHid (show WS w p B F (X ++ []) (r || false) f by simpa using h)
  clear h
  go_enter Tryd.func12, Tryd.ntmps12
  go_wp2_with (go_at_call 8; refine (isStr_any _ _ (by decide) (by decide)).mono ?_; rintro e w' ⟨rfl, rfl⟩)
  go_end0
  exact ⟨rfl, HR.out, Gr.refl _ _ _⟩
set_option maxRecDepth 10000 in
set_option maxHeartbeats 1000000 in
theorem pwalk_16 (p B F : Nat) (X : List UInt8) (r : Bool) (f : Fr) (w : World) (h : WS w p B F X r f) (hX : X.length ≤ 1024) :
    Calls Tryd.prog 12 #[.iface 52 (.pointer (some ⟨p, 0, none⟩)), .int .i64 16, .pointer (some ⟨F, 0, none⟩)] w fun e w' => e = .returned (.tuple #[]) ∧ WS w' p B F (X ++ encs [f.lim]) (r || bads [f.lim]) f ∧ Gr p B w w' := by
  have hmf : ∀ (fn : Fn) (first cap : Array Value) (w : World), (Instr.makeFunc fn first cap).run Tryd.prog w = .ok (.func fn first cap) w := fun _ _ _ _ => rfl
  have mN := mNum
  have nN := nNum
  have HN := mkHid (h.numbers [(6, f.lim)] (by intro x hx; simp at hx; subst hx; rfl) (by omega) (by simp))
  clear h
  go_enter Tryd.func12, Tryd.ntmps12
  go_wp2_with (go_at_call 8; refine (isStr_any _ _ (by decide) (by decide)).mono ?_; rintro e w' ⟨rfl, rfl⟩)
  go_region_with (go_at_call 11; refine HN.out.mono ?_; rintro e w2 ⟨rfl, HS2, HG2⟩)
  all_goals
    go_wp2
    go_end0
    exact ⟨rfl, HS2.out, HG2.out⟩
set_option maxRecDepth 10000 in
set_option maxHeartbeats 1000000 in
theorem pwalk_25 (p B F : Nat) (X : List UInt8) (r : Bool) (f : Fr) (w : World) (h : WS w p B F X r f) (hX : X.length ≤ 1024) :
    Calls Tryd.prog 12 #[.iface 52 (.pointer (some ⟨p, 0, none⟩)), .int .i64 25, .pointer (some ⟨F, 0, none⟩)] w fun e w' => e = .returned (.tuple #[]) ∧ WS w' p B F (X ++ encs [f.seq]) (r || bads [f.seq]) f ∧ Gr p B w w' := by
  have hmf : ∀ (fn : Fn) (first cap : Array Value) (w : World), (Instr.makeFunc fn first cap).run Tryd.prog w = .ok (.func fn first cap) w := fun _ _ _ _ => rfl
  have mN := mNum
  have nN := nNum
  have HN := mkHid (h.numbers [(14, f.seq)] (by intro x hx; simp at hx; subst hx; rfl) (by omega) (by simp))
  clear h
  go_enter Tryd.func12, Tryd.ntmps12
  go_wp2_with (go_at_call 8; refine (isStr_any _ _ (by decide) (by decide)).mono ?_; rintro e w' ⟨rfl, rfl⟩)
  go_region_with (go_at_call 11; refine HN.out.mono ?_; rintro e w2 ⟨rfl, HS2, HG2⟩)
  all_goals
    go_wp2
    go_end0
    exact ⟨rfl, HS2.out, HG2.out⟩
end Go.Proofs.YtfejhlfcabbkcaaDoor
