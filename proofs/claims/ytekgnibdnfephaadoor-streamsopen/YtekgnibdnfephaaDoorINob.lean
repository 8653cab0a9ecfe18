/- A box that is nil, or that no call made: what each call of inbox answers for it; InboxNobody's walk. -/
import Derived.Test.YtekgnibdnfephaaDoorNob
import Derived.WalkKit
import Derived.ProofKit
import Derived.OpenShut
namespace Go.Proofs.YtekgnibdnfephaaDoor
open Go.RowKit
set_option linter.unusedVariables false

/-- A box that is none: nil, or a plain one. -/
def NoI (w : World) (p : Option Addr) : Prop := p = none ∨ ∃ b, p = some ⟨b, 0, none⟩ ∧ w.cell? ⟨b, 0, none⟩ = some (.map none)

theorem eql_map_none (w : World) : (binOp .eql 99 (.map none) (.map none)).run Tryd.prog w = .ok (.bool true) w := by
  kernel_rfl
theorem eql_map_some (x : Nat) (w : World) : (binOp .eql 99 (.map (some x)) (.map none)).run Tryd.prog w = .ok (.bool false) w := by
  kernel_rfl
attribute [local go_sem] eql_map_none

theorem no_none (p : Option Addr) (w : World) (h : NoI w p) : Calls Tryd.prog 43 #[.pointer p] w fun e w' => e = .returned (.bool true) ∧ w' = w := by
  rcases h with rfl | ⟨b, rfl, hc⟩
  · go_enter Tryd.func43, Tryd.ntmps43
    go_wp2
    go_ret
    exact ⟨rfl, rfl⟩
  · go_enter Tryd.func43, Tryd.ntmps43
    go_wp2
    go_ret
    exact ⟨rfl, rfl⟩

theorem no_read (p : Option Addr) (n : Int) (w : World) (h : NoI w p) : Calls Tryd.prog 78 #[.pointer p, .int .i64 n] w fun e w' => e = .returned (.tuple #[.slice none 0 0, .bool false]) ∧ w' = w := by
  go_enter Tryd.func78, Tryd.ntmps78
  go_wp2_with fail
  refine (no_none p w h).mono ?_
  rintro e w' ⟨rfl, rfl⟩
  go_wp2
  go_ret2
  exact ⟨rfl, rfl⟩

theorem no_final (p : Option Addr) (w : World) (h : NoI w p) : Calls Tryd.prog 68 #[.pointer p] w fun e w' => e = .returned (.tuple #[.int .i64 0, .bool false]) ∧ w' = w := by
  go_enter Tryd.func68, Tryd.ntmps68
  go_wp2_with fail
  refine (no_none p w h).mono ?_
  rintro e w' ⟨rfl, rfl⟩
  go_wp2
  go_ret2
  exact ⟨rfl, rfl⟩

theorem no_put (p : Option Addr) (o : Int) (s : Value) (f : Bool) (w : World) (h : NoI w p) : Calls Tryd.prog 63 #[.pointer p, .int .i64 o, s, .bool f] w fun e w' => e = .returned (.int .i64 1) ∧ w' = w := by
  go_enter Tryd.func63, Tryd.ntmps63
  go_wp2_with fail
  refine (no_none p w h).mono ?_
  rintro e w' ⟨rfl, rfl⟩
  go_wp2
  go_ret
  exact ⟨rfl, rfl⟩

theorem no_grow (p : Option Addr) (n : Int) (w : World) (h : NoI w p) : Calls Tryd.prog 76 #[.pointer p, .int .i64 n] w fun e w' => e = .returned (.int .i64 1) ∧ w' = w := by
  go_enter Tryd.func76, Tryd.ntmps76
  go_wp2_with fail
  refine (no_none p w h).mono ?_
  rintro e w' ⟨rfl, rfl⟩
  go_wp2
  go_ret
  exact ⟨rfl, rfl⟩

theorem no_ready (p : Option Addr) (w : World) (h : NoI w p) : Calls Tryd.prog 87 #[.pointer p] w fun e w' => e = .returned (.int .i64 0) ∧ w' = w := by
  go_enter Tryd.func87, Tryd.ntmps87
  go_wp2_with fail
  refine (no_none p w h).mono ?_
  rintro e w' ⟨rfl, rfl⟩
  go_wp2
  go_ret
  exact ⟨rfl, rfl⟩

theorem no_limit (p : Option Addr) (w : World) (h : NoI w p) : Calls Tryd.prog 77 #[.pointer p] w fun e w' => e = .returned (.int .i64 0) ∧ w' = w := by
  go_enter Tryd.func77, Tryd.ntmps77
  go_wp2_with fail
  refine (no_none p w h).mono ?_
  rintro e w' ⟨rfl, rfl⟩
  go_wp2
  go_ret
  exact ⟨rfl, rfl⟩

theorem no_reach (p : Option Addr) (w : World) (h : NoI w p) : Calls Tryd.prog 60 #[.pointer p] w fun e w' => e = .returned (.int .i64 0) ∧ w' = w := by
  go_enter Tryd.func60, Tryd.ntmps60
  go_wp2_with fail
  refine (no_none p w h).mono ?_
  rintro e w' ⟨rfl, rfl⟩
  go_wp2
  go_ret
  exact ⟨rfl, rfl⟩

theorem no_held (p : Option Addr) (w : World) (h : NoI w p) : Calls Tryd.prog 25 #[.pointer p] w fun e w' => e = .returned (.int .i64 0) ∧ w' = w := by
  go_enter Tryd.func25, Tryd.ntmps25
  go_wp2_with fail
  refine (no_none p w h).mono ?_
  rintro e w' ⟨rfl, rfl⟩
  go_wp2
  go_ret
  exact ⟨rfl, rfl⟩

end Go.Proofs.YtekgnibdnfephaaDoor
