/- A box that is nil, or that no call made: what each call of inbox answers for it; InboxNobody's walk. -/
import Derived.Test.YtijndpjdmiljkaaGreatDoorNob
import Derived.WalkKit
import Derived.ProofKit
import Derived.OpenShut
namespace Go.Proofs.YtijndpjdmiljkaaGreatDoor
open Go.RowKit
set_option linter.unusedVariables false

/-- A box that is none: nil, or a plain one. -/
def NoI (w : World) (p : Option Addr) : Prop := p = none ∨ ∃ b, p = some ⟨b, 0, none⟩ ∧ w.cell? ⟨b, 0, none⟩ = some (.map none)

theorem eql_map_none (w : World) : (binOp .eql 199 (.map none) (.map none)).run Tryz.prog w = .ok (.bool true) w := by
  kernel_rfl
theorem eql_map_some (x : Nat) (w : World) : (binOp .eql 199 (.map (some x)) (.map none)).run Tryz.prog w = .ok (.bool false) w := by
  kernel_rfl
attribute [local go_sem] eql_map_none

theorem no_none (p : Option Addr) (w : World) (h : NoI w p) : Calls Tryz.prog 127 #[.pointer p] w fun e w' => e = .returned (.bool true) ∧ w' = w := by
  rcases h with rfl | ⟨b, rfl, hc⟩
  · go_enter Tryz.func127, Tryz.ntmps127
    go_wp2
    go_ret
    exact ⟨rfl, rfl⟩
  · go_enter Tryz.func127, Tryz.ntmps127
    go_wp2
    go_ret
    exact ⟨rfl, rfl⟩

theorem no_read (p : Option Addr) (n : Int) (w : World) (h : NoI w p) : Calls Tryz.prog 65 #[.pointer p, .int .i64 n] w fun e w' => e = .returned (.tuple #[.slice none 0 0, .bool false]) ∧ w' = w := by
  go_enter Tryz.func65, Tryz.ntmps65
  go_wp2_with fail
  refine (no_none p w h).mono ?_
  rintro e w' ⟨rfl, rfl⟩
  go_wp2
  go_ret2
  exact ⟨rfl, rfl⟩

theorem no_final (p : Option Addr) (w : World) (h : NoI w p) : Calls Tryz.prog 149 #[.pointer p] w fun e w' => e = .returned (.tuple #[.int .i64 0, .bool false]) ∧ w' = w := by
  go_enter Tryz.func149, Tryz.ntmps149
  go_wp2_with fail
  refine (no_none p w h).mono ?_
  rintro e w' ⟨rfl, rfl⟩
  go_wp2
  go_ret2
  exact ⟨rfl, rfl⟩

theorem no_put (p : Option Addr) (o : Int) (s : Value) (f : Bool) (w : World) (h : NoI w p) : Calls Tryz.prog 151 #[.pointer p, .int .i64 o, s, .bool f] w fun e w' => e = .returned (.int .i64 1) ∧ w' = w := by
  go_enter Tryz.func151, Tryz.ntmps151
  go_wp2_with fail
  refine (no_none p w h).mono ?_
  rintro e w' ⟨rfl, rfl⟩
  go_wp2
  go_ret
  exact ⟨rfl, rfl⟩

theorem no_grow (p : Option Addr) (n : Int) (w : World) (h : NoI w p) : Calls Tryz.prog 150 #[.pointer p, .int .i64 n] w fun e w' => e = .returned (.int .i64 1) ∧ w' = w := by
  go_enter Tryz.func150, Tryz.ntmps150
  go_wp2_with fail
  refine (no_none p w h).mono ?_
  rintro e w' ⟨rfl, rfl⟩
  go_wp2
  go_ret
  exact ⟨rfl, rfl⟩

theorem no_ready (p : Option Addr) (w : World) (h : NoI w p) : Calls Tryz.prog 94 #[.pointer p] w fun e w' => e = .returned (.int .i64 0) ∧ w' = w := by
  go_enter Tryz.func94, Tryz.ntmps94
  go_wp2_with fail
  refine (no_none p w h).mono ?_
  rintro e w' ⟨rfl, rfl⟩
  go_wp2
  go_ret
  exact ⟨rfl, rfl⟩

theorem no_limit (p : Option Addr) (w : World) (h : NoI w p) : Calls Tryz.prog 132 #[.pointer p] w fun e w' => e = .returned (.int .i64 0) ∧ w' = w := by
  go_enter Tryz.func132, Tryz.ntmps132
  go_wp2_with fail
  refine (no_none p w h).mono ?_
  rintro e w' ⟨rfl, rfl⟩
  go_wp2
  go_ret
  exact ⟨rfl, rfl⟩

theorem no_reach (p : Option Addr) (w : World) (h : NoI w p) : Calls Tryz.prog 95 #[.pointer p] w fun e w' => e = .returned (.int .i64 0) ∧ w' = w := by
  go_enter Tryz.func95, Tryz.ntmps95
  go_wp2_with fail
  refine (no_none p w h).mono ?_
  rintro e w' ⟨rfl, rfl⟩
  go_wp2
  go_ret
  exact ⟨rfl, rfl⟩

theorem no_held (p : Option Addr) (w : World) (h : NoI w p) : Calls Tryz.prog 79 #[.pointer p] w fun e w' => e = .returned (.int .i64 0) ∧ w' = w := by
  go_enter Tryz.func79, Tryz.ntmps79
  go_wp2_with fail
  refine (no_none p w h).mono ?_
  rintro e w' ⟨rfl, rfl⟩
  go_wp2
  go_ret
  exact ⟨rfl, rfl⟩

end Go.Proofs.YtijndpjdmiljkaaGreatDoor
