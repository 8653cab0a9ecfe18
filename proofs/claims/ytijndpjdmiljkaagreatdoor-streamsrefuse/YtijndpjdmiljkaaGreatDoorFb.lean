/- flow: a side that is nil, or that no call made. -/
import Derived.Test.YtijndpjdmiljkaaGreatDoorNob
import Derived.WalkKit
import Derived.ProofKit
import Derived.OpenShut
import Derived.Deep.LoopGhost
import Derived.Laws.StructEq
import Derived.Deep.QuietTactic
import Derived.BigQuiet
import Derived.WalkSmall
import Derived.Deep.RegionWith
import Derived.Deep.RegionHeld3
namespace Go.Proofs.YtijndpjdmiljkaaGreatDoor
open Go.RowKit
set_option linter.unusedVariables false

theorem results_3f {P : Program} {fn : Func} {a b c : Tmp} (h : fn.results = #[.tmp a, .tmp b, .tmp c]) (tmps : Array Value) (w : World) :
    (results fn tmps).run P w = .ok (.tuple #[tmps.getD a undef, tmps.getD b undef, tmps.getD c undef]) w := by
  simp [results, h]
/-- The cells of a plain Give, and of a plain Get. -/
def z53 : List Value := [.bool false, .int .i64 0, .int .i64 0, .bool false]
def z56 : List Value := [.bool false, .int .i64 0, .int .i64 0, .int .i64 0, .int .i64 0]
/-- A side that is none: nil, or a plain one. -/
def FNo (z : List Value) (w : World) (p : Option Addr) : Prop := p = none ∨ ∃ b, p = some ⟨b, 0, none⟩ ∧ ∀ j (h : j < z.length), w.cell? ⟨b, j, none⟩ = some z[j]
theorem FNo.below {z : List Value} {w w' : World} {p : Option Addr} (h : FNo z w p) (hb : Below w.heap.size w w') : FNo z w' p := by
  rcases h with h | ⟨b, h, hc⟩
  · exact .inl h
  · exact .inr ⟨b, h, fun j hj => (hb.cell (p := ⟨b, j, none⟩) (World.block_lt_of_cell? _ _ (hc j hj))).trans (hc j hj)⟩

set_option maxRecDepth 100000 in
theorem eq53z (w : World) : (binOp .eql 174 (.agg #[.bool false, .int .i64 0, .int .i64 0, .bool false]) (.agg #[.bool false, .int .i64 0, .int .i64 0, .bool false])).run Tryz.prog w = .ok (.bool true) w := by kernel_rfl
set_option maxRecDepth 100000 in
theorem eq56z (w : World) : (binOp .eql 176 (.agg #[.bool false, .int .i64 0, .int .i64 0, .int .i64 0, .int .i64 0]) (.agg #[.bool false, .int .i64 0, .int .i64 0, .int .i64 0, .int .i64 0])).run Tryz.prog w = .ok (.bool true) w := by kernel_rfl
set_option maxRecDepth 100000 in
theorem eq53n (l s : Int) (t : Bool) (w : World) : (binOp .eql 174 (.agg #[.bool true, .int .i64 l, .int .i64 s, .bool t]) (.agg #[.bool false, .int .i64 0, .int .i64 0, .bool false])).run Tryz.prog w = .ok (.bool false) w := by
  have u3 := Tryz.underlying3
  have a3 := Tryz.isAgg3
  have z3 := Tryz.sizeOf3
  have u4 := Tryz.underlying4
  have a4 := Tryz.isAgg4
  have z4 := Tryz.sizeOf4
  have hS : Tryz.prog.underlying 174 = some (.struct (Tryz.prog.fieldsOf 174)) := by kernel_rfl
  have hp : Tryz.prog.stoodInHeld 174 = false := by kernel_rfl
  rw [run_eql_struct, show (10000 : Nat) = 9999 + 1 from rfl, run_equalIn_agg w 9999 174 _ _ hS hp]
  simp only [Program.fieldsOf, Tryz.underlying174]
  go_simp
set_option maxRecDepth 100000 in
theorem eq56n (a b c d : Int) (w : World) : (binOp .eql 176 (.agg #[.bool true, .int .i64 a, .int .i64 b, .int .i64 c, .int .i64 d]) (.agg #[.bool false, .int .i64 0, .int .i64 0, .int .i64 0, .int .i64 0])).run Tryz.prog w = .ok (.bool false) w := by
  have u3 := Tryz.underlying3
  have a3 := Tryz.isAgg3
  have z3 := Tryz.sizeOf3
  have u4 := Tryz.underlying4
  have a4 := Tryz.isAgg4
  have z4 := Tryz.sizeOf4
  have hS : Tryz.prog.underlying 176 = some (.struct (Tryz.prog.fieldsOf 176)) := by kernel_rfl
  have hp : Tryz.prog.stoodInHeld 176 = false := by kernel_rfl
  rw [run_eql_struct, show (10000 : Nat) = 9999 + 1 from rfl, run_equalIn_agg w 9999 176 _ _ hS hp]
  simp only [Program.fieldsOf, Tryz.underlying176]
  go_simp

set_option maxRecDepth 100000 in
theorem no_none28 (p : Option Addr) (w : World) (h : FNo z53 w p) : Calls Tryz.prog 101 #[.pointer p] w fun e w' => e = .returned (.bool true) ∧ w' = w := by
  rcases h with rfl | ⟨b, rfl, h⟩
  · go_enter Tryz.func101, Tryz.ntmps101
    go_wp2
    go_ret
    exact ⟨rfl, rfl⟩
  ·
    have h0 : w.cell? ⟨b, 0, none⟩ = some _ := h 0 (by decide)
    have h1 : w.cell? ⟨b, 1, none⟩ = some _ := h 1 (by decide)
    have h2 : w.cell? ⟨b, 2, none⟩ = some _ := h 2 (by decide)
    have h3 : w.cell? ⟨b, 3, none⟩ = some _ := h 3 (by decide)
    have hq := eq53z
    simp only [z53, List.getElem_cons_zero, List.getElem_cons_succ] at h0 h1 h2 h3
    clear h
    go_enter Tryz.func101, Tryz.ntmps101
    go_wp2
    go_ret
    exact ⟨rfl, rfl⟩
set_option maxRecDepth 100000 in
theorem no_none29 (p : Option Addr) (w : World) (h : FNo z56 w p) : Calls Tryz.prog 148 #[.pointer p] w fun e w' => e = .returned (.bool true) ∧ w' = w := by
  rcases h with rfl | ⟨b, rfl, h⟩
  · go_enter Tryz.func148, Tryz.ntmps148
    go_wp2
    go_ret
    exact ⟨rfl, rfl⟩
  ·
    have h0 : w.cell? ⟨b, 0, none⟩ = some _ := h 0 (by decide)
    have h1 : w.cell? ⟨b, 1, none⟩ = some _ := h 1 (by decide)
    have h2 : w.cell? ⟨b, 2, none⟩ = some _ := h 2 (by decide)
    have h3 : w.cell? ⟨b, 3, none⟩ = some _ := h 3 (by decide)
    have h4 : w.cell? ⟨b, 4, none⟩ = some _ := h 4 (by decide)
    have hq := eq56z
    simp only [z56, List.getElem_cons_zero, List.getElem_cons_succ] at h0 h1 h2 h3 h4
    clear h
    go_enter Tryz.func148, Tryz.ntmps148
    go_wp2
    go_ret
    exact ⟨rfl, rfl⟩
theorem no_left (p : Option Addr) (w : World) (h : FNo z53 w p) : Calls Tryz.prog 100 #[.pointer p] w fun e w' => e = .returned (.tuple #[.int .i64 0, .int .i64 0]) ∧ w' = w := by
  go_enter Tryz.func100, Tryz.ntmps100
  go_wp2_with fail
  refine (no_none28 p w h).mono ?_
  rintro e w' ⟨rfl, rfl⟩
  go_wp2
  go_ret2
  exact ⟨rfl, rfl⟩
theorem no_raise (p : Option Addr) (n : Int) (w : World) (h : FNo z53 w p) : Calls Tryz.prog 59 #[.pointer p, .int .i64 n] w fun e w' => e = .returned (.int .i64 1) ∧ w' = w := by
  go_enter Tryz.func59, Tryz.ntmps59
  go_wp2_with fail
  refine (no_none28 p w h).mono ?_
  rintro e w' ⟨rfl, rfl⟩
  go_wp2
  go_ret
  exact ⟨rfl, rfl⟩
theorem no_spend (p : Option Addr) (n : Int) (w : World) (h : FNo z53 w p) : Calls Tryz.prog 50 #[.pointer p, .int .i64 n] w fun e w' => e = .returned (.int .i64 1) ∧ w' = w := by
  go_enter Tryz.func50, Tryz.ntmps50
  go_wp2_with fail
  refine (no_none28 p w h).mono ?_
  rintro e w' ⟨rfl, rfl⟩
  go_wp2
  go_ret
  exact ⟨rfl, rfl⟩
theorem no_told (p : Option Addr) (w : World) (h : FNo z56 w p) : Calls Tryz.prog 80 #[.pointer p] w fun e w' => e = .returned (.tuple #[.int .i64 0, .int .i64 0, .int .i64 0]) ∧ w' = w := by
  go_enter Tryz.func80, Tryz.ntmps80
  go_wp2_with fail
  refine (no_none29 p w h).mono ?_
  rintro e w' ⟨rfl, rfl⟩
  go_wp2
  refine bodyPost_ret (results_3f (fn := Tryz.f80) (a := 2) (b := 3) (c := 4) rfl _ _) rfl ?_
  exact ⟨rfl, rfl⟩
theorem no_take (p : Option Addr) (n : Int) (w : World) (h : FNo z56 w p) : Calls Tryz.prog 181 #[.pointer p, .int .i64 n] w fun e w' => e = .returned (.int .i64 1) ∧ w' = w := by
  go_enter Tryz.func181, Tryz.ntmps181
  go_wp2_with fail
  refine (no_none29 p w h).mono ?_
  rintro e w' ⟨rfl, rfl⟩
  go_wp2
  go_ret
  exact ⟨rfl, rfl⟩
theorem no_used (p : Option Addr) (n : Int) (w : World) (h : FNo z56 w p) : Calls Tryz.prog 130 #[.pointer p, .int .i64 n] w fun e w' => e = .returned (.int .i64 1) ∧ w' = w := by
  go_enter Tryz.func130, Tryz.ntmps130
  go_wp2_with fail
  refine (no_none29 p w h).mono ?_
  rintro e w' ⟨rfl, rfl⟩
  go_wp2
  go_ret
  exact ⟨rfl, rfl⟩
theorem no_update (p : Option Addr) (w : World) (h : FNo z56 w p) : Calls Tryz.prog 131 #[.pointer p] w fun e w' => e = .returned (.tuple #[.int .i64 0, .bool false]) ∧ Below w.heap.size w w' := by
  have h' := no_none29 p (w.alloc (.cells #[.pointer p] 83)) (h.below (bel1 _ _))
  go_enter Tryz.func131, Tryz.ntmps131
  go_wp2_with fail
  refine h'.mono ?_
  rintro e w' ⟨rfl, rfl⟩
  go_wp2
  go_ret2
  exact ⟨rfl, bel1 _ _⟩
end Go.Proofs.YtijndpjdmiljkaaGreatDoor
