/- flow: a side that is nil, or that no call made. -/
import Derived.Test.YtekgnibdnfephaaDoorNob
import Derived.WalkKit
import Derived.ProofKit
import Derived.OpenShut
import Derived.Deep.LoopGhost
import Derived.Laws.StructEq
import Derived.Deep.QuietTactic
import Derived.BigQuiet
import Derived.WalkSmall
import Derived.Deep.RegionWith
import Derived.Deep.RegionHeld3
namespace Go.Proofs.YtekgnibdnfephaaDoor
open Go.RowKit
set_option linter.unusedVariables false

theorem results_3f {P : Program} {fn : Func} {a b c : Tmp} (h : fn.results = #[.tmp a, .tmp b, .tmp c]) (tmps : Array Value) (w : World) :
    (results fn tmps).run P w = .ok (.tuple #[tmps.getD a undef, tmps.getD b undef, tmps.getD c undef]) w := by
  simp [results, h]
/-- The cells of a plain Give, and of a plain Get. -/
def z53 : List Value := [.bool false, .int .i64 0, .int .i64 0, .bool false]
def z56 : List Value := [.bool false, .int .i64 0, .int .i64 0, .int .i64 0, .int .i64 0]
/-- A side that is none: nil, or a plain one. -/
def FNo (z : List Value) (w : World) (p : Option Addr) : Prop := p = none ∨ ∃ b, p = some ⟨b, 0, none⟩ ∧ ∀ j (h : j < z.length), w.cell? ⟨b, j, none⟩ = some z[j]
theorem FNo.below {z : List Value} {w w' : World} {p : Option Addr} (h : FNo z w p) (hb : Below w.heap.size w w') : FNo z w' p := by
  rcases h with h | ⟨b, h, hc⟩
  · exact .inl h
  · exact .inr ⟨b, h, fun j hj => (hb.cell (p := ⟨b, j, none⟩) (World.block_lt_of_cell? _ _ (hc j hj))).trans (hc j hj)⟩

set_option maxRecDepth 100000 in
theorem eq53z (w : World) : (binOp .eql 86 (.agg #[.bool false, .int .i64 0, .int .i64 0, .bool false]) (.agg #[.bool false, .int .i64 0, .int .i64 0, .bool false])).run Tryd.prog w = .ok (.bool true) w := by kernel_rfl
set_option maxRecDepth 100000 in
theorem eq56z (w : World) : (binOp .eql 88 (.agg #[.bool false, .int .i64 0, .int .i64 0, .int .i64 0, .int .i64 0]) (.agg #[.bool false, .int .i64 0, .int .i64 0, .int .i64 0, .int .i64 0])).run Tryd.prog w = .ok (.bool true) w := by kernel_rfl
set_option maxRecDepth 100000 in
theorem eq53n (l s : Int) (t : Bool) (w : World) : (binOp .eql 86 (.agg #[.bool true, .int .i64 l, .int .i64 s, .bool t]) (.agg #[.bool false, .int .i64 0, .int .i64 0, .bool false])).run Tryd.prog w = .ok (.bool false) w := by
  have u3 := Tryd.underlying3
  have a3 := Tryd.isAgg3
  have z3 := Tryd.sizeOf3
  have u4 := Tryd.underlying4
  have a4 := Tryd.isAgg4
  have z4 := Tryd.sizeOf4
  have hS : Tryd.prog.underlying 86 = some (.struct (Tryd.prog.fieldsOf 86)) := by kernel_rfl
  have hp : Tryd.prog.stoodInHeld 86 = false := by kernel_rfl
  rw [run_eql_struct, show (10000 : Nat) = 9999 + 1 from rfl, run_equalIn_agg w 9999 86 _ _ hS hp]
  simp only [Program.fieldsOf, Tryd.underlying86]
  go_simp
set_option maxRecDepth 100000 in
theorem eq56n (a b c d : Int) (w : World) : (binOp .eql 88 (.agg #[.bool true, .int .i64 a, .int .i64 b, .int .i64 c, .int .i64 d]) (.agg #[.bool false, .int .i64 0, .int .i64 0, .int .i64 0, .int .i64 0])).run Tryd.prog w = .ok (.bool false) w := by
  have u3 := Tryd.underlying3
  have a3 := Tryd.isAgg3
  have z3 := Tryd.sizeOf3
  have u4 := Tryd.underlying4
  have a4 := Tryd.isAgg4
  have z4 := Tryd.sizeOf4
  have hS : Tryd.prog.underlying 88 = some (.struct (Tryd.prog.fieldsOf 88)) := by kernel_rfl
  have hp : Tryd.prog.stoodInHeld 88 = false := by kernel_rfl
  rw [run_eql_struct, show (10000 : Nat) = 9999 + 1 from rfl, run_equalIn_agg w 9999 88 _ _ hS hp]
  simp only [Program.fieldsOf, Tryd.underlying88]
  go_simp

set_option maxRecDepth 100000 in
theorem no_none28 (p : Option Addr) (w : World) (h : FNo z53 w p) : Calls Tryd.prog 30 #[.pointer p] w fun e w' => e = .returned (.bool true) ∧ w' = w := by
  rcases h with rfl | ⟨b, rfl, h⟩
  · go_enter Tryd.func30, Tryd.ntmps30
    go_wp2
    go_ret
    exact ⟨rfl, rfl⟩
  ·
    have h0 : w.cell? ⟨b, 0, none⟩ = some _ := h 0 (by decide)
    have h1 : w.cell? ⟨b, 1, none⟩ = some _ := h 1 (by decide)
    have h2 : w.cell? ⟨b, 2, none⟩ = some _ := h 2 (by decide)
    have h3 : w.cell? ⟨b, 3, none⟩ = some _ := h 3 (by decide)
    have hq := eq53z
    simp only [z53, List.getElem_cons_zero, List.getElem_cons_succ] at h0 h1 h2 h3
    clear h
    go_enter Tryd.func30, Tryd.ntmps30
    go_wp2
    go_ret
    exact ⟨rfl, rfl⟩
set_option maxRecDepth 100000 in
theorem no_none29 (p : Option Addr) (w : World) (h : FNo z56 w p) : Calls Tryd.prog 44 #[.pointer p] w fun e w' => e = .returned (.bool true) ∧ w' = w := by
  rcases h with rfl | ⟨b, rfl, h⟩
  · go_enter Tryd.func44, Tryd.ntmps44
    go_wp2
    go_ret
    exact ⟨rfl, rfl⟩
  ·
    have h0 : w.cell? ⟨b, 0, none⟩ = some _ := h 0 (by decide)
    have h1 : w.cell? ⟨b, 1, none⟩ = some _ := h 1 (by decide)
    have h2 : w.cell? ⟨b, 2, none⟩ = some _ := h 2 (by decide)
    have h3 : w.cell? ⟨b, 3, none⟩ = some _ := h 3 (by decide)
    have h4 : w.cell? ⟨b, 4, none⟩ = some _ := h 4 (by decide)
    have hq := eq56z
    simp only [z56, List.getElem_cons_zero, List.getElem_cons_succ] at h0 h1 h2 h3 h4
    clear h
    go_enter Tryd.func44, Tryd.ntmps44
    go_wp2
    go_ret
    exact ⟨rfl, rfl⟩
theorem no_left (p : Option Addr) (w : World) (h : FNo z53 w p) : Calls Tryd.prog 29 #[.pointer p] w fun e w' => e = .returned (.tuple #[.int .i64 0, .int .i64 0]) ∧ w' = w := by
  go_enter Tryd.func29, Tryd.ntmps29
  go_wp2_with fail
  refine (no_none28 p w h).mono ?_
  rintro e w' ⟨rfl, rfl⟩
  go_wp2
  go_ret2
  exact ⟨rfl, rfl⟩
theorem no_raise (p : Option Addr) (n : Int) (w : World) (h : FNo z53 w p) : Calls Tryd.prog 23 #[.pointer p, .int .i64 n] w fun e w' => e = .returned (.int .i64 1) ∧ w' = w := by
  go_enter Tryd.func23, Tryd.ntmps23
  go_wp2_with fail
  refine (no_none28 p w h).mono ?_
  rintro e w' ⟨rfl, rfl⟩
  go_wp2
  go_ret
  exact ⟨rfl, rfl⟩
theorem no_spend (p : Option Addr) (n : Int) (w : World) (h : FNo z53 w p) : Calls Tryd.prog 20 #[.pointer p, .int .i64 n] w fun e w' => e = .returned (.int .i64 1) ∧ w' = w := by
  go_enter Tryd.func20, Tryd.ntmps20
  go_wp2_with fail
  refine (no_none28 p w h).mono ?_
  rintro e w' ⟨rfl, rfl⟩
  go_wp2
  go_ret
  exact ⟨rfl, rfl⟩
theorem no_told (p : Option Addr) (w : World) (h : FNo z56 w p) : Calls Tryd.prog 26 #[.pointer p] w fun e w' => e = .returned (.tuple #[.int .i64 0, .int .i64 0, .int .i64 0]) ∧ w' = w := by
  go_enter Tryd.func26, Tryd.ntmps26
  go_wp2_with fail
  refine (no_none29 p w h).mono ?_
  rintro e w' ⟨rfl, rfl⟩
  go_wp2
  refine bodyPost_ret (results_3f (fn := Tryd.f26) (a := 2) (b := 3) (c := 4) rfl _ _) rfl ?_
  exact ⟨rfl, rfl⟩
theorem no_take (p : Option Addr) (n : Int) (w : World) (h : FNo z56 w p) : Calls Tryd.prog 53 #[.pointer p, .int .i64 n] w fun e w' => e = .returned (.int .i64 1) ∧ w' = w := by
  go_enter Tryd.func53, Tryd.ntmps53
  go_wp2_with fail
  refine (no_none29 p w h).mono ?_
  rintro e w' ⟨rfl, rfl⟩
  go_wp2
  go_ret
  exact ⟨rfl, rfl⟩
theorem no_used (p : Option Addr) (n : Int) (w : World) (h : FNo z56 w p) : Calls Tryd.prog 55 #[.pointer p, .int .i64 n] w fun e w' => e = .returned (.int .i64 1) ∧ w' = w := by
  go_enter Tryd.func55, Tryd.ntmps55
  go_wp2_with fail
  refine (no_none29 p w h).mono ?_
  rintro e w' ⟨rfl, rfl⟩
  go_wp2
  go_ret
  exact ⟨rfl, rfl⟩
theorem no_update (p : Option Addr) (w : World) (h : FNo z56 w p) : Calls Tryd.prog 56 #[.pointer p] w fun e w' => e = .returned (.tuple #[.int .i64 0, .bool false]) ∧ Below w.heap.size w w' := by
  have h' := no_none29 p (w.alloc (.cells #[.pointer p] 54)) (h.below (bel1 _ _))
  go_enter Tryd.func56, Tryd.ntmps56
  go_wp2_with fail
  refine h'.mono ?_
  rintro e w' ⟨rfl, rfl⟩
  go_wp2
  go_ret2
  exact ⟨rfl, bel1 _ _⟩
end Go.Proofs.YtekgnibdnfephaaDoor
