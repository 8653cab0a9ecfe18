/- A set that is nil, or that no call made: what each call of ranges answers for it: contracts. -/
import Derived.Test.YtlobnlkpbenngaaRows
import Derived.RangeFuncNested
import Derived.RangeFuncBound
import Derived.RangeFuncCalls
import Derived.RangeFuncLeaves
import Derived.RangeFuncFrom
import Derived.RangeFuncWrites
import Derived.Shelf.Abstract
import Derived.Shelf.RegionOpen
import Derived.WalkKit
import Derived.OwnWalkIn
import Derived.TacticsInMore
import Derived.LoopNIn
import Derived.LoopIn
import Derived.ProofKit
import Derived.OpenShut
namespace Go.Proofs.YtlobnlkpbenngaaR
open Go.RowKit Go.Shelf
set_option linter.unusedVariables false

/-- A set that is none: nil, or a plain one. -/
def No (w : World) (p : Option Addr) : Prop := p = none ∨ ∃ b, p = some ⟨b, 0, none⟩ ∧ w.cell? ⟨b, 0, none⟩ = some (.bool false)

set_option maxRecDepth 100000 in
theorem no_none (p : Option Addr) (w : World) (h : No w p) : Calls Try.prog 51 #[.pointer p] w fun e w' => e = .returned (.bool true) ∧ w' = w := by
  rcases h with rfl | ⟨b, rfl, hc⟩
  all_goals
    go_enter Try.func51, Try.ntmps51
    go_wp2
    go_ret
    exact ⟨rfl, rfl⟩

set_option maxRecDepth 100000 in
theorem no_wrong (p : Option Addr) (f l : Int) (w : World) (h : No w p) : Calls Try.prog 53 #[.pointer p, .int .i64 f, .int .i64 l] w fun e w' => e = .returned (.int .i64 1) ∧ w' = w := by
  go_enter Try.func53, Try.ntmps53
  go_wp2_with fail
  refine (no_none p w h).mono ?_
  rintro e w' ⟨rfl, rfl⟩
  go_wp2
  go_ret
  exact ⟨rfl, rfl⟩

set_option maxRecDepth 100000 in
theorem no_add (p : Option Addr) (f l : Int) (w : World) (h : No w p) : Calls Try.prog 37 #[.pointer p, .int .i64 f, .int .i64 l] w fun e w' => e = .returned (.int .i64 1) ∧ w' = w := by
  go_enter Try.func37, Try.ntmps37
  go_wp2_with fail
  refine (no_wrong p f l w h).mono ?_
  rintro e w' ⟨rfl, rfl⟩
  go_wp2
  go_ret
  exact ⟨rfl, rfl⟩

set_option maxRecDepth 100000 in
theorem no_remove (p : Option Addr) (f l : Int) (w : World) (h : No w p) : Calls Try.prog 45 #[.pointer p, .int .i64 f, .int .i64 l] w fun e w' => e = .returned (.int .i64 1) ∧ w' = w := by
  go_enter Try.func45, Try.ntmps45
  go_wp2_with fail
  refine (no_wrong p f l w h).mono ?_
  rintro e w' ⟨rfl, rfl⟩
  go_wp2
  go_ret
  exact ⟨rfl, rfl⟩

set_option maxRecDepth 100000 in
theorem no_has (p : Option Addr) (n : Int) (w : World) (h : No w p) : Calls Try.prog 35 #[.pointer p, .int .i64 n] w fun e w' => e = .returned (.bool false) ∧ w' = w := by
  go_enter Try.func35, Try.ntmps35
  go_wp2_with fail
  refine (no_none p w h).mono ?_
  rintro e w' ⟨rfl, rfl⟩
  go_wp2
  go_ret
  exact ⟨rfl, rfl⟩

set_option maxRecDepth 100000 in
theorem no_spans (p : Option Addr) (w : World) (h : No w p) : Calls Try.prog 38 #[.pointer p] w fun e w' => e = .returned (.int .i64 0) ∧ w' = w := by
  go_enter Try.func38, Try.ntmps38
  go_wp2_with fail
  refine (no_none p w h).mono ?_
  rintro e w' ⟨rfl, rfl⟩
  go_wp2
  go_ret
  exact ⟨rfl, rfl⟩

set_option maxRecDepth 100000 in
theorem all_any (p : Option Addr) (w : World) : Calls Try.prog 57 #[.pointer p] w fun e w' => e = .returned (.func (.func 66) #[] #[.pointer (some ⟨w.heap.size, 0, none⟩)]) ∧ w' = w.alloc (.cells #[.pointer p] 70) := by
  go_enter Try.func57, Try.ntmps57
  go_wp2
  go_ret
  exact ⟨rfl, rfl⟩

set_option maxRecDepth 100000 in
theorem No.below {w W : World} {p : Option Addr} (h : No w p) (hb : Below w.heap.size w W) : No W p := by
  rcases h with rfl | ⟨b, rfl, hc⟩
  · exact .inl rfl
  · refine .inr ⟨b, rfl, (hb.cell (p := ⟨b, 0, none⟩) ?_).trans hc⟩
    exact World.block_lt_of_cell? _ _ hc

/-- A span as it is handed to yield. -/
def encS (x : Int × Int) : Array Value := #[.agg #[.int .i64 x.1, .int .i64 x.2]]

set_option maxRecDepth 100000 in
theorem no_all1 (l Bn : Nat) (p : Option Addr) (W : World) (hB : W.cell? ⟨Bn, 0, none⟩ = some (.pointer p)) (h : No W p) :
    CallsIn Fence.wide 4 Try.prog 66 #[.func (.yield l) #[] #[], .pointer (some ⟨Bn, 0, none⟩)] W fun e W' => (∃ v, e = .returned v) ∧ W' = W := by
  refine callsIn_wide.2 ?_
  go_enter Try.func66, Try.ntmps66
  go_wp2_with fail
  refine (no_none p W h).mono ?_
  rintro e w' ⟨rfl, rfl⟩
  go_wp2
  refine bodyPost_ret (results_none rfl _ _ _) rfl ?_
  exact ⟨⟨_, rfl⟩, rfl⟩

set_option maxRecDepth 100000 in
theorem no_stops (Bn : Nat) (p : Option Addr) (w : World) (hBn : Bn < w.heap.size) (hB : w.cell? ⟨Bn, 0, none⟩ = some (.pointer p)) (h : No w p) :
    SeqStopsK Fence.wide 4 Try.prog 66 #[.pointer (some ⟨Bn, 0, none⟩)] encS (Below w.heap.size) (fun xs => xs = []) (fun _ => False) 0 w := fun l J _ W hW hJ _ _ h0 =>
  (no_all1 l Bn p W ((hW.cell (p := ⟨Bn, 0, none⟩) hBn).trans hB) (h.below hW)).mono fun _ _ ⟨he, hj⟩ => ⟨he, .inl ⟨[], rfl, hj ▸ h0⟩⟩

set_option maxRecDepth 100000 in
/-- A range over the spans of a set that is none. -/
theorem wp_range_no {g : Operand} {t : Tmp} {body : Code} {Q : Exit → Act → World → Prop} {a : Act} {w : World} (Bn : Nat) (p : Option Addr)
    (hg : a.eval g = .func (.func 66) #[] #[.pointer (some ⟨Bn, 0, none⟩)]) (hB : w.cell? ⟨Bn, 0, none⟩ = some (.pointer p)) (h : No w p)
    (hdone : ∀ D W, w.heap.size ≤ D → Below w.heap.size w W → W.heap[D]? = some (.deferred (some [])) → Q .normal { a with defers := { target := .collected D, args := #[] } :: a.defers } W) :
    (Code.rangeFunc g #[t] Code.skip body).wp Try.prog Q a w := by
  refine (wpIn_wide (n := 5)).1 ?_
  refine wpIn_rangeFunc_ownF rfl (by decide) (gf := 66) (lb := #[.pointer (some ⟨Bn, 0, none⟩)]) hg trivial (enters_of Try.func66 (by kernel_rfl) rfl)
    (no_stops Bn p w (World.block_lt_of_cell? _ _ hB) hB h) belowK_t (belowK_b (Nat.le_refl _)) (Below.refl _ _) (fun _ => rfl)
    (fun _ W => Below w.heap.size w W) (fun _ _ _ => False) (ownFrom_below (Nat.le_refl _) (Nat.le_refl _)) (fun _ _ _ _ _ hs _ _ => hs) (Below.refl _ _)
    (fun x => { tmps := (#[t].zip (encS x)).foldl (fun t (p, v) => t.setIfInBounds p v) a.tmps, defers := [] }) ?assign ?body ?done ?stop
  case assign =>
    intro l x W K hK
    refine wpIn_skip ?_
    exact hK
  case body => exact fun l pre x W _ hl => absurd hl (Nat.not_lt_zero _)
  case done =>
    rintro D ys W hD rfl hB hK
    exact hdone D W hD hB hK
  case stop =>
    rintro D c pre W _ _ h _
    exact h.elim

end Go.Proofs.YtlobnlkpbenngaaR
