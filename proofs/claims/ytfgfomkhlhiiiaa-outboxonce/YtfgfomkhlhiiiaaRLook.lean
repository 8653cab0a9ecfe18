/- ranges: New, Spans, holder, Has, Gap and Ends of a set that was made. -/
import Derived.Test.YtfgfomkhlhiiiaaRRem
namespace Go.Proofs.YtfgfomkhlhiiiaaR
open Go.RowKit Go.Shelf Go.Lib
set_option linter.unusedVariables false

set_option maxRecDepth 100000 in
theorem new_c (w : World) : Calls Try.prog 42 #[] w fun e w' => e = .returned (.pointer (some ⟨w.heap.size, 0, none⟩)) ∧ w' = w.alloc (.cells #[.bool true, .slice none 0 0] 95) := by
  go_enter Try.func42, Try.ntmps42
  go_wp2
  go_ret
  exact ⟨rfl, rfl⟩
set_option maxRecDepth 100000 in
theorem Se_new (w : World) : Se (w.alloc (.cells #[.bool true, .slice none 0 0] 95)) w.heap.size none 0 [] :=
  ⟨World.alloc_heap_new w _, .inl ⟨rfl, rfl, rfl⟩, by unfold maxLen; omega⟩

set_option maxRecDepth 100000 in
theorem spans_c (S c : Nat) (o : Option Addr) (L : List (Int × Int)) (w : World) (h : Se w S o c L) : Calls Try.prog 51 #[.pointer (some ⟨S, 0, none⟩)] w fun e w' => e = .returned (.int .i64 L.length) ∧ w' = w := by
  have h0 := h.head.1
  have h1 := h.head.2
  clear h
  go_enter Try.func51, Try.ntmps51
  go_wp2_with fail
  refine (yes_none S w h0).mono ?_
  rintro e w' ⟨rfl, hh⟩
  subst w'
  go_wp2
  go_ret
  exact ⟨rfl, rfl⟩

/-- The span that a number is in. -/
def Hold (n : Int) (L : List (Int × Int)) (p : Int × Int) (b : Bool) : Prop := (b = true ∧ p ∈ L ∧ p.1 ≤ n ∧ n ≤ p.2) ∨ (b = false ∧ ¬ In n L)

end Go.Proofs.YtfgfomkhlhiiiaaR
