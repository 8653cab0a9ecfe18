/- inbox: New. -/
import Derived.Test.YtijndpjdmiljkaaGreatDoorILay
import Derived.WideMake
namespace Go.Proofs.YtijndpjdmiljkaaGreatDoor
open Go.RowKit Go.Maps
set_option linter.unusedVariables false

theorem room_ok (r : Int) (w : World) (h0 : 0 ≤ r) (h1 : r ≤ 1048576) : Calls Tryz.prog 166 #[.int .i64 r] w fun e w' => e = .returned (.bool false) ∧ w' = w := by
  have i1 : ¬ r < 0 := by omega
  have i2 : ¬ (1048576 : Int) < r := by omega
  go_enter Tryz.func166, Tryz.ntmps166
  go_wp2
  go_ret
  exact ⟨rfl, rfl⟩

set_option maxRecDepth 100000 in
theorem new_c (r : Int) (W : World) (h0 : 0 ≤ r) (h1 : r ≤ 1048576) : Calls Tryz.prog 107 #[.int .i64 r] W fun e w' => e = .returned (.tuple #[.pointer (some ⟨W.heap.size + 1, 0, none⟩), .int .i64 0]) ∧
    Ib w' (W.heap.size + 1) W.heap.size 0 (fun _ => none) 0 0 0 r r 0 false ∧ Chg (fun _ => False) W w' := by
  have hmm : ∀ w : World, (Instr.makeMap 199 none).run Tryz.prog w = .ok (.map (some w.heap.size)) (w.alloc (.map #[] 0)) := fun w => rfl
  go_enter Tryz.func107, Tryz.ntmps107
  go_wp2_with (first | (go_at_call 166; refine (room_ok r _ h0 h1).mono ?_; rintro e w1 ⟨rfl, rfl⟩) | fail)
  go_ret2
  refine ⟨rfl, ⟨?_, ?_⟩, ((Chg.refl _ _).alloc _).alloc _⟩
  · simpa using heap_alloc_new (w1.alloc (.map #[] 0)) _
  · exact (Mp_made w1).kept (Below.heap_alloc _ _ _ (by simp))
end Go.Proofs.YtijndpjdmiljkaaGreatDoor
