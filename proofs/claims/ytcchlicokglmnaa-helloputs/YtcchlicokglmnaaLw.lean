/- HelloPuts, the walk. -/
import Derived.Test.YtcchlicokglmnaaRk
import Derived.Laws.OwnMore
namespace Go.Proofs.Ytcchlicokglmnaa
open Go.ChangeShapes Go.WideShapes Go.ChangeAt Go.RowKit Go.Lib
set_option linter.unusedVariables false

set_option maxRecDepth 10000 in
theorem names_c (w : World) : Calls Try.prog 12 #[] w fun e w' => e = .returned (.bool true) ∧ w' = w := by
  go_enter Try.func12, Try.ntmps12
  go_wp2_with fail
  go_ret
  exact ⟨rfl, rfl⟩
/-- While x's bytes are turned. -/
structure Lw (W : World) (n : Nat) (v : Value) (N : Nat) (X : World) : Prop where
  by' : ∃ l : List UInt8, l.length = N ∧ By n X v l
  blk : ∀ k, some k ≠ v.ownBlock → X.heap[k]? = W.heap[k]?
  siz : X.heap.size = W.heap.size
  os : X.os = W.os
  tape : X.tape = W.tape
  output : X.output = W.output
section
variable {W X : World} {n N g c : Nat}
theorem Lw.at (h : Lw W n (.slice (some ⟨g, 0, none⟩) N c) N X) (i : Nat) (hi : i < N) : ∃ b : UInt8, X.cell? ⟨g, i, none⟩ = some (.int .u8 (b.toNat : Int)) ∧ X.frozen? ⟨g, i, none⟩ = false ∧ ∀ y : Int, y = ((b.toNat : Int) + 1) % 256 → Lw W n (.slice (some ⟨g, 0, none⟩) N c) N (X.setCell ⟨g, i, none⟩ (.int .u8 y)) := by
  obtain ⟨l, hl, hy⟩ := h.by'
  unfold By at hy
  rw [hl] at hy
  have hil : i < l.length := by omega
  refine ⟨l[i], ?_, hy.frozenAt i, fun y hyv => ⟨⟨l.set i (l[i] + 1), by simp [hl], ?_⟩, ?_, ?_, h.os, h.tape, h.output⟩⟩
  · rw [hy.cellAt i (by omega), bc_get hil]
  · have hst := hy.stored i (.int .u8 y)
    unfold By
    have e : bc (l.set i (l[i] + 1)) = (bc l).set i (.int .u8 y) := by
      have hv : Value.int .u8 y = Value.int .u8 ((l[i] + 1).toNat : Int) := by
        rw [hyv, UInt8.toNat_add]; rfl
      rw [hv]
      simp [bc, List.map_set]
    rw [e]
    simp only [List.length_set, hl]
    first | exact hst | exact hst.1
  · intro k hk
    rw [Below.heap_setCell _ _ _ _ (by intro e; apply hk; simp [Value.ownBlock]; exact e)]
    exact h.blk k hk
  · simp [World.setCell, h.siz]
end
end Go.Proofs.Ytcchlicokglmnaa
