/- A box that is nil, or that no call made: what each call of outbox answers for it; OutboxNobody's walk. -/
import Derived.Test.YtfgfomkhlhiiiaaRows
import Derived.WalkKit
import Derived.ProofKit
import Derived.OpenShut
import Derived.Deep.LoopGhost
namespace Go.Proofs.Ytfgfomkhlhiiiaa
open Go.RowKit
set_option linter.unusedVariables false

/-- A box that is none: nil, or a plain one. -/
def No (w : World) (p : Option Addr) : Prop := p = none ∨ ∃ b, p = some ⟨b, 0, none⟩ ∧ w.cell? ⟨b, 4, none⟩ = some (.pointer none)
theorem No.alloc {w : World} {p : Option Addr} (h : No w p) (o : Obj) : No (w.alloc o) p := by
  rcases h with rfl | ⟨b, rfl, hc⟩
  · exact .inl rfl
  · exact .inr ⟨b, rfl, (World.cell?_of_block (w := w) (a := ⟨b, 4, none⟩) (Below.heap_alloc w o b (World.block_lt_of_cell? _ _ hc))).trans hc⟩

theorem No.bel {w w' : World} {p : Option Addr} (h : No w p) (hb : Below w.heap.size w w') : No w' p := by
  rcases h with rfl | ⟨b, rfl, hc⟩
  · exact .inl rfl
  · exact .inr ⟨b, rfl, by rw [hb.cell (p := ⟨b, 4, none⟩) (World.block_lt_of_cell? _ _ hc)]; exact hc⟩
theorem cell_bel {w w' : World} {b j : Nat} {v : Value} (h : w.cell? ⟨b, j, none⟩ = some v) (hb : Below w.heap.size w w') : w'.cell? ⟨b, j, none⟩ = some v := by
  rw [hb.cell (p := ⟨b, j, none⟩) (World.block_lt_of_cell? _ _ h)]; exact h
theorem no_none (p : Option Addr) (w : World) (h : No w p) : Calls Try.prog 25 #[.pointer p] w fun e w' => e = .returned (.bool true) ∧ w' = w := by
  rcases h with rfl | ⟨b, rfl, hc⟩
  · go_enter Try.func25, Try.ntmps25
    go_wp2
    go_ret
    exact ⟨rfl, rfl⟩
  · go_enter Try.func25, Try.ntmps25
    go_wp2
    go_ret
    exact ⟨rfl, rfl⟩
theorem no_write (p : Option Addr) (s : Value) (w : World) (h : No w p) : Calls Try.prog 9 #[.pointer p, s] w fun e w' => e = .returned (.tuple #[.int .i64 0, .int .i64 1]) ∧ w' = w := by
  go_enter Try.func9, Try.ntmps9
  go_wp2_with fail
  refine (no_none p w h).mono ?_
  rintro e w' ⟨rfl, rfl⟩
  go_wp2
  go_ret2
  exact ⟨rfl, rfl⟩
theorem no_finish (p : Option Addr) (w : World) (h : No w p) : Calls Try.prog 11 #[.pointer p] w fun e w' => e = .returned (.int .i64 1) ∧ w' = w := by
  go_enter Try.func11, Try.ntmps11
  go_wp2_with fail
  refine (no_none p w h).mono ?_
  rintro e w' ⟨rfl, rfl⟩
  go_wp2
  go_ret
  exact ⟨rfl, rfl⟩
/-- The piece that is none, in a box. -/
abbrev pb : Obj := .cells #[.int .i64 0, .slice none 0 0, .bool false] 42 (0, 0)
theorem bel1 (w : World) (o : Obj) : Below w.heap.size w (w.alloc o) := (Below.refl _ w).alloc (Nat.le_refl _) o
theorem bel_trans {a b c : World} (h : Below a.heap.size a b) (k : Below b.heap.size b c) : Below a.heap.size a c := h.trans (k.mono h.size)
theorem no_next (p : Option Addr) (m l : Int) (w : World) (h : No w p) : Calls Try.prog 13 #[.pointer p, .int .i64 m, .int .i64 l] w fun e w' => e = .returned (.tuple #[.agg #[.int .i64 0, .slice none 0 0, .bool false], .bool false]) ∧ Below w.heap.size w w' := by
  go_enter Try.func13, Try.ntmps13
  go_wp2_with fail
  refine (no_none p _ (h.alloc _)).mono ?_
  rintro e w' ⟨rfl, rfl⟩
  go_wp2
  exact bodyPost_ret (v := .tuple #[.agg #[.int .i64 0, .slice none 0 0, .bool false], .bool false]) (by simp [results, Try.results13, go_sem]) rfl ⟨rfl, bel1 _ _⟩
theorem no_wrong (p : Option Addr) (w : World) (h : No w p) : Calls Try.prog 34 #[.pointer p, .agg #[.int .i64 0, .slice none 0 0, .bool false]] w fun e w' => e = .returned (.int .i64 1) ∧ w' = w.alloc pb := by
  go_enter Try.func34, Try.ntmps34
  go_wp2_with fail
  refine (no_none p _ (h.alloc _)).mono ?_
  rintro e w' ⟨rfl, rfl⟩
  go_wp2
  go_ret
  exact ⟨rfl, rfl⟩
theorem no_acked (p : Option Addr) (w : World) (h : No w p) : Calls Try.prog 16 #[.pointer p, .agg #[.int .i64 0, .slice none 0 0, .bool false]] w fun e w' => e = .returned (.int .i64 1) ∧ Below w.heap.size w w' := by
  go_enter Try.func16, Try.ntmps16
  go_wp2_with fail
  refine (no_wrong p _ (h.alloc _)).mono ?_
  rintro e w' ⟨rfl, rfl⟩
  go_wp2
  go_ret
  exact ⟨rfl, bel_trans (bel1 _ _) (bel1 _ _)⟩
theorem no_lost (p : Option Addr) (w : World) (h : No w p) : Calls Try.prog 18 #[.pointer p, .agg #[.int .i64 0, .slice none 0 0, .bool false]] w fun e w' => e = .returned (.int .i64 1) ∧ Below w.heap.size w w' := by
  go_enter Try.func18, Try.ntmps18
  go_wp2_with fail
  refine (no_wrong p _ ((h.alloc _).alloc _)).mono ?_
  rintro e w' ⟨rfl, rfl⟩
  go_wp2
  go_ret
  exact ⟨rfl, bel_trans (bel_trans (bel1 _ _) (bel1 _ _)) (bel1 _ _)⟩
theorem no_sizes (p : Option Addr) (w : World) (h : No w p) : Calls Try.prog 21 #[.pointer p] w fun e w' => e = .returned (.tuple #[.int .i64 0, .int .i64 0, .int .i64 0]) ∧ w' = w := by
  go_enter Try.func21, Try.ntmps21
  go_wp2_with fail
  refine (no_none p w h).mono ?_
  rintro e w' ⟨rfl, rfl⟩
  go_wp2
  go_ret3
  exact ⟨rfl, rfl⟩
theorem no_done (p : Option Addr) (w : World) (h : No w p) : Calls Try.prog 22 #[.pointer p] w fun e w' => e = .returned (.bool false) ∧ w' = w := by
  go_enter Try.func22, Try.ntmps22
  go_wp2_with fail
  refine (no_none p w h).mono ?_
  rintro e w' ⟨rfl, rfl⟩
  go_wp2
  go_ret
  exact ⟨rfl, rfl⟩
theorem no_waits (p : Option Addr) (l : Int) (w : World) (h : No w p) : Calls Try.prog 23 #[.pointer p, .int .i64 l] w fun e w' => e = .returned (.bool false) ∧ w' = w := by
  go_enter Try.func23, Try.ntmps23
  go_wp2_with fail
  refine (no_none p w h).mono ?_
  rintro e w' ⟨rfl, rfl⟩
  go_wp2
  go_ret
  exact ⟨rfl, rfl⟩
end Go.Proofs.Ytfgfomkhlhiiiaa
