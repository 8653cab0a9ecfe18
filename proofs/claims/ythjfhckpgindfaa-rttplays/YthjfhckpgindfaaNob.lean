/- rtt: an estimate that is nil, or that no call made; bounds told by a closure. -/
import Derived.Test.YthjfhckpgindfaaRows
import Derived.WalkKit
import Derived.ProofKit
import Derived.OpenShut
import Derived.Deep.LoopGhost
import Derived.Laws.StructEq
namespace Go.Proofs.Ythjfhckpgindfaa
open Go.RowKit
set_option linter.unusedVariables false

set_option maxRecDepth 100000 in
/-- An estimate's cells against those of a plain one. -/
theorem eq43 (m a l s y : Int) (h : Bool) (w : World) : (binOp .eql 43 (.agg #[.int .i64 m, .bool h, .int .i64 a, .int .i64 l, .int .i64 s, .int .i64 y]) (.agg #[.int .i64 0, .bool false, .int .i64 0, .int .i64 0, .int .i64 0, .int .i64 0])).run Try.prog w = .ok (.bool (m == 0 && h == false && a == 0 && l == 0 && s == 0 && y == 0)) w := by
  have u3 := Try.underlying3
  have a3 := Try.isAgg3
  have z3 := Try.sizeOf3
  have u4 := Try.underlying4
  have a4 := Try.isAgg4
  have z4 := Try.sizeOf4
  have hS : Try.prog.underlying 43 = some (.struct (Try.prog.fieldsOf 43)) := by kernel_rfl
  have hp : Try.prog.stoodInHeld 43 = false := by kernel_rfl
  rw [run_eql_struct, show (10000 : Nat) = 9999 + 1 from rfl, run_equalIn_agg w 9999 43 _ _ hS hp]
  simp only [Program.fieldsOf, Try.underlying43]
  go_simp
  by_cases h1 : m = 0 <;> cases h <;> by_cases h3 : a = 0 <;> by_cases h4 : l = 0 <;> by_cases h5 : s = 0 <;> by_cases h6 : y = 0 <;> simp [h1, h3, h4, h5, h6]

/-- An estimate that is none: nil, or a plain one. -/
def No (w : World) (p : Option Addr) : Prop := p = none ∨ ∃ b, p = some ⟨b, 0, none⟩ ∧ w.cell? ⟨b, 0, none⟩ = some (.int .i64 0) ∧ w.cell? ⟨b, 1, none⟩ = some (.bool false) ∧ w.cell? ⟨b, 2, none⟩ = some (.int .i64 0) ∧ w.cell? ⟨b, 3, none⟩ = some (.int .i64 0) ∧ w.cell? ⟨b, 4, none⟩ = some (.int .i64 0) ∧ w.cell? ⟨b, 5, none⟩ = some (.int .i64 0)
theorem cell_bel {w w' : World} {b j : Nat} {v : Value} (h : w.cell? ⟨b, j, none⟩ = some v) (hb : Below w.heap.size w w') : w'.cell? ⟨b, j, none⟩ = some v := by
  rw [hb.cell (p := ⟨b, j, none⟩) (World.block_lt_of_cell? _ _ h)]; exact h
theorem bel1 (w : World) (o : Obj) : Below w.heap.size w (w.alloc o) := (Below.refl _ w).alloc (Nat.le_refl _) o
theorem bel_trans {a b c : World} (h : Below a.heap.size a b) (k : Below b.heap.size b c) : Below a.heap.size a c := h.trans (k.mono h.size)

theorem no_none (p : Option Addr) (w : World) (h : No w p) : Calls Try.prog 18 #[.pointer p] w fun e w' => e = .returned (.bool true) ∧ w' = w := by
  rcases h with rfl | ⟨b, rfl, h0, h1, h2, h3, h4, h5⟩
  · go_enter Try.func18, Try.ntmps18
    go_wp2
    go_ret
    exact ⟨rfl, rfl⟩
  · go_enter Try.func18, Try.ntmps18
    have hq := fun w => eq43 0 0 0 0 0 false w
    simp only [beq_self_eq_true, Bool.and_self] at hq
    go_wp2
    go_ret
    exact ⟨rfl, rfl⟩
theorem results_4 {P : Program} {fn : Func} {a b c d : Tmp} (h : fn.results = #[.tmp a, .tmp b, .tmp c, .tmp d]) (tmps : Array Value) (w : World) :
    (results fn tmps).run P w = .ok (.tuple #[tmps.getD a undef, tmps.getD b undef, tmps.getD c undef, tmps.getD d undef]) w := by
  simp [results, h]
theorem no_told (p : Option Addr) (w : World) (h : No w p) : Calls Try.prog 10 #[.pointer p] w fun e w' => e = .returned (.tuple #[.int .i64 0, .int .i64 0, .int .i64 0, .int .i64 0]) ∧ w' = w := by
  go_enter Try.func10, Try.ntmps10
  go_wp2_with fail
  refine (no_none p w h).mono ?_
  rintro e w' ⟨rfl, rfl⟩
  go_wp2
  refine bodyPost_ret (results_4 (fn := Try.f10) (a := 2) (b := 3) (c := 4) (d := 5) rfl _ _) rfl ?_
  exact ⟨rfl, rfl⟩
theorem no_wait (p : Option Addr) (t : Int) (d : Bool) (w : World) (h : No w p) : Calls Try.prog 11 #[.pointer p, .int .i64 t, .bool d] w fun e w' => e = .returned (.int .i64 0) ∧ w' = w := by
  go_enter Try.func11, Try.ntmps11
  go_wp2_with fail
  refine (no_none p w h).mono ?_
  rintro e w' ⟨rfl, rfl⟩
  go_wp2
  go_ret
  exact ⟨rfl, rfl⟩
theorem no_late (p : Option Addr) (w : World) (h : No w p) : Calls Try.prog 13 #[.pointer p] w fun e w' => e = .returned (.int .i64 0) ∧ w' = w := by
  go_enter Try.func13, Try.ntmps13
  go_wp2_with fail
  refine (no_none p w h).mono ?_
  rintro e w' ⟨rfl, rfl⟩
  go_wp2
  go_ret
  exact ⟨rfl, rfl⟩
theorem no_sample (p : Option Addr) (t x : Int) (k : Bool) (w : World) (h : No w p) : Calls Try.prog 15 #[.pointer p, .int .i64 t, .int .i64 x, .bool k] w fun e w' => e = .returned (.int .i64 1) ∧ w' = w := by
  go_enter Try.func15, Try.ntmps15
  go_wp2_with fail
  refine (no_none p w h).mono ?_
  rintro e w' ⟨rfl, rfl⟩
  go_wp2
  go_ret
  exact ⟨rfl, rfl⟩

set_option maxRecDepth 100000 in
set_option maxHeartbeats 1000000 in
theorem nobody_walk (a b t : Int) (k : Bool) (w : World) : Calls Try.prog 4 #[.agg #[.int .i64 a, .int .i64 b, .bool k], .int .i64 t] w fun e w' => e = .returned (.bool true) ∧ Below w.heap.size w w' := by
  go_enter Try.func4, Try.ntmps4
  go_wp2
  refine wp_loop_rounds 3 ?_
  rw [rounds_succ]
  obtain ⟨W0, hW0⟩ : ∃ W0, (((w.alloc (.cells #[.int .i64 a, .int .i64 b, .bool k] 39)).alloc (.cells #[.int .i64 0, .bool false, .int .i64 0, .int .i64 0, .int .i64 0, .int .i64 0] 43)).alloc (.cells #[.pointer none, .pointer (some ⟨w.heap.size + 1, 0, none⟩)] 23)) = W0 := ⟨_, rfl⟩
  rw [hW0]
  have hB0 : Below w.heap.size w W0 := by rw [← hW0]; exact (((Below.refl _ w).alloc (Nat.le_refl _) _).alloc (by simp) _).alloc (by simp; omega) _
  have ca0 : W0.cell? ⟨w.heap.size, 0, none⟩ = some (.int .i64 a) := by rw [← hW0]; simp [go_sem]
  have ca1 : W0.cell? ⟨w.heap.size, 1, none⟩ = some (.int .i64 b) := by rw [← hW0]; simp [go_sem]
  have ca2 : W0.cell? ⟨w.heap.size, 2, none⟩ = some (.bool k) := by rw [← hW0]; simp [go_sem]
  have cc0 : W0.cell? ⟨w.heap.size + 1 + 1, 0, none⟩ = some (.pointer none) := by rw [← hW0]; simp [go_sem]
  have cc1 : W0.cell? ⟨w.heap.size + 1 + 1, 1, none⟩ = some (.pointer (some ⟨w.heap.size + 1, 0, none⟩)) := by rw [← hW0]; simp [go_sem]
  have no2 : No W0 (some ⟨w.heap.size + 1, 0, none⟩) := by
    refine .inr ⟨_, rfl, ?_, ?_, ?_, ?_, ?_, ?_⟩ <;> (rw [← hW0]; simp [go_sem])
  clear hW0
  have no1 : No W0 none := .inl rfl
  generalize w.heap.size + 1 + 1 = C at *
  have HB : Aside _ := hB0
  clear hB0
  go_wp2_with fail
  refine (no_told none _ no1).mono ?_
  rintro e u ⟨rfl, h⟩
  subst u
  go_wp2_with fail
  refine (no_sample none _ _ _ _ no1).mono ?_
  rintro e u ⟨rfl, h⟩
  subst u
  go_wp2_with fail
  refine (no_wait none _ _ _ no1).mono ?_
  rintro e u ⟨rfl, h⟩
  subst u
  go_wp2_with fail
  refine (no_late none _ no1).mono ?_
  rintro e u ⟨rfl, h⟩
  subst u
  go_wp2
  rw [rounds_succ]
  go_wp2_with fail
  refine (no_told _ _ no2).mono ?_
  rintro e u ⟨rfl, h⟩
  subst u
  go_wp2_with fail
  refine (no_sample _ _ _ _ _ no2).mono ?_
  rintro e u ⟨rfl, h⟩
  subst u
  go_wp2_with fail
  refine (no_wait _ _ _ _ no2).mono ?_
  rintro e u ⟨rfl, h⟩
  subst u
  go_wp2_with fail
  refine (no_late _ _ no2).mono ?_
  rintro e u ⟨rfl, h⟩
  subst u
  go_wp2
  rw [rounds_succ]
  go_wp2
  go_ret
  exact ⟨rfl, HB.out⟩
end Go.Proofs.Ythjfhckpgindfaa
