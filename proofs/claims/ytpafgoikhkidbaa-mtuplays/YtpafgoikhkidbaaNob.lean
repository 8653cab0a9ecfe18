/- mtu: a search that is nil, or that no call made. -/
import Derived.Test.YtpafgoikhkidbaaRows
import Derived.WalkKit
import Derived.ProofKit
import Derived.OpenShut
import Derived.Deep.LoopGhost
import Derived.Laws.StructEq
namespace Go.Proofs.Ytpafgoikhkidbaa
open Go.RowKit
set_option linter.unusedVariables false

/-- A search that is none: nil, or a plain one. -/
def No (w : World) (p : Option Addr) : Prop := p = none ∨ ∃ b, p = some ⟨b, 0, none⟩ ∧ ∀ j, j < 4 → w.cell? ⟨b, j, none⟩ = some (.int .i64 0)
theorem bel1 (w : World) (o : Obj) : Below w.heap.size w (w.alloc o) := (Below.refl _ w).alloc (Nat.le_refl _) o
theorem bel_trans {a b c : World} (h : Below a.heap.size a b) (k : Below b.heap.size b c) : Below a.heap.size a c := h.trans (k.mono h.size)
theorem No.below {w w' : World} {p : Option Addr} (h : No w p) (hb : Below w.heap.size w w') : No w' p := by
  rcases h with h | ⟨b, h, hc⟩
  · exact .inl h
  · exact .inr ⟨b, h, fun j hj => (hb.cell (p := ⟨b, j, none⟩) (World.block_lt_of_cell? _ _ (hc j hj))).trans (hc j hj)⟩

set_option maxRecDepth 100000 in
/-- A search's cells against those of a plain one. -/
theorem eq42z (w : World) : (binOp .eql 42 (.agg #[.int .i64 0, .int .i64 0, .int .i64 0, .int .i64 0]) (.agg #[.int .i64 0, .int .i64 0, .int .i64 0, .int .i64 0])).run Try.prog w = .ok (.bool true) w := by kernel_rfl
set_option maxRecDepth 100000 in
theorem eq42n (s n l h : Int) (hs : ¬ s = 0) (w : World) : (binOp .eql 42 (.agg #[.int .i64 s, .int .i64 n, .int .i64 l, .int .i64 h]) (.agg #[.int .i64 0, .int .i64 0, .int .i64 0, .int .i64 0])).run Try.prog w = .ok (.bool false) w := by
  have u3 := Try.underlying3
  have a3 := Try.isAgg3
  have z3 := Try.sizeOf3
  have hS : Try.prog.underlying 42 = some (.struct (Try.prog.fieldsOf 42)) := by kernel_rfl
  have hp : Try.prog.stoodInHeld 42 = false := by kernel_rfl
  rw [run_eql_struct, show (10000 : Nat) = 9999 + 1 from rfl, run_equalIn_agg w 9999 42 _ _ hS hp]
  simp only [Program.fieldsOf, Try.underlying42]
  go_simp

set_option maxRecDepth 100000 in
theorem no_none (p : Option Addr) (w : World) (h : No w p) : Calls Try.prog 20 #[.pointer p] w fun e w' => e = .returned (.bool true) ∧ w' = w := by
  rcases h with rfl | ⟨b, rfl, h⟩
  · go_enter Try.func20, Try.ntmps20
    go_wp2
    go_ret
    exact ⟨rfl, rfl⟩
  · have h0 := h 0 (by decide)
    have h1 := h 1 (by decide)
    have h2 := h 2 (by decide)
    have h3 := h 3 (by decide)
    have hq := eq42z
    clear h
    go_enter Try.func20, Try.ntmps20
    go_wp2
    go_ret
    exact ⟨rfl, rfl⟩
theorem no_size (p : Option Addr) (w : World) (h : No w p) : Calls Try.prog 12 #[.pointer p] w fun e w' => e = .returned (.int .i64 0) ∧ w' = w := by
  go_enter Try.func12, Try.ntmps12
  go_wp2_with fail
  refine (no_none p w h).mono ?_
  rintro e w' ⟨rfl, rfl⟩
  go_wp2
  go_ret
  exact ⟨rfl, rfl⟩
theorem no_hole (p : Option Addr) (w : World) (h : No w p) : Calls Try.prog 17 #[.pointer p] w fun e w' => e = .returned (.tuple #[]) ∧ w' = w := by
  go_enter Try.func17, Try.ntmps17
  go_wp2_with fail
  refine (no_none p w h).mono ?_
  rintro e w' ⟨rfl, rfl⟩
  go_wp2
  refine bodyPost_ret (results_none rfl _ _ _) rfl ?_
  exact ⟨rfl, rfl⟩
theorem no_probe (p : Option Addr) (w : World) (h : No w p) : Calls Try.prog 10 #[.pointer p] w fun e w' => e = .returned (.tuple #[.int .i64 0, .bool false]) ∧ Below w.heap.size w w' := by
  have hmf : ∀ (fn : Fn) (first cap : Array Value) (w : World), (Instr.makeFunc fn first cap).run Try.prog w = .ok (.func fn first cap) w := fun _ _ _ _ => rfl
  have h' := no_none p (w.alloc (.cells #[.pointer p] 23)) (h.below (bel1 _ _))
  go_enter Try.func10, Try.ntmps10
  go_wp2_with fail
  refine h'.mono ?_
  rintro e w' ⟨rfl, rfl⟩
  go_wp2
  go_ret2
  exact ⟨rfl, bel1 _ _⟩
theorem no_wrong (p : Option Addr) (n : Int) (w : World) (h : No w p) : Calls Try.prog 21 #[.pointer p, .int .i64 n] w fun e w' => e = .returned (.int .i64 1) ∧ w' = w := by
  go_enter Try.func21, Try.ntmps21
  go_wp2_with fail
  refine (no_none p w h).mono ?_
  rintro e w' ⟨rfl, rfl⟩
  go_wp2
  go_ret
  exact ⟨rfl, rfl⟩
theorem no_acked (p : Option Addr) (n : Int) (w : World) (h : No w p) : Calls Try.prog 13 #[.pointer p, .int .i64 n] w fun e w' => e = .returned (.int .i64 1) ∧ w' = w := by
  go_enter Try.func13, Try.ntmps13
  go_wp2_with fail
  refine (no_wrong p n w h).mono ?_
  rintro e w' ⟨rfl, rfl⟩
  go_wp2
  go_ret
  exact ⟨rfl, rfl⟩
theorem no_lost (p : Option Addr) (n : Int) (w : World) (h : No w p) : Calls Try.prog 15 #[.pointer p, .int .i64 n] w fun e w' => e = .returned (.int .i64 1) ∧ w' = w := by
  go_enter Try.func15, Try.ntmps15
  go_wp2_with fail
  refine (no_wrong p n w h).mono ?_
  rintro e w' ⟨rfl, rfl⟩
  go_wp2
  go_ret
  exact ⟨rfl, rfl⟩

set_option maxRecDepth 100000 in
set_option maxHeartbeats 1000000 in
theorem nobody_walk (k n : Int) (s : Bool) (w : World) : Calls Try.prog 4 #[.agg #[.int .i64 k, .int .i64 n, .bool s]] w fun e w' => e = .returned (.bool true) ∧ Below w.heap.size w w' := by
  go_enter Try.func4, Try.ntmps4
  go_wp2
  refine wp_loop_rounds 3 ?_
  rw [rounds_succ]
  obtain ⟨W0, hW0⟩ : ∃ W0, (((w.alloc (.cells #[.int .i64 k, .int .i64 n, .bool s] 37)).alloc (.cells #[.int .i64 0, .int .i64 0, .int .i64 0, .int .i64 0] 42)).alloc (.cells #[.pointer none, .pointer (some ⟨w.heap.size + 1, 0, none⟩)] 23)) = W0 := ⟨_, rfl⟩
  rw [hW0]
  have hB0 : Below w.heap.size w W0 := by rw [← hW0]; exact (((Below.refl _ w).alloc (Nat.le_refl _) _).alloc (by simp) _).alloc (by simp; omega) _
  have ca1 : W0.cell? ⟨w.heap.size, 1, none⟩ = some (.int .i64 n) := by rw [← hW0]; simp [go_sem]
  have cc0 : W0.cell? ⟨w.heap.size + 1 + 1, 0, none⟩ = some (.pointer none) := by rw [← hW0]; simp [go_sem]
  have cc1 : W0.cell? ⟨w.heap.size + 1 + 1, 1, none⟩ = some (.pointer (some ⟨w.heap.size + 1, 0, none⟩)) := by rw [← hW0]; simp [go_sem]
  have no2 : No W0 (some ⟨w.heap.size + 1, 0, none⟩) := by
    refine .inr ⟨_, rfl, ?_⟩
    intro j hj
    rw [← hW0]
    match j, hj with
    | 0, _ => simp [go_sem]
    | 1, _ => simp [go_sem]
    | 2, _ => simp [go_sem]
    | 3, _ => simp [go_sem]
  have hla : w.heap.size < W0.heap.size := by rw [← hW0]; simp; omega
  have hlc : w.heap.size + 1 + 1 < W0.heap.size := by rw [← hW0]; simp
  clear hW0
  have no1 : No W0 none := .inl rfl
  generalize w.heap.size + 1 + 1 = C at *
  have HB : Aside (Below w.heap.size w W0) := hB0
  clear hB0
  have h0 := no_hole none W0 no1
  have h1 := no_probe none W0 no1
  go_wp2_with fail
  refine h0.mono ?_
  rintro e u ⟨rfl, h⟩
  subst u
  go_wp2_with fail
  refine h1.mono ?_
  rintro e W1 ⟨rfl, hb⟩
  clear h0 h1
  have no3 : No W1 none := .inl rfl
  have no4 := no2.below hb
  have cb1 := (hb.cell (p := ⟨w.heap.size, 1, none⟩) hla).trans ca1
  have cd1 := (hb.cell (p := ⟨C, 1, none⟩) hlc).trans cc1
  have HB1 : Aside (Below w.heap.size w W1) := HB.out.trans (hb.mono (Nat.le_of_lt hla))
  clear hb ca1 cc0 cc1 no1 no2 HB hla hlc
  have h2 := no_size none W1 no3
  have h3 := no_acked none n W1 no3
  have h4 := no_lost none n W1 no3
  go_wp2_with fail
  refine h2.mono ?_
  rintro e u ⟨rfl, h⟩
  subst u
  go_wp2_with fail
  refine h3.mono ?_
  rintro e u ⟨rfl, h⟩
  subst u
  go_wp2_with fail
  refine h4.mono ?_
  rintro e u ⟨rfl, h⟩
  subst u
  clear h2 h3 h4 no3
  go_wp2
  rw [rounds_succ]
  have h0 := no_hole _ W1 no4
  have h1 := no_probe _ W1 no4
  go_wp2_with fail
  refine h0.mono ?_
  rintro e u ⟨rfl, h⟩
  subst u
  go_wp2_with fail
  refine h1.mono ?_
  rintro e W2 ⟨rfl, hb⟩
  have no5 := no4.below hb
  have HB2 : Aside (Below w.heap.size w W2) := HB1.out.trans (hb.mono HB1.out.size)
  have cb1 := (hb.cell (p := ⟨w.heap.size, 1, none⟩) (World.block_lt_of_cell? _ _ cb1)).trans cb1
  clear hb cd1 no4 h0 h1 HB1
  have h2 := no_size _ W2 no5
  have h3 := no_acked _ n W2 no5
  have h4 := no_lost _ n W2 no5
  go_wp2_with fail
  refine h2.mono ?_
  rintro e u ⟨rfl, h⟩
  subst u
  go_wp2_with fail
  refine h3.mono ?_
  rintro e u ⟨rfl, h⟩
  subst u
  go_wp2_with fail
  refine h4.mono ?_
  rintro e u ⟨rfl, h⟩
  subst u
  go_wp2
  rw [rounds_succ]
  go_wp2
  go_ret
  exact ⟨rfl, HB2.out⟩
end Go.Proofs.Ytpafgoikhkidbaa
