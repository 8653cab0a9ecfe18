/- ecn: a validation that is nil, or that no call made. -/
import Derived.Test.YthfloemckhbljaaRows
import Derived.WalkKit
import Derived.ProofKit
import Derived.OpenShut
import Derived.Deep.LoopGhost
import Derived.Laws.StructEq
namespace Go.Proofs.Ythfloemckhbljaa
open Go.RowKit
set_option linter.unusedVariables false

/-- A validation that is none: nil, or a plain one. -/
def No (w : World) (p : Option Addr) : Prop := p = none ∨ ∃ b, p = some ⟨b, 0, none⟩ ∧ ∀ j, j < 7 → w.cell? ⟨b, j, none⟩ = some (.int .i64 0)
theorem bel1 (w : World) (o : Obj) : Below w.heap.size w (w.alloc o) := (Below.refl _ w).alloc (Nat.le_refl _) o
theorem bel_trans {a b c : World} (h : Below a.heap.size a b) (k : Below b.heap.size b c) : Below a.heap.size a c := h.trans (k.mono h.size)
theorem No.below {w w' : World} {p : Option Addr} (h : No w p) (hb : Below w.heap.size w w') : No w' p := by
  rcases h with h | ⟨b, h, hc⟩
  · exact .inl h
  · exact .inr ⟨b, h, fun j hj => (hb.cell (p := ⟨b, j, none⟩) (World.block_lt_of_cell? _ _ (hc j hj))).trans (hc j hj)⟩

set_option maxRecDepth 100000 in
/-- A validation's cells against those of a plain one. -/
theorem eq43z (w : World) : (binOp .eql 43 (.agg #[.int .i64 0, .int .i64 0, .int .i64 0, .int .i64 0, .int .i64 0, .int .i64 0, .int .i64 0]) (.agg #[.int .i64 0, .int .i64 0, .int .i64 0, .int .i64 0, .int .i64 0, .int .i64 0, .int .i64 0])).run Try.prog w = .ok (.bool true) w := by kernel_rfl
set_option maxRecDepth 100000 in
theorem eq43n (s n l h a b c : Int) (hs : ¬ s = 0) (w : World) : (binOp .eql 43 (.agg #[.int .i64 s, .int .i64 n, .int .i64 l, .int .i64 h, .int .i64 a, .int .i64 b, .int .i64 c]) (.agg #[.int .i64 0, .int .i64 0, .int .i64 0, .int .i64 0, .int .i64 0, .int .i64 0, .int .i64 0])).run Try.prog w = .ok (.bool false) w := by
  have u3 := Try.underlying3
  have a3 := Try.isAgg3
  have z3 := Try.sizeOf3
  have hS : Try.prog.underlying 43 = some (.struct (Try.prog.fieldsOf 43)) := by kernel_rfl
  have hp : Try.prog.stoodInHeld 43 = false := by kernel_rfl
  rw [run_eql_struct, show (10000 : Nat) = 9999 + 1 from rfl, run_equalIn_agg w 9999 43 _ _ hS hp]
  simp only [Program.fieldsOf, Try.underlying43]
  go_simp

set_option maxRecDepth 100000 in
theorem no_none (p : Option Addr) (w : World) (h : No w p) : Calls Try.prog 17 #[.pointer p] w fun e w' => e = .returned (.bool true) ∧ w' = w := by
  rcases h with rfl | ⟨b, rfl, h⟩
  · go_enter Try.func17, Try.ntmps17
    go_wp2
    go_ret
    exact ⟨rfl, rfl⟩
  · have h0 := h 0 (by decide)
    have h1 := h 1 (by decide)
    have h2 := h 2 (by decide)
    have h3 := h 3 (by decide)
    have h4 := h 4 (by decide)
    have h5 := h 5 (by decide)
    have h6 := h 6 (by decide)
    have hq := eq43z
    clear h
    go_enter Try.func17, Try.ntmps17
    go_wp2
    go_ret
    exact ⟨rfl, rfl⟩
theorem no_state (p : Option Addr) (w : World) (h : No w p) : Calls Try.prog 9 #[.pointer p] w fun e w' => e = .returned (.int .i64 0) ∧ w' = w := by
  go_enter Try.func9, Try.ntmps9
  go_wp2_with fail
  refine (no_none p w h).mono ?_
  rintro e w' ⟨rfl, rfl⟩
  go_wp2
  go_ret
  exact ⟨rfl, rfl⟩
theorem no_sent (p : Option Addr) (w : World) (h : No w p) : Calls Try.prog 11 #[.pointer p] w fun e w' => e = .returned (.bool false) ∧ w' = w := by
  go_enter Try.func11, Try.ntmps11
  go_wp2_with fail
  refine (no_state p w h).mono ?_
  rintro e w' ⟨rfl, rfl⟩
  go_wp2
  go_ret
  exact ⟨rfl, rfl⟩
theorem no_lost (p : Option Addr) (n : Int) (w : World) (h : No w p) : Calls Try.prog 13 #[.pointer p, .int .i64 n] w fun e w' => e = .returned (.int .i64 1) ∧ w' = w := by
  go_enter Try.func13, Try.ntmps13
  go_wp2_with fail
  refine (no_none p w h).mono ?_
  rintro e w' ⟨rfl, rfl⟩
  go_wp2
  go_ret
  exact ⟨rfl, rfl⟩
theorem no_acked (p : Option Addr) (n a b c : Int) (s : Bool) (w : World) (h : No w p) : Calls Try.prog 15 #[.pointer p, .int .i64 n, .agg #[.int .i64 a, .int .i64 b, .int .i64 c], .bool s] w fun e w' => e = .returned (.tuple #[.bool false, .int .i64 1]) ∧ Below w.heap.size w w' := by
  have h' := no_none p (w.alloc (.cells #[.int .i64 a, .int .i64 b, .int .i64 c] 28)) (h.below (bel1 _ _))
  go_enter Try.func15, Try.ntmps15
  go_wp2_with fail
  refine h'.mono ?_
  rintro e w' ⟨rfl, rfl⟩
  go_wp2
  go_ret2
  exact ⟨rfl, bel1 _ _⟩

set_option maxRecDepth 100000 in
set_option maxHeartbeats 1000000 in
theorem nobody_walk (k n a b c : Int) (s : Bool) (w : World) : Calls Try.prog 4 #[.agg #[.int .i64 k, .int .i64 n, .int .i64 a, .int .i64 b, .int .i64 c, .bool s]] w fun e w' => e = .returned (.bool true) ∧ Below w.heap.size w w' := by
  go_enter Try.func4, Try.ntmps4
  go_wp2
  refine wp_loop_rounds 3 ?_
  rw [rounds_succ]
  obtain ⟨W0, hW0⟩ : ∃ W0, (((w.alloc (.cells #[.int .i64 k, .int .i64 n, .int .i64 a, .int .i64 b, .int .i64 c, .bool s] 33)).alloc (.cells #[.int .i64 0, .int .i64 0, .int .i64 0, .int .i64 0, .int .i64 0, .int .i64 0, .int .i64 0] 43)).alloc (.cells #[.pointer none, .pointer (some ⟨w.heap.size + 1, 0, none⟩)] 23)) = W0 := ⟨_, rfl⟩
  rw [hW0]
  have hB0 : Below w.heap.size w W0 := by rw [← hW0]; exact (((Below.refl _ w).alloc (Nat.le_refl _) _).alloc (by simp) _).alloc (by simp; omega) _
  have ca : ∀ j v, #[Value.int .i64 k, .int .i64 n, .int .i64 a, .int .i64 b, .int .i64 c, .bool s][j]? = some v → W0.cell? ⟨w.heap.size, j, none⟩ = some v := by
    intro j v hj
    rw [← hW0]
    simp [go_sem]
    simpa using hj
  have ca1 := ca 1 _ rfl
  have ca2 := ca 2 _ rfl
  have ca3 := ca 3 _ rfl
  have ca4 := ca 4 _ rfl
  have ca5 := ca 5 _ rfl
  have cc0 : W0.cell? ⟨w.heap.size + 1 + 1, 0, none⟩ = some (.pointer none) := by rw [← hW0]; simp [go_sem]
  have cc1 : W0.cell? ⟨w.heap.size + 1 + 1, 1, none⟩ = some (.pointer (some ⟨w.heap.size + 1, 0, none⟩)) := by rw [← hW0]; simp [go_sem]
  have no2 : No W0 (some ⟨w.heap.size + 1, 0, none⟩) := by
    refine .inr ⟨_, rfl, ?_⟩
    intro j hj
    rw [← hW0]
    match j, hj with
    | 0, _ => simp [go_sem]
    | 1, _ => simp [go_sem]
    | 2, _ => simp [go_sem]
    | 3, _ => simp [go_sem]
    | 4, _ => simp [go_sem]
    | 5, _ => simp [go_sem]
    | 6, _ => simp [go_sem]
  have hla : w.heap.size < W0.heap.size := by rw [← hW0]; simp; omega
  have hlc : w.heap.size + 1 + 1 < W0.heap.size := by rw [← hW0]; simp
  clear hW0 ca
  have no1 : No W0 none := .inl rfl
  generalize w.heap.size + 1 + 1 = C at *
  have HB : Aside (Below w.heap.size w W0) := hB0
  clear hB0
  have h1 := no_acked none n a b c s W0 no1
  go_wp2_with fail
  refine h1.mono ?_
  rintro e W1 ⟨rfl, hb⟩
  clear h1
  have no3 : No W1 none := .inl rfl
  have no4 := no2.below hb
  have cb1 := (hb.cell (p := ⟨w.heap.size, 1, none⟩) hla).trans ca1
  have cb2 := (hb.cell (p := ⟨w.heap.size, 2, none⟩) hla).trans ca2
  have cb3 := (hb.cell (p := ⟨w.heap.size, 3, none⟩) hla).trans ca3
  have cb4 := (hb.cell (p := ⟨w.heap.size, 4, none⟩) hla).trans ca4
  have cb5 := (hb.cell (p := ⟨w.heap.size, 5, none⟩) hla).trans ca5
  have cd1 := (hb.cell (p := ⟨C, 1, none⟩) hlc).trans cc1
  have HB1 : Aside (Below w.heap.size w W1) := HB.out.trans (hb.mono (Nat.le_of_lt hla))
  clear hb ca1 ca2 ca3 ca4 ca5 cc0 cc1 no1 no2 HB hla hlc
  have h2 := no_state none W1 no3
  have h3 := no_sent none W1 no3
  have h4 := no_lost none n W1 no3
  go_wp2_with fail
  refine h2.mono ?_
  rintro e u ⟨rfl, h⟩
  subst u
  go_wp2_with fail
  refine h3.mono ?_
  rintro e u ⟨rfl, h⟩
  subst u
  go_wp2_with fail
  refine h4.mono ?_
  rintro e u ⟨rfl, h⟩
  subst u
  clear h2 h3 h4 no3
  go_wp2
  rw [rounds_succ]
  have h1 := no_acked _ n a b c s W1 no4
  go_wp2_with fail
  refine h1.mono ?_
  rintro e W2 ⟨rfl, hb⟩
  have no5 := no4.below hb
  have HB2 : Aside (Below w.heap.size w W2) := HB1.out.trans (hb.mono HB1.out.size)
  have cb1 := (hb.cell (p := ⟨w.heap.size, 1, none⟩) (World.block_lt_of_cell? _ _ cb1)).trans cb1
  clear hb cb2 cb3 cb4 cb5 cd1 no4 h1 HB1
  have h2 := no_state _ W2 no5
  have h3 := no_sent _ W2 no5
  have h4 := no_lost _ n W2 no5
  go_wp2_with fail
  refine h2.mono ?_
  rintro e u ⟨rfl, h⟩
  subst u
  go_wp2_with fail
  refine h3.mono ?_
  rintro e u ⟨rfl, h⟩
  subst u
  go_wp2_with fail
  refine h4.mono ?_
  rintro e u ⟨rfl, h⟩
  subst u
  go_wp2
  rw [rounds_succ]
  go_wp2
  go_ret
  exact ⟨rfl, HB2.out⟩
end Go.Proofs.Ythfloemckhbljaa
