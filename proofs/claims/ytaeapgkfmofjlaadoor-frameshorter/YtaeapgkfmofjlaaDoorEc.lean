/- frame.Why of a number; closing. -/
import Derived.Test.YtaeapgkfmofjlaaDoorEb
import Derived.Defers
import Derived.Recover
import Derived.Laws.CopyOwn
namespace Go.Proofs.YtaeapgkfmofjlaaDoor
open Go.RowKit
set_option linter.unusedVariables false
set_option maxRecDepth 100000

/-- The world is as it was but for block Q, and may have grown. -/
structure But (Q : Nat) (w w' : World) : Prop where
  os : w'.os = w.os
  tape : w'.tape = w.tape
  output : w'.output = w.output
  size : w.heap.size ≤ w'.heap.size
  block : ∀ k, k < w.heap.size → k ≠ Q → w'.heap[k]? = w.heap[k]?
theorem But.below {Q B : Nat} {w w' : World} (h : But Q w w') (hQ : B ≤ Q) (hB : B ≤ w.heap.size) : Below B w w' :=
  ⟨h.os, h.tape, h.output, h.size, fun k hk => h.block k (by omega) (by omega)⟩
theorem But.alloc {Q : Nat} {u w : World} (h : But Q u w) (o : Obj) : But Q u (w.alloc o) :=
  ⟨h.os, h.tape, h.output, by simp; have := h.size; omega, fun k hk hn => (Below.heap_alloc _ _ _ (by have := h.size; omega)).trans (h.block k hk hn)⟩
theorem But.set {Q : Nat} {u w : World} (h : But Q u w) (j : Nat) (v : Value) : But Q u (w.setCell ⟨Q, j, none⟩ v) :=
  ⟨h.os, h.tape, h.output, by simp [World.setCell]; exact h.size, fun k hk hn => (Below.heap_setCell _ _ _ _ hn).trans (h.block k hk hn)⟩
theorem But.refl (Q : Nat) (w : World) : But Q w w := ⟨rfl, rfl, rfl, Nat.le_refl _, fun _ _ _ => rfl⟩
theorem fr_lt {w : World} {g : Nat} {o : Obj} (h : w.heap[g]? = some o) : g < w.heap.size := by
  by_cases hg : g < w.heap.size
  · exact hg
  · rw [Array.getElem?_eq_none (by omega)] at h; cases h
theorem fr_new3 (w : World) (o1 o2 o3 : Obj) : (((w.alloc o1).alloc o2).alloc o3).heap[w.heap.size]? = some o1 ∧ (((w.alloc o1).alloc o2).alloc o3).heap[w.heap.size + 1]? = some o2 ∧ (((w.alloc o1).alloc o2).alloc o3).heap[w.heap.size + 2]? = some o3 ∧ (((w.alloc o1).alloc o2).alloc o3).heap.size = w.heap.size + 3 := by
  have z1 : (w.alloc o1).heap.size = w.heap.size + 1 := by simp
  have z2 : ((w.alloc o1).alloc o2).heap.size = w.heap.size + 2 := by simp
  refine ⟨?_, ?_, ?_, by simp⟩
  · rw [Below.heap_alloc _ _ _ (by omega), Below.heap_alloc _ _ _ (by omega)]; exact heap_alloc_new _ _
  · rw [Below.heap_alloc _ _ _ (by omega), ← z1]; exact heap_alloc_new _ _
  · rw [← z2]; exact heap_alloc_new _ _
theorem as_num_any (n : Int) (x : Value) (Q : Nat) (w : World) (hq : w.heap[Q]? = some (.cells #[x] 29 (0, 0))) (hE : w.cell? ⟨1, 0, none⟩ = some (rtp 38)) :
    Calls Tryd.prog 37 #[.iface 29 (.int .i64 n), .iface 112 (.pointer (some ⟨Q, 0, none⟩))] w fun e w' => e = .returned (.bool true) ∧ But Q w w' ∧ w'.heap[Q]? = some (.cells #[.int .i64 n] 29 (0, 0)) := by
  have hc : w.cell? ⟨Q, 0, none⟩ = some x := by unfold World.cell?; rw [hq]; rfl
  have hf : w.frozen? ⟨Q, 0, none⟩ = false := by unfold World.frozen?; rw [hq]; simp
  have hlt : Q < w.heap.size := World.block_lt_of_cell? w _ hc
  refine (as_num n x ⟨Q, 0, none⟩ w hc hf hE).mono ?_
  rintro e w' ⟨rfl, rfl⟩
  refine ⟨rfl, (((((But.refl Q w).alloc _).alloc _).alloc _).alloc _).set 0 _, ?_⟩
  have hh : ((((w.alloc (.cells #[.pointer (some ⟨Q, 0, none⟩)] 112)).alloc (.cells #[hdl 112, .pointer (some ⟨w.heap.size, 0, none⟩), .int .u64 150] 120)).alloc (.cells #[hdl 112, .pointer (some ⟨w.heap.size, 0, none⟩), .int .u64 150] 120)).alloc (.cells #[.int .i64 n] 29)).heap[Q]? = some (.cells #[x] 29 (0, 0)) := by
    rw [Below.heap_alloc _ _ _ (by simp; omega), Below.heap_alloc _ _ _ (by simp; omega), Below.heap_alloc _ _ _ (by simp; omega), Below.heap_alloc _ _ _ hlt]
    exact hq
  rw [heap_setCell_same _ Q 0 _ 29 _ hh]
  rfl
theorem catch_idle (p q : Addr) (w : World) :
    CallsD Tryd.prog 49 #[.pointer (some p), .pointer (some q)] .returning w fun e u' w' => e = .returned (.tuple #[]) ∧ u' = .returning ∧ w' = w := by
  refine callsD_of_wpS Tryd.func49 rfl fun c₀ cs hu => ?_
  apply wpS_seq
  apply wpS_region
  simp [wpOpsS, go_sem, recoverD, hu, Tryd.ntmps49, Exit.thenS]
  refine wpS_cond (t := false) (by simp [Act.eval, Array.replicate]) ?_
  simp only [Bool.false_eq_true, if_false]
  refine wpS_of_wp (wp_skip ?_)
  cases c₀
  simp_all [bodyPostS, results, Tryd.results49]
set_option maxHeartbeats 1000000 in
theorem why_num (n : Int) (w : World) (hE : w.cell? ⟨1, 0, none⟩ = some (rtp 38)) :
    Calls Tryd.prog 35 #[.iface 29 (.int .i64 n)] w fun e w' => e = .returned (.tuple #[.int .i64 n, .int .i64 1]) ∧ Below w.heap.size w w' := by
  have hmf : ∀ (fn : Fn) (first cap : Array Value) (w : World), (Instr.makeFunc fn first cap).run Tryd.prog w = .ok (.func fn first cap) w := fun _ _ _ _ => rfl
  obtain ⟨X, hX⟩ : ∃ X, X = ((w.alloc (.cells #[.int .i64 0] 29)).alloc (.cells #[.int .i64 0] 3)).alloc (.cells #[.pointer none] 83) := ⟨_, rfl⟩
  have HX := hidIt hX
  have hb1 : 1 < w.heap.size := World.block_lt_of_cell? w _ hE
  have HBX : Hid (Below w.heap.size w X) := by rw [hX]; exact (((Below.refl _ _).alloc (Nat.le_refl _) _).alloc (by simp) _).alloc (by simp; omega) _
  obtain ⟨hX0, hX1, hX2, hsz⟩ := fr_new3 w (.cells #[.int .i64 0] 29) (.cells #[.int .i64 0] 3) (.cells #[.pointer none] 83)
  rw [← hX] at hX0 hX1 hX2 hsz
  have HX0 := hidIt hX0
  have HX1 := hidIt hX1
  clear hX0 hX1 hX2
  have HEX : Hid (X.cell? ⟨1, 0, none⟩ = some (rtp 38)) := (World.cell?_of_block (w := w) (a := ⟨1, 0, none⟩) (HBX.out.block 1 hb1)).trans hE
  have HA := hidIt (as_no (.int .i64 n) ⟨w.heap.size + 2, 0, none⟩ X HEX.out)
  have HA2 : Hid (∀ Y, Below X.heap.size X Y → Calls Tryd.prog 37 #[.iface 29 (.int .i64 n), .iface 112 (.pointer (some ⟨w.heap.size, 0, none⟩))] Y fun e w' => e = .returned (.bool true) ∧ But w.heap.size Y w' ∧ w'.heap[w.heap.size]? = some (.cells #[.int .i64 n] 29 (0, 0))) := fun Y hY =>
    as_num_any n (.int .i64 0) w.heap.size Y ((hY.block w.heap.size (by omega)).trans HX0.out) ((World.cell?_of_block (w := X) (a := ⟨1, 0, none⟩) (hY.block 1 (by omega))).trans HEX.out)
  have n1 := run_eql_iface_nil (P := Tryd.prog) (w := w) 38 (by kernel_rfl) 29 (.int .i64 n)
  rw [hX] at HA
  clear hX
  go_enter_defers Tryd.func35, Tryd.ntmps35
  go_wp2_with (go_at_call 37; refine HA.out.mono ?_; rintro e w1 ⟨rfl, hb⟩; rw [← HX.out] at hb; refine Hid.out ?_)
  refine hidIt ?_
  have HB1 := hidIt hb
  have h2 := HA2.out w1 hb
  have hsz1 := hb.size
  clear HA hb
  go_wp2_with fail
  refine h2.mono ?_
  rintro e w2 ⟨rfl, hbut, hq2⟩
  have hsz2 := hbut.size
  have h1 : w2.heap[w.heap.size + 1]? = some (.cells #[.int .i64 0] 3 (0, 0)) := (hbut.block (w.heap.size + 1) (by omega) (by omega)).trans ((HB1.out.block (w.heap.size + 1) (by omega)).trans HX1.out)
  have r0 : w2.cell? ⟨w.heap.size, 0, none⟩ = some (.int .i64 n) := by unfold World.cell?; rw [hq2]; rfl
  have r1 : w2.cell? ⟨w.heap.size + 1, 0, none⟩ = some (.int .i64 0) := by unfold World.cell?; rw [h1]; rfl
  have f0 : w2.frozen? ⟨w.heap.size, 0, none⟩ = false := by unfold World.frozen?; rw [hq2]; simp
  have f1 : w2.frozen? ⟨w.heap.size + 1, 0, none⟩ = false := by unfold World.frozen?; rw [h1]; simp
  have HBW : Hid (Below w.heap.size w w2) := (HBX.out.trans (HB1.out.mono (by omega))).trans (hbut.below (Nat.le_refl _) (by omega))
  clear h1 hq2 hbut hE h2
  go_wp2
  refine leaves_cons (f := 49) (args := #[.pointer (some ⟨w.heap.size, 0, none⟩), .pointer (some ⟨w.heap.size + 1, 0, none⟩)]) (by simp) (by simp [go_sem]) ?_
  refine (catch_idle _ _ _).mono ?_
  rintro e u' w'' ⟨rfl, rfl, rfl⟩
  simp [Leaves, settle, results, Tryd.results35, go_sem, r0, r1]
  exact (((HBW.out).setCell (p := ⟨w.heap.size, 0, none⟩) (Nat.le_refl _) _).setCell (p := ⟨w.heap.size + 1, 0, none⟩) (by show w.heap.size ≤ w.heap.size + 1; omega) _)
end Go.Proofs.YtaeapgkfmofjlaaDoor
