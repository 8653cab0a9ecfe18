/- frame.Why by its contracts: of nil, and of a *api.Close. -/
import Derived.Test.YtmgknknjlpdciaaDoorAsClose
import Derived.Defers
import Derived.Recover
import Derived.Laws.CopyOwn
namespace Go.Proofs.YtmgknknjlpdciaaDoor
open Go.RowKit
set_option linter.unusedVariables false

/-- The world is as it was but for block Q, and may have grown. -/
structure But (Q : Nat) (w w' : World) : Prop where
  os : w'.os = w.os
  tape : w'.tape = w.tape
  output : w'.output = w.output
  size : w.heap.size ≤ w'.heap.size
  block : ∀ k, k < w.heap.size → k ≠ Q → w'.heap[k]? = w.heap[k]?
theorem But.below {Q B : Nat} {w w' : World} (h : But Q w w') (hQ : B ≤ Q) (hB : B ≤ w.heap.size) : Below B w w' :=
  ⟨h.os, h.tape, h.output, h.size, fun k hk => h.block k (by omega) (by omega)⟩
theorem But.cell {Q : Nat} {w w' : World} (h : But Q w w') {a : Addr} (hl : a.block < w.heap.size) (hn : a.block ≠ Q) : w'.cell? a = w.cell? a := World.cell?_of_block (h.block _ hl hn)
theorem But.frozen {Q : Nat} {w w' : World} (h : But Q w w') {a : Addr} (hl : a.block < w.heap.size) (hn : a.block ≠ Q) : w'.frozen? a = w.frozen? a := by unfold World.frozen?; rw [h.block _ hl hn]
theorem But.alloc {Q : Nat} {u w : World} (h : But Q u w) (o : Obj) : But Q u (w.alloc o) :=
  ⟨h.os, h.tape, h.output, by simp; have := h.size; omega, fun k hk hn => (Below.heap_alloc _ _ _ (by have := h.size; omega)).trans (h.block k hk hn)⟩
theorem But.set {Q : Nat} {u w : World} (h : But Q u w) (j : Nat) (v : Value) : But Q u (w.setCell ⟨Q, j, none⟩ v) :=
  ⟨h.os, h.tape, h.output, by simp [World.setCell]; exact h.size, fun k hk hn => (Below.heap_setCell _ _ _ _ hn).trans (h.block k hk hn)⟩
theorem But.refl (Q : Nat) (w : World) : But Q w w := ⟨rfl, rfl, rfl, Nat.le_refl _, fun _ _ _ => rfl⟩

theorem fr_lt {w : World} {g : Nat} {o : Obj} (h : w.heap[g]? = some o) : g < w.heap.size := by
  by_cases hg : g < w.heap.size
  · exact hg
  · rw [Array.getElem?_eq_none (by omega)] at h; cases h
theorem fr_row {w : World} {g : Nat} {o : Obj} {cs : Array Value} {t : TypeId} (h : w.heap[g]? = some (.cells cs t (0, 0))) : ∀ j, w.frozen? ⟨g, j, none⟩ = false := by intro j; unfold World.frozen?; rw [h]; simp

theorem fr_new3 (w : World) (o1 o2 o3 : Obj) : (((w.alloc o1).alloc o2).alloc o3).heap[w.heap.size]? = some o1 ∧ (((w.alloc o1).alloc o2).alloc o3).heap[w.heap.size + 1]? = some o2 ∧ (((w.alloc o1).alloc o2).alloc o3).heap[w.heap.size + 2]? = some o3 ∧ (((w.alloc o1).alloc o2).alloc o3).heap.size = w.heap.size + 3 := by
  have z1 : (w.alloc o1).heap.size = w.heap.size + 1 := by simp
  have z2 : ((w.alloc o1).alloc o2).heap.size = w.heap.size + 2 := by simp
  refine ⟨?_, ?_, ?_, by simp⟩
  · rw [Below.heap_alloc _ _ _ (by omega), Below.heap_alloc _ _ _ (by omega)]; exact heap_alloc_new _ _
  · rw [Below.heap_alloc _ _ _ (by omega), ← z1]; exact heap_alloc_new _ _
  · rw [← z2]; exact heap_alloc_new _ _

theorem as_close_any (p : Addr) (Q : Nat) (w : World) (hq : w.heap[Q]? = some (.cells #[.pointer none] 58 (0, 0))) (hE : w.cell? ⟨1, 0, none⟩ = some (rtp 38)) :
    Calls Tryd.prog 42 #[.iface 58 (.pointer (some p)), .iface 88 (.pointer (some ⟨Q, 0, none⟩))] w fun e w' => e = .returned (.bool true) ∧ But Q w w' ∧ w'.heap[Q]? = some (.cells #[.pointer (some p)] 58 (0, 0)) := by
  have hc : w.cell? ⟨Q, 0, none⟩ = some (.pointer none) := by unfold World.cell?; rw [hq]; rfl
  have hf : w.frozen? ⟨Q, 0, none⟩ = false := by unfold World.frozen?; rw [hq]; simp
  have hlt : Q < w.heap.size := World.block_lt_of_cell? w _ hc
  refine (as_close p ⟨Q, 0, none⟩ w hc hf hE).mono ?_
  rintro e w' ⟨rfl, rfl⟩
  refine ⟨rfl, (((((But.refl Q w).alloc _).alloc _).alloc _).alloc _).set 0 _, ?_⟩
  have hh : ((((w.alloc (.cells #[.pointer (some ⟨Q, 0, none⟩)] 88)).alloc (.cells #[hdl 88, .pointer (some ⟨w.heap.size, 0, none⟩), .int .u64 150] 120)).alloc (.cells #[hdl 88, .pointer (some ⟨w.heap.size, 0, none⟩), .int .u64 150] 120)).alloc (.cells #[.pointer (some p)] 58)).heap[Q]? = some (.cells #[.pointer none] 58 (0, 0)) := by
    rw [Below.heap_alloc _ _ _ (by simp; omega), Below.heap_alloc _ _ _ (by simp; omega), Below.heap_alloc _ _ _ (by simp; omega), Below.heap_alloc _ _ _ hlt]
    exact hq
  rw [heap_setCell_same _ Q 0 _ 58 _ hh]
  rfl

theorem catch_idle (p q : Addr) (w : World) :
    CallsD Tryd.prog 45 #[.pointer (some p), .pointer (some q)] .returning w fun e u' w' => e = .returned (.tuple #[]) ∧ u' = .returning ∧ w' = w := by
  refine callsD_of_wpS Tryd.func45 rfl fun c₀ cs hu => ?_
  apply wpS_seq
  apply wpS_region
  simp [wpOpsS, go_sem, recoverD, hu, Tryd.ntmps45, Exit.thenS]
  refine wpS_cond (t := false) (by simp [Act.eval, Array.replicate]) ?_
  simp only [Bool.false_eq_true, if_false]
  refine wpS_of_wp (wp_skip ?_)
  cases c₀
  simp_all [bodyPostS, results, Tryd.results45]

theorem why_nil (w : World) :
    Calls Tryd.prog 20 #[.nilIface] w fun e w' => e = .returned (.tuple #[.int .i64 0, .int .i64 0]) ∧ Below w.heap.size w w' := by
  have HB : Hid (Below w.heap.size w ((w.alloc (.cells #[.int .i64 0] 29)).alloc (.cells #[.int .i64 0] 3))) := ((Below.refl _ _).alloc (Nat.le_refl _) _).alloc (by simp) _
  have hmf : ∀ (fn : Fn) (first cap : Array Value) (w : World), (Instr.makeFunc fn first cap).run Tryd.prog w = .ok (.func fn first cap) w := fun _ _ _ _ => rfl
  go_enter_defers Tryd.func20, Tryd.ntmps20
  go_wp2
  refine leaves_cons (f := 45) (args := #[.pointer (some ⟨w.heap.size, 0, none⟩), .pointer (some ⟨w.heap.size + 1, 0, none⟩)]) (by simp) (by simp [go_sem]) ?_
  refine (catch_idle _ _ _).mono ?_
  rintro e u' w'' ⟨rfl, rfl, rfl⟩
  simp [Leaves, settle, results, Tryd.results20, go_sem]
  exact HB.out

theorem why_close (pb : Nat) (code kind er : Int) (app : Bool) (w : World) (hp : w.heap[pb]? = some (.cells #[.int .i64 code, .bool app, .int .i64 kind, .int .i64 er] 60 (0, 0))) (hE : w.cell? ⟨1, 0, none⟩ = some (rtp 38)) :
    Calls Tryd.prog 20 #[.iface 58 (.pointer (some ⟨pb, 0, none⟩))] w fun e w' => e = .returned (.tuple #[.int .i64 er, .int .i64 code]) ∧ Below w.heap.size w w' := by
  have hmf : ∀ (fn : Fn) (first cap : Array Value) (w : World), (Instr.makeFunc fn first cap).run Tryd.prog w = .ok (.func fn first cap) w := fun _ _ _ _ => rfl
  obtain ⟨X, hX⟩ : ∃ X, X = ((w.alloc (.cells #[.int .i64 0] 29)).alloc (.cells #[.int .i64 0] 3)).alloc (.cells #[.pointer none] 58) := ⟨_, rfl⟩
  have HX := hidIt hX
  have hb1 : 1 < w.heap.size := World.block_lt_of_cell? w _ hE
  have hbp : pb < w.heap.size := fr_lt hp
  have HBX : Hid (Below w.heap.size w X) := by rw [hX]; exact (((Below.refl _ _).alloc (Nat.le_refl _) _).alloc (by simp) _).alloc (by simp; omega) _
  obtain ⟨hX0, hX1, hX2, hsz⟩ := fr_new3 w (.cells #[.int .i64 0] 29) (.cells #[.int .i64 0] 3) (.cells #[.pointer none] 58)
  rw [← hX] at hX0 hX1 hX2 hsz
  have HQ := hidIt hX2
  have HX0 := hidIt hX0
  have HX1 := hidIt hX1
  clear hX0 hX1 hX2
  have HEX : Hid (X.cell? ⟨1, 0, none⟩ = some (rtp 38)) := (World.cell?_of_block (w := w) (a := ⟨1, 0, none⟩) (HBX.out.block 1 hb1)).trans hE
  have HPX : Hid (X.heap[pb]? = some (.cells #[.int .i64 code, .bool app, .int .i64 kind, .int .i64 er] 60 (0, 0))) := (HBX.out.block pb hbp).trans hp
  have HA := hidIt (as_close_any ⟨pb, 0, none⟩ (w.heap.size + 2) X HQ.out HEX.out)
  rw [hX] at HA
  clear hX
  go_enter_defers Tryd.func20, Tryd.ntmps20
  go_wp2_with (go_at_call 42; refine HA.out.mono ?_; rintro e w1 ⟨rfl, hbut, hq1⟩; rw [← HX.out] at hbut; refine Hid.out ?_)
  refine hidIt ?_
  have hsz1 := hbut.size
  have c2 : w1.cell? ⟨w.heap.size + 1 + 1, 0, none⟩ = some (.pointer (some ⟨pb, 0, none⟩)) := by unfold World.cell?; rw [show w.heap.size + 1 + 1 = w.heap.size + 2 by omega, hq1]; rfl
  have hp1 := (hbut.block pb (by omega) (by omega)).trans HPX.out
  have p0 : w1.cell? ⟨pb, 0, none⟩ = some (.int .i64 code) := by unfold World.cell?; rw [hp1]; rfl
  have p3 : w1.cell? ⟨pb, 3, none⟩ = some (.int .i64 er) := by unfold World.cell?; rw [hp1]; rfl
  have h0 := (hbut.block w.heap.size (by omega) (by omega)).trans HX0.out
  have h1 := (hbut.block (w.heap.size + 1) (by omega) (by omega)).trans HX1.out
  have r0 : w1.cell? ⟨w.heap.size, 0, none⟩ = some (.int .i64 0) := by unfold World.cell?; rw [h0]; rfl
  have r1 : w1.cell? ⟨w.heap.size + 1, 0, none⟩ = some (.int .i64 0) := by unfold World.cell?; rw [h1]; rfl
  have f0 : w1.frozen? ⟨w.heap.size, 0, none⟩ = false := by unfold World.frozen?; rw [h0]; simp
  have f1 : w1.frozen? ⟨w.heap.size + 1, 0, none⟩ = false := by unfold World.frozen?; rw [h1]; simp
  have HBW : Hid (Below w.heap.size w w1) := HBX.out.trans (hbut.below (by omega) (by omega))
  clear h0 h1 hq1 hbut hp1 hp hE
  go_wp2
  go_region
  go_wp2
  refine leaves_cons (f := 45) (args := #[.pointer (some ⟨w.heap.size, 0, none⟩), .pointer (some ⟨w.heap.size + 1, 0, none⟩)]) (by simp) (by simp [go_sem]) ?_
  refine (catch_idle _ _ _).mono ?_
  rintro e u' w'' ⟨rfl, rfl, rfl⟩
  simp [Leaves, settle, results, Tryd.results20, go_sem, r0, r1]
  exact (((HBW.out).setCell (p := ⟨w.heap.size, 0, none⟩) (Nat.le_refl _) _).setCell (p := ⟨w.heap.size + 1, 0, none⟩) (by show w.heap.size ≤ w.heap.size + 1; omega) _).drew
end Go.Proofs.YtmgknknjlpdciaaDoor
