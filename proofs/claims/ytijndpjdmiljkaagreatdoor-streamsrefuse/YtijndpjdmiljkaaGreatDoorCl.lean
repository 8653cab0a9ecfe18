/- errors.Is of a Close against a number; the law's closes. -/
import Derived.Test.YtijndpjdmiljkaaGreatDoorAc
import Derived.Test.YtijndpjdmiljkaaGreatDoorSb
namespace Go.Proofs.YtijndpjdmiljkaaGreatDoor
open Go.RowKit Go.Extern.Stop Go.Stop Go.Extern
set_option linter.unusedVariables false
set_option maxRecDepth 100000

theorem eq_cn (c : Nat) (er : Int) (w : World) : (binOp .eql 70 (.iface 139 (.pointer (some ⟨c, 0, none⟩))) (.iface 53 (.int .i64 er))).run Tryz.prog w = .ok (.bool false) w := by kernel_rfl
theorem eq_nn (er : Int) (w : World) : (binOp .eql 70 (.iface 53 (.int .i64 er)) (.iface 53 (.int .i64 er))).run Tryz.prog w = .ok (.bool true) w := by
  have h : (binOp .eql 70 (.iface 53 (.int .i64 er)) (.iface 53 (.int .i64 er))).run Tryz.prog w = .ok (.bool (decide (er = er))) w := by kernel_rfl
  rw [h]; simp
theorem eq_cnil (c : Nat) (w : World) : (binOp .eql 70 (.iface 139 (.pointer (some ⟨c, 0, none⟩))) .nilIface).run Tryz.prog w = .ok (.bool false) w := by kernel_rfl
theorem eq_nnil (er : Int) (w : World) : (binOp .eql 70 (.iface 53 (.int .i64 er)) .nilIface).run Tryz.prog w = .ok (.bool false) w := by kernel_rfl
theorem noIsC (v : Value) (xT : TypeId) (w : World) : (Instr.typeAssert (.iface 139 v) xT 216 true).run Tryz.prog w = .ok (.tuple #[.nilIface, .bool false]) w := run_typeAssert_lacksB Tryz.underlying216 (by kernel_rfl) (by kernel_rfl) v xT w
theorem hasUnC (v : Value) (xT : TypeId) (w : World) : (Instr.typeAssert (.iface 139 v) xT 219 true).run Tryz.prog w = .ok (.tuple #[.iface 139 v, .bool true]) w := run_typeAssert_hasB Tryz.underlying219 (by kernel_rfl) v xT w
theorem mUnw (v : Value) (w : World) : (Go.method 443 139 v "Unwrap").run Tryz.prog w = .ok (259, v) w := by kernel_rfl
set_option maxHeartbeats 1000000 in
theorem is_close (c : Nat) (code kind er : Int) (w : World) (hc : w.heap[c]? = some (.cells #[.int .i64 code, .bool false, .int .i64 kind, .int .i64 er] 143 (0, 0))) :
    Calls Tryz.prog 25 #[.iface 139 (.pointer (some ⟨c, 0, none⟩)), .iface 53 (.int .i64 er)] w fun e w' => e = .returned (.bool true) ∧ w' = w := by
  have h70 := c70
  have h272 := c272
  have mR := mComp
  have q1 := eq_cn c er
  have t1 := noIsC
  have t2 := hasUnC
  have m2 := mUnw
  have q2 := eq_nn er
  have q3 := eq_cnil c
  have q4 := eq_nnil er
  have c3 : w.cell? ⟨c, 3, none⟩ = some (.int .i64 er) := by simp [World.cell?, hc]
  clear hc
  go_enter Tryz.func25, Tryz.ntmps25
  go_wp2
  refine wp_loop_rounds 2 ?_
  rw [rounds_succ]
  go_wp2
  rw [rounds_succ]
  go_wp2
  go_ret
  exact ⟨rfl, rfl⟩
/-- What errors.As leaves behind: c holds the Close, what was there lies as it did. -/
theorem as_close' (p C : Nat) (w0 w : World) (hb : Below w0.heap.size w0 w) (hC : w0.heap.size ≤ C) (hq : Rt 139 #[.pointer none] w C) (hE : w.cell? ⟨0, 0, none⟩ = some (rtp 70)) :
    Calls Tryz.prog 69 #[.iface 139 (.pointer (some ⟨p, 0, none⟩)), .iface 141 (.pointer (some ⟨C, 0, none⟩))] w fun e w' => e = .returned (.bool true) ∧ Rt 139 #[.pointer (some ⟨p, 0, none⟩)] w' C ∧ Below w0.heap.size w0 w' := by
  refine (as_close ⟨p, 0, none⟩ ⟨C, 0, none⟩ w (hq.cell 0) (hq.frozen 0) hE).mono ?_
  rintro e w' ⟨rfl, rfl⟩
  have hb2 : ∀ (Z : World), Below w.heap.size w Z → Rt 139 #[.pointer (some ⟨p, 0, none⟩)] (Z.setCell ⟨C, 0, none⟩ (.pointer (some ⟨p, 0, none⟩))) C ∧ Below w0.heap.size w0 (Z.setCell ⟨C, 0, none⟩ (.pointer (some ⟨p, 0, none⟩))) := fun Z hZ => by
    have h1 := rt_bel hq hZ
    exact ⟨h1.set 0 _, bel_setc h1 0 _ (bel_trans hb hZ) hC⟩
  obtain ⟨h1, h2⟩ := hb2 _ (bel_trans (bel_trans (bel_trans (bel1 w (.cells #[.pointer (some ⟨C, 0, none⟩)] 141)) (bel1 _ (.cells #[hdl 141, .pointer (some ⟨w.heap.size, 0, none⟩), .int .u64 150] 206))) (bel1 _ (.cells #[hdl 141, .pointer (some ⟨w.heap.size, 0, none⟩), .int .u64 150] 206))) (bel1 _ (.cells #[.pointer (some ⟨p, 0, none⟩)] 139)))
  exact ⟨rfl, h1, h2⟩
set_option maxHeartbeats 1000000 in
theorem closes_c (c : Nat) (code kind er : Int) (w : World) (hc : w.heap[c]? = some (.cells #[.int .i64 code, .bool false, .int .i64 kind, .int .i64 er] 143 (0, 0))) (hE : w.cell? ⟨0, 0, none⟩ = some (rtp 70)) :
    Calls Tryz.prog 24 #[.iface 139 (.pointer (some ⟨c, 0, none⟩)), .int .i64 code, .int .i64 kind, .int .i64 er] w fun e w' => e = .returned (.bool true) ∧ Below w.heap.size w w' := by
  have HC : Hid _ := hc
  have HQ : Hid (Rt 139 #[.pointer none] (w.alloc (.cells #[.pointer none] 139)) w.heap.size) := heap_alloc_new w _
  have HB : Hid _ := bel1 w (.cells #[.pointer none] 139)
  have HE : Hid ((w.alloc (.cells #[.pointer none] 139)).cell? ⟨0, 0, none⟩ = some (rtp 70)) := cell_bel hE HB.out
  clear hc hE
  go_enter Tryz.func24, Tryz.ntmps24
  go_wp2_with fail
  generalize w.alloc (.cells #[.pointer none] 139) = X at *
  obtain ⟨C, hC⟩ : ∃ C, w.heap.size = C := ⟨_, rfl⟩
  have HLT : Hid (c < C) := by show c < C; rw [← hC]; exact (Array.getElem?_eq_some_iff.1 HC.out).1
  have HA : Hid _ := as_close' c w.heap.size w X HB.out (Nat.le_refl _) HQ.out HE.out
  have HCC : Hid (w.heap.size = C) := hC
  rw [hC] at HA
  rw [hC]
  clear hC
  refine Calls.mono HA.out ?_
  rintro e X1 ⟨rfl, hq, hb⟩
  have HB1 : Hid (Below C w X1) := hb
  have HC1 : Hid (X1.heap[c]? = some (.cells #[.int .i64 code, .bool false, .int .i64 kind, .int .i64 er] 143 (0, 0))) := (hb.block c HLT.out).trans HC.out
  have d0 : X1.cell? ⟨C, 0, none⟩ = some (.pointer (some ⟨c, 0, none⟩)) := hq.cell 0
  have e0 : X1.cell? ⟨c, 0, none⟩ = some (.int .i64 code) := by simp [World.cell?, HC1.out]
  have e1 : X1.cell? ⟨c, 1, none⟩ = some (.bool false) := by simp [World.cell?, HC1.out]
  have e2 : X1.cell? ⟨c, 2, none⟩ = some (.int .i64 kind) := by simp [World.cell?, HC1.out]
  have e3 : X1.cell? ⟨c, 3, none⟩ = some (.int .i64 er) := by simp [World.cell?, HC1.out]
  clear hb hq HA HQ HB HE HC
  go_wp2_with fail
  refine Calls.mono (is_close c code kind er X1 HC1.out) ?_
  rintro e w' ⟨rfl, hw⟩
  subst w'
  go_wp2
  go_ret
  exact ⟨rfl, by rw [HCC.out]; exact HB1.out⟩
end Go.Proofs.YtijndpjdmiljkaaGreatDoor
