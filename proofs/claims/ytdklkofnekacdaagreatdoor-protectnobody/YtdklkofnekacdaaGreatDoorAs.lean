/- errors.As by its contract, for an error that is an api.Errno and a target of *api.Close: false. -/
import Derived.Test.YtdklkofnekacdaaGreatDoorIs
import Derived.Below
namespace Go.Proofs.YtdklkofnekacdaaGreatDoor
open Go.RowKit Go.Extern.Stop Go.Stop Go.Extern
set_option linter.unusedVariables false
theorem hidIt {p : Prop} (h : p) : Hid p := h
theorem c84 (q : Option Addr) (w : World) : (callFunc 84 #[.iface 125 (.pointer q)]).run Tryz.prog w = .ok (.value (.agg #[hdl 125, .pointer (some ⟨w.heap.size, 0, none⟩), .int .u64 150])) (w.alloc (.cells #[.pointer q] 125)) := by
  rw [@run_callFunc_extern Tryz.prog 84 _ (fun args => ReflectliteValue.unpack (args.getD 0 (.tuple #[]))) Tryz.func84 (by kernel_rfl) (by kernel_rfl) (by kernel_rfl) (by kernel_rfl)]
  kernel_rfl
theorem c85 (a : Addr) (w : World) : (callFunc 85 #[.agg #[hdl 125, .pointer (some a), .int .u64 150]]).run Tryz.prog w = .ok (.value (rtp 125)) w := by
  rw [@run_callFunc_extern Tryz.prog 85 _ (ReflectliteValue.methodAny (ReflectliteValue.valueError "reflectlite.Value.Type" 0) fun t _ _ _ => ReflectliteType.toType t) Tryz.func85 (by kernel_rfl) (by kernel_rfl) (by kernel_rfl) (by kernel_rfl)]
  kernel_rfl
theorem mKind (t : Nat) (w : World) : (Go.method 374 199 (.agg #[hdl t]) "Kind").run Tryz.prog w = .ok (158, hdl t) w := by kernel_rfl
theorem mElem (t : Nat) (w : World) : (Go.method 374 199 (.agg #[hdl t]) "Elem").run Tryz.prog w = .ok (170, .agg #[hdl t]) w := by kernel_rfl
theorem mImpl (t : Nat) (w : World) : (Go.method 374 199 (.agg #[hdl t]) "Implements").run Tryz.prog w = .ok (171, .agg #[hdl t]) w := by kernel_rfl
theorem mAss (t : Nat) (w : World) : (Go.method 374 199 (.agg #[hdl t]) "AssignableTo").run Tryz.prog w = .ok (168, .agg #[hdl t]) w := by kernel_rfl
theorem cKind (w : World) : (callFunc 158 #[hdl 125]).run Tryz.prog w = .ok (.value (.int .u8 22)) w := by
  rw [@run_callFunc_extern Tryz.prog 158 _ (ReflectliteType.abiMethod fun t => do pure (.int .u8 (← Rtype.kind t))) Tryz.func158 (by kernel_rfl) (by kernel_rfl) (by kernel_rfl) (by kernel_rfl)]
  kernel_rfl
theorem cKindc (w : World) : (callFunc 158 #[hdl 123]).run Tryz.prog w = .ok (.value (.int .u8 22)) w := by
  rw [@run_callFunc_extern Tryz.prog 158 _ (ReflectliteType.abiMethod fun t => do pure (.int .u8 (← Rtype.kind t))) Tryz.func158 (by kernel_rfl) (by kernel_rfl) (by kernel_rfl) (by kernel_rfl)]
  kernel_rfl
theorem c170 (w : World) : (callFunc 170 #[.agg #[hdl 125]]).run Tryz.prog w = .ok (.value (rtp 123)) w := by
  rw [@run_callFunc_extern Tryz.prog 170 _ (ReflectliteType.method ReflectliteType.elem) Tryz.func170 (by kernel_rfl) (by kernel_rfl) (by kernel_rfl) (by kernel_rfl)]
  kernel_rfl
theorem c171 (w : World) : (callFunc 171 #[.agg #[hdl 123], rtp 57]).run Tryz.prog w = .ok (.value (.bool true)) w := by
  rw [@run_callFunc_extern Tryz.prog 171 _ (ReflectliteType.relation "Implements" ReflectliteType.implements_) Tryz.func171 (by kernel_rfl) (by kernel_rfl) (by kernel_rfl) (by kernel_rfl)]
  kernel_rfl
theorem c168 (w : World) : (callFunc 168 #[.agg #[hdl 39], rtp 123]).run Tryz.prog w = .ok (.value (.bool false)) w := by
  rw [@run_callFunc_extern Tryz.prog 168 _ (ReflectliteType.relation "AssignableTo" ReflectliteType.assignableTo) Tryz.func168 (by kernel_rfl) (by kernel_rfl) (by kernel_rfl) (by kernel_rfl)]
  kernel_rfl
theorem ld125 (a q : Addr) (w : World) (h : w.cell? a = some (.pointer (some q))) : (loadVar 125 a).run Tryz.prog w = .ok (.pointer (some q)) w := by
  have hu := Tryz.underlying125
  simp [go_sem, h]
theorem c86 (a q : Addr) (w : World) (h : w.cell? a = some (.pointer (some q))) : (callFunc 86 #[.agg #[hdl 125, .pointer (some a), .int .u64 150]]).run Tryz.prog w = .ok (.value (.bool false)) w := by
  rw [@run_callFunc_extern Tryz.prog 86 _ (ReflectliteValue.method (ReflectliteValue.valueError "reflectlite.Value.IsNil" 0) ReflectliteValue.isNil) Tryz.func86 (by kernel_rfl) (by kernel_rfl) (by kernel_rfl) (by kernel_rfl)]
  have e : (ReflectliteValue.method (ReflectliteValue.valueError "reflectlite.Value.IsNil" 0) ReflectliteValue.isNil #[.agg #[hdl 125, .pointer (some a), .int .u64 150]]).run Tryz.prog w = (ReflectliteValue.isNil 125 a 150 22).run Tryz.prog w := by kernel_rfl
  rw [e]
  have hl := ld125 a q w h
  unfold ReflectliteValue.isNil
  simp [hl, Result.andThen]
theorem noAs (v : Value) (xT : TypeId) (w : World) : (Instr.typeAssert (.iface 39 v) xT 203 true).run Tryz.prog w = .ok (.tuple #[.nilIface, .bool false]) w := run_typeAssert_lacksB Tryz.underlying203 (by kernel_rfl) (by kernel_rfl) v xT w
theorem noUnw (v : Value) (xT : TypeId) (w : World) : (Instr.typeAssert (.iface 39 v) xT 206 true).run Tryz.prog w = .ok (.tuple #[.nilIface, .bool false]) w := run_typeAssert_lacksB Tryz.underlying206 (by kernel_rfl) (by kernel_rfl) v xT w
theorem noUnws (v : Value) (xT : TypeId) (w : World) : (Instr.typeAssert (.iface 39 v) xT 208 true).run Tryz.prog w = .ok (.tuple #[.nilIface, .bool false]) w := run_typeAssert_lacksB Tryz.underlying208 (by kernel_rfl) (by kernel_rfl) v xT w
set_option maxRecDepth 100000 in
set_option maxHeartbeats 1000000 in
/-- errors.as(e, ..), e an api.Errno, a target of *api.Close. -/
theorem as_in (v t r : Value) (w : World) (A : Array Value) :
    Calls Tryz.prog 87 #[.iface 39 v, t, .agg A, rtp 123] w fun e w' => e = .returned (.bool false) ∧ Below w.heap.size w w' := by
  have h88 := c88
  have mA := mAss
  have h168 := c168
  have n1 := noAs
  have n2 := noUnw
  have n3 := noUnws
  have HB : Hid (Below w.heap.size w (w.alloc (.cells A 165))) := (Below.refl _ w).alloc (Nat.le_refl _) _
  go_enter Tryz.func87, Tryz.ntmps87
  go_wp2
  refine wp_loop_rounds 1 ?_
  rw [rounds_succ]
  go_wp2
  go_ret
  exact ⟨rfl, HB.out⟩
set_option maxRecDepth 100000 in
set_option maxHeartbeats 1000000 in
/-- errors.As(e, &c), e an api.Errno, c a *api.Close: false. -/
theorem as_no (v : Value) (q : Addr) (w : World) (hE : w.cell? ⟨0, 0, none⟩ = some (rtp 57)) :
    Calls Tryz.prog 54 #[.iface 39 v, .iface 125 (.pointer (some q))] w fun e w' => e = .returned (.bool false) ∧ Below w.heap.size w w' := by
  have h84 := c84
  have h85 := c85
  have mK := mKind
  have mE := mElem
  have mI := mImpl
  have h91 := cKind
  have h91c := cKindc
  have h170 := c170
  have h171 := c171
  have hb1 : 0 < w.heap.size := World.block_lt_of_cell? w _ hE
  obtain ⟨X, hX⟩ : ∃ X : Obj, X = .cells #[.pointer (some q)] 125 := ⟨_, rfl⟩
  obtain ⟨Y, hY⟩ : ∃ Y : Obj, Y = .cells #[hdl 125, .pointer (some ⟨w.heap.size, 0, none⟩), .int .u64 150] 165 := ⟨_, rfl⟩
  have hz1 : (w.alloc X).heap.size = w.heap.size + 1 := by simp
  have hk : ∀ k, k < w.heap.size → ((w.alloc X).alloc Y).heap[k]? = w.heap[k]? := fun k h => (Below.heap_alloc _ _ _ (by rw [hz1]; omega)).trans (Below.heap_alloc _ _ _ h)
  have hE' : ((w.alloc X).alloc Y).cell? ⟨0, 0, none⟩ = some (rtp 57) := (World.cell?_of_block (w := w) (a := ⟨0, 0, none⟩) (hk 0 hb1)).trans hE
  have HA : Hid (((w.alloc X).alloc Y).cell? ⟨w.heap.size, 0, none⟩ = some (.pointer (some q))) := by show _ = _; rw [hX]; simp [go_sem]
  have h86 := c86 ⟨w.heap.size, 0, none⟩ q ((w.alloc X).alloc Y) HA.out
  have HBB : Hid (Below w.heap.size w ((w.alloc X).alloc Y)) := ((Below.refl _ w).alloc (Nat.le_refl _) X).alloc (by simp) Y
  have HAs := hidIt (as_in v (.iface 125 (.pointer (some q))) .nilIface ((w.alloc X).alloc Y) #[hdl 125, .pointer (some ⟨w.heap.size, 0, none⟩), .int .u64 150])
  rw [hX, hY] at h86 HAs hE' HBB
  clear hX hY hk hz1
  go_enter Tryz.func54, Tryz.ntmps54
  go_wp2_with (go_at_call 87; refine HAs.out.mono ?_; rintro e w' ⟨rfl, hb⟩)
  go_ret
  exact ⟨rfl, HBB.out.trans (hb.mono HBB.out.size)⟩
end Go.Proofs.YtdklkofnekacdaaGreatDoor
