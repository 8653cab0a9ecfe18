/- errors.As by its contract, for an error that is a *api.Close and a target of that type. -/
import Derived.Test.YtijndpjdmiljkaaGreatDoorAx
import Derived.Below
namespace Go.Proofs.YtijndpjdmiljkaaGreatDoor
open Go.RowKit Go.Extern.Stop Go.Stop Go.Extern
set_option linter.unusedVariables false
set_option maxRecDepth 100000
theorem hidIt {p : Prop} (h : p) : Hid p := h
theorem ld88 (a q : Addr) (w : World) (h : w.cell? a = some (.pointer (some q))) : (loadVar 141 a).run Tryz.prog w = .ok (.pointer (some q)) w := by
  have hu := Tryz.underlying141
  simp [go_sem, h]
theorem ld58 (a q : Addr) (w : World) (h : w.cell? a = some (.pointer (some q))) : (loadVar 139 a).run Tryz.prog w = .ok (.pointer (some q)) w := by
  have hu := Tryz.underlying139
  simp [go_sem, h]
theorem st58 (a q : Addr) (x : Value) (w : World) (h : w.cell? a = some x) (hz : w.frozen? a = false) : (storeVar 139 a (.pointer (some q))).run Tryz.prog w = .ok () (w.setCell a (.pointer (some q))) := by
  have hu := Tryz.underlying139
  simp [go_sem, h, hz]
theorem axc61 (a q : Addr) (w : World) (h : w.cell? a = some (.pointer (some q))) : (callFunc 137 #[.agg #[hdl 141, .pointer (some a), .int .u64 150]]).run Tryz.prog w = .ok (.value (.bool false)) w := by
  rw [@run_callFunc_extern Tryz.prog 137 _ (ReflectliteValue.method (ReflectliteValue.valueError "reflectlite.Value.IsNil" 0) ReflectliteValue.isNil) Tryz.func137 (by kernel_rfl) (by kernel_rfl) (by kernel_rfl) (by kernel_rfl)]
  have e : (ReflectliteValue.method (ReflectliteValue.valueError "reflectlite.Value.IsNil" 0) ReflectliteValue.isNil #[.agg #[hdl 141, .pointer (some a), .int .u64 150]]).run Tryz.prog w = (ReflectliteValue.isNil 141 a 150 22).run Tryz.prog w := by kernel_rfl
  rw [e]
  have hl := ld88 a q w h
  unfold ReflectliteValue.isNil
  simp [hl, Result.andThen]
theorem axc70 (a q : Addr) (w : World) (h : w.cell? a = some (.pointer (some q))) : (callFunc 183 #[.agg #[hdl 141, .pointer (some a), .int .u64 150]]).run Tryz.prog w = .ok (.value (.agg #[hdl 139, .pointer (some q), .int .u64 406])) w := by
  rw [@run_callFunc_extern Tryz.prog 183 _ (ReflectliteValue.method (ReflectliteValue.valueError "reflectlite.Value.Elem" 0) ReflectliteValue.elem) Tryz.func183 (by kernel_rfl) (by kernel_rfl) (by kernel_rfl) (by kernel_rfl)]
  have e : (ReflectliteValue.method (ReflectliteValue.valueError "reflectlite.Value.Elem" 0) ReflectliteValue.elem #[.agg #[hdl 141, .pointer (some a), .int .u64 150]]).run Tryz.prog w = (ReflectliteValue.elem 141 a 150 22).run Tryz.prog w := by kernel_rfl
  rw [e]
  have hl := ld88 a q w h
  have he : (Rtype.elem? 141).run Tryz.prog w = .ok (some 139) w := by kernel_rfl
  have hm : (ReflectliteValue.mk 139 q 256).run Tryz.prog w = .ok (.agg #[hdl 139, .pointer (some q), .int .u64 406]) w := by kernel_rfl
  unfold ReflectliteValue.elem
  simp [hl, he, hm, Result.andThen, ReflectliteValue.flagAddr]
set_option maxRecDepth 100000 in
theorem axc71 (q b p : Addr) (x : Value) (w : World) (hq : w.cell? q = some x) (hz : w.frozen? q = false) (hb : w.cell? b = some (.pointer (some p))) :
    (callFunc 184 #[.agg #[hdl 139, .pointer (some q), .int .u64 406], .agg #[hdl 139, .pointer (some b), .int .u64 150]]).run Tryz.prog w = .ok (.value (.tuple #[])) (w.setCell q (.pointer (some p))) := by
  rw [@run_callFunc_extern Tryz.prog 184 _ ReflectliteValue.set Tryz.func184 (by kernel_rfl) (by kernel_rfl) (by kernel_rfl) (by kernel_rfl)]
  have hl := ld58 b p w hb
  have hs := st58 q p x w hq hz
  have h1 : (ReflectliteValue.parts (.agg #[hdl 139, .pointer (some q), .int .u64 406])).run Tryz.prog w = .ok (some (139, q, 406)) w := by kernel_rfl
  have h2 : (ReflectliteValue.parts (.agg #[hdl 139, .pointer (some b), .int .u64 150])).run Tryz.prog w = .ok (some (139, b, 150)) w := by kernel_rfl
  have hd : (Rtype.directlyAssignable 139 139).run Tryz.prog w = .ok true w := by kernel_rfl
  have e : (ReflectliteValue.set #[.agg #[hdl 139, .pointer (some q), .int .u64 406], .agg #[hdl 139, .pointer (some b), .int .u64 150]]).run Tryz.prog w = .ok (.tuple #[]) (w.setCell q (.pointer (some p))) := by
    show (ReflectliteValue.parts (.agg #[hdl 139, .pointer (some q), .int .u64 406]) >>= _).run Tryz.prog w = _
    rw [Sem.run_bind, h1]
    show (ReflectliteValue.parts (.agg #[hdl 139, .pointer (some b), .int .u64 150]) >>= _).run Tryz.prog w = _
    rw [Sem.run_bind, h2]
    show (loadVar 139 b >>= _).run Tryz.prog w = _
    rw [Sem.run_bind, hl]
    show (Rtype.directlyAssignable 139 139 >>= _).run Tryz.prog w = _
    rw [Sem.run_bind, hd]
    show (storeVar 139 q (.pointer (some p)) >>= _).run Tryz.prog w = _
    rw [Sem.run_bind, hs]
    rfl
  rw [e]
  rfl
set_option maxRecDepth 100000 in
set_option maxHeartbeats 1000000 in
/-- errors.as(e, ..), e a *api.Close, a target of that type. -/
theorem as_in (p q a : Addr) (w : World) (hq : w.cell? q = some (.pointer none)) (hz : w.frozen? q = false) (ha : w.cell? a = some (.pointer (some q))) :
    Calls Tryz.prog 138 #[.iface 139 (.pointer (some p)), .iface 141 (.pointer (some q)), .agg #[hdl 141, .pointer (some a), .int .u64 150], rtp 139] w fun e w' => e = .returned (.bool true) ∧ w' = ((w.alloc (.cells #[hdl 141, .pointer (some a), .int .u64 150] 206)).alloc (.cells #[.pointer (some p)] 139)).setCell q (.pointer (some p)) := by
  have h57 := axc57
  have h59c := axc59c
  have mA := mAss
  have h120 := axc120
  have hb := World.block_lt_of_cell? w _ ha
  have hb2 := World.block_lt_of_cell? w _ hq
  have hz1 : (w.alloc (.cells #[hdl 141, .pointer (some a), .int .u64 150] 206)).heap.size = w.heap.size + 1 := by simp
  have HA : Hid ((w.alloc (.cells #[hdl 141, .pointer (some a), .int .u64 150] 206)).cell? a = some (.pointer (some q))) := (World.cell?_of_block (w := w) (a := a) (Below.heap_alloc _ _ _ hb)).trans ha
  have e2 : ((w.alloc (.cells #[hdl 141, .pointer (some a), .int .u64 150] 206)).alloc (.cells #[.pointer (some p)] 139)).heap[q.block]? = w.heap[q.block]? := (Below.heap_alloc _ _ _ (by rw [hz1]; omega)).trans (Below.heap_alloc _ _ _ hb2)
  have h70 := axc70 a q _ HA.out
  have h71 := axc71 q ⟨w.heap.size + 1, 0, none⟩ p (.pointer none) ((w.alloc (.cells #[hdl 141, .pointer (some a), .int .u64 150] 206)).alloc (.cells #[.pointer (some p)] 139)) ((World.cell?_of_block (w := w) (a := q) e2).trans hq) (by unfold World.frozen? at hz ⊢; rw [e2]; exact hz) (by simp [go_sem])
  clear hz1 e2 HA
  go_enter Tryz.func138, Tryz.ntmps138
  go_wp2
  refine wp_loop_rounds 1 ?_
  rw [rounds_succ]
  go_wp2
  go_ret
  exact ⟨rfl, rfl⟩
set_option maxRecDepth 100000 in
set_option maxHeartbeats 1000000 in
/-- errors.As(e, &c), e a *api.Close, c of that type: c is e. -/
theorem as_close (p q : Addr) (w : World) (hq : w.cell? q = some (.pointer none)) (hz : w.frozen? q = false) (hE : w.cell? ⟨0, 0, none⟩ = some (rtp 70)) :
    Calls Tryz.prog 69 #[.iface 139 (.pointer (some p)), .iface 141 (.pointer (some q))] w fun e w' => e = .returned (.bool true) ∧ w' = ((((w.alloc (.cells #[.pointer (some q)] 141)).alloc (.cells #[hdl 141, .pointer (some ⟨w.heap.size, 0, none⟩), .int .u64 150] 206)).alloc (.cells #[hdl 141, .pointer (some ⟨w.heap.size, 0, none⟩), .int .u64 150] 206)).alloc (.cells #[.pointer (some p)] 139)).setCell q (.pointer (some p)) := by
  have h59 := axc59
  have h60 := axc60
  have mK := mKind
  have mE := mElem
  have mI := mImpl
  have h91 := axc91
  have h91c := axc91c
  have h122 := axc122
  have h123 := axc123
  have hb1 : 0 < w.heap.size := World.block_lt_of_cell? w _ hE
  have hb2 := World.block_lt_of_cell? w _ hq
  obtain ⟨X, hX⟩ : ∃ X : Obj, X = .cells #[.pointer (some q)] 141 := ⟨_, rfl⟩
  obtain ⟨Y, hY⟩ : ∃ Y : Obj, Y = .cells #[hdl 141, .pointer (some ⟨w.heap.size, 0, none⟩), .int .u64 150] 206 := ⟨_, rfl⟩
  have hz1 : (w.alloc X).heap.size = w.heap.size + 1 := by simp
  have hk : ∀ k, k < w.heap.size → ((w.alloc X).alloc Y).heap[k]? = w.heap[k]? := fun k h => (Below.heap_alloc _ _ _ (by rw [hz1]; omega)).trans (Below.heap_alloc _ _ _ h)
  have hE' : ((w.alloc X).alloc Y).cell? ⟨0, 0, none⟩ = some (rtp 70) := (World.cell?_of_block (w := w) (a := ⟨0, 0, none⟩) (hk 0 hb1)).trans hE
  have HQ : Hid (((w.alloc X).alloc Y).cell? q = some (.pointer none)) := (World.cell?_of_block (w := w) (a := q) (hk _ hb2)).trans hq
  have HZ : Hid (((w.alloc X).alloc Y).frozen? q = false) := by show _ = _; unfold World.frozen? at hz ⊢; rw [hk _ hb2]; exact hz
  have HA : Hid (((w.alloc X).alloc Y).cell? ⟨w.heap.size, 0, none⟩ = some (.pointer (some q))) := by show _ = _; rw [hX]; simp [go_sem]
  have h61 := axc61 ⟨w.heap.size, 0, none⟩ q ((w.alloc X).alloc Y) HA.out
  have HAs := hidIt (as_in p q ⟨w.heap.size, 0, none⟩ _ HQ.out HZ.out HA.out)
  rw [hX, hY] at h61 HAs hE'
  clear hX hY hk hz1
  go_enter Tryz.func69, Tryz.ntmps69
  go_wp2_with (go_at_call 138; refine HAs.out.mono ?_; rintro e w' ⟨rfl, rfl⟩)
  go_ret
  exact ⟨rfl, rfl⟩
end Go.Proofs.YtijndpjdmiljkaaGreatDoor
