/- errors.As by its contract, for an error that is a *api.Close and a target of that type. -/
import Derived.Test.YtmgknknjlpdciaaDoorAs
import Derived.Below
namespace Go.Proofs.YtmgknknjlpdciaaDoor
open Go.RowKit Go.Extern.Stop Go.Stop Go.Extern
set_option linter.unusedVariables false
theorem hidIt {p : Prop} (h : p) : Hid p := h
theorem ld88 (a q : Addr) (w : World) (h : w.cell? a = some (.pointer (some q))) : (loadVar 88 a).run Tryd.prog w = .ok (.pointer (some q)) w := by
  have hu := Tryd.underlying88
  simp [go_sem, h]
theorem ld58 (a q : Addr) (w : World) (h : w.cell? a = some (.pointer (some q))) : (loadVar 58 a).run Tryd.prog w = .ok (.pointer (some q)) w := by
  have hu := Tryd.underlying58
  simp [go_sem, h]
theorem st58 (a q : Addr) (x : Value) (w : World) (h : w.cell? a = some x) (hz : w.frozen? a = false) : (storeVar 58 a (.pointer (some q))).run Tryd.prog w = .ok () (w.setCell a (.pointer (some q))) := by
  have hu := Tryd.underlying58
  simp [go_sem, h, hz]
theorem c61 (a q : Addr) (w : World) (h : w.cell? a = some (.pointer (some q))) : (callFunc 61 #[.agg #[hdl 88, .pointer (some a), .int .u64 150]]).run Tryd.prog w = .ok (.value (.bool false)) w := by
  rw [@run_callFunc_extern Tryd.prog 61 _ (ReflectliteValue.method (ReflectliteValue.valueError "reflectlite.Value.IsNil" 0) ReflectliteValue.isNil) Tryd.func61 (by kernel_rfl) (by kernel_rfl) (by kernel_rfl) (by kernel_rfl)]
  have e : (ReflectliteValue.method (ReflectliteValue.valueError "reflectlite.Value.IsNil" 0) ReflectliteValue.isNil #[.agg #[hdl 88, .pointer (some a), .int .u64 150]]).run Tryd.prog w = (ReflectliteValue.isNil 88 a 150 22).run Tryd.prog w := by kernel_rfl
  rw [e]
  have hl := ld88 a q w h
  unfold ReflectliteValue.isNil
  simp [hl, Result.andThen]
theorem c70 (a q : Addr) (w : World) (h : w.cell? a = some (.pointer (some q))) : (callFunc 70 #[.agg #[hdl 88, .pointer (some a), .int .u64 150]]).run Tryd.prog w = .ok (.value (.agg #[hdl 58, .pointer (some q), .int .u64 406])) w := by
  rw [@run_callFunc_extern Tryd.prog 70 _ (ReflectliteValue.method (ReflectliteValue.valueError "reflectlite.Value.Elem" 0) ReflectliteValue.elem) Tryd.func70 (by kernel_rfl) (by kernel_rfl) (by kernel_rfl) (by kernel_rfl)]
  have e : (ReflectliteValue.method (ReflectliteValue.valueError "reflectlite.Value.Elem" 0) ReflectliteValue.elem #[.agg #[hdl 88, .pointer (some a), .int .u64 150]]).run Tryd.prog w = (ReflectliteValue.elem 88 a 150 22).run Tryd.prog w := by kernel_rfl
  rw [e]
  have hl := ld88 a q w h
  have he : (Rtype.elem? 88).run Tryd.prog w = .ok (some 58) w := by kernel_rfl
  have hm : (ReflectliteValue.mk 58 q 256).run Tryd.prog w = .ok (.agg #[hdl 58, .pointer (some q), .int .u64 406]) w := by kernel_rfl
  unfold ReflectliteValue.elem
  simp [hl, he, hm, Result.andThen, ReflectliteValue.flagAddr]
set_option maxRecDepth 100000 in
theorem c71 (q b p : Addr) (x : Value) (w : World) (hq : w.cell? q = some x) (hz : w.frozen? q = false) (hb : w.cell? b = some (.pointer (some p))) :
    (callFunc 71 #[.agg #[hdl 58, .pointer (some q), .int .u64 406], .agg #[hdl 58, .pointer (some b), .int .u64 150]]).run Tryd.prog w = .ok (.value (.tuple #[])) (w.setCell q (.pointer (some p))) := by
  rw [@run_callFunc_extern Tryd.prog 71 _ ReflectliteValue.set Tryd.func71 (by kernel_rfl) (by kernel_rfl) (by kernel_rfl) (by kernel_rfl)]
  have hl := ld58 b p w hb
  have hs := st58 q p x w hq hz
  have h1 : (ReflectliteValue.parts (.agg #[hdl 58, .pointer (some q), .int .u64 406])).run Tryd.prog w = .ok (some (58, q, 406)) w := by kernel_rfl
  have h2 : (ReflectliteValue.parts (.agg #[hdl 58, .pointer (some b), .int .u64 150])).run Tryd.prog w = .ok (some (58, b, 150)) w := by kernel_rfl
  have hd : (Rtype.directlyAssignable 58 58).run Tryd.prog w = .ok true w := by kernel_rfl
  have e : (ReflectliteValue.set #[.agg #[hdl 58, .pointer (some q), .int .u64 406], .agg #[hdl 58, .pointer (some b), .int .u64 150]]).run Tryd.prog w = .ok (.tuple #[]) (w.setCell q (.pointer (some p))) := by
    show (ReflectliteValue.parts (.agg #[hdl 58, .pointer (some q), .int .u64 406]) >>= _).run Tryd.prog w = _
    rw [Sem.run_bind, h1]
    show (ReflectliteValue.parts (.agg #[hdl 58, .pointer (some b), .int .u64 150]) >>= _).run Tryd.prog w = _
    rw [Sem.run_bind, h2]
    show (loadVar 58 b >>= _).run Tryd.prog w = _
    rw [Sem.run_bind, hl]
    show (Rtype.directlyAssignable 58 58 >>= _).run Tryd.prog w = _
    rw [Sem.run_bind, hd]
    show (storeVar 58 q (.pointer (some p)) >>= _).run Tryd.prog w = _
    rw [Sem.run_bind, hs]
    rfl
  rw [e]
  rfl
set_option maxRecDepth 100000 in
set_option maxHeartbeats 1000000 in
/-- errors.as(e, ..), e a *api.Close, a target of that type. -/
theorem as_in (p q a : Addr) (w : World) (hq : w.cell? q = some (.pointer none)) (hz : w.frozen? q = false) (ha : w.cell? a = some (.pointer (some q))) :
    Calls Tryd.prog 62 #[.iface 58 (.pointer (some p)), .iface 88 (.pointer (some q)), .agg #[hdl 88, .pointer (some a), .int .u64 150], rtp 58] w fun e w' => e = .returned (.bool true) ∧ w' = ((w.alloc (.cells #[hdl 88, .pointer (some a), .int .u64 150] 120)).alloc (.cells #[.pointer (some p)] 58)).setCell q (.pointer (some p)) := by
  have h57 := c57
  have h59c := c59c
  have mA := mAss
  have h120 := c120
  have hb := World.block_lt_of_cell? w _ ha
  have hb2 := World.block_lt_of_cell? w _ hq
  have hz1 : (w.alloc (.cells #[hdl 88, .pointer (some a), .int .u64 150] 120)).heap.size = w.heap.size + 1 := by simp
  have HA : Hid ((w.alloc (.cells #[hdl 88, .pointer (some a), .int .u64 150] 120)).cell? a = some (.pointer (some q))) := (World.cell?_of_block (w := w) (a := a) (Below.heap_alloc _ _ _ hb)).trans ha
  have e2 : ((w.alloc (.cells #[hdl 88, .pointer (some a), .int .u64 150] 120)).alloc (.cells #[.pointer (some p)] 58)).heap[q.block]? = w.heap[q.block]? := (Below.heap_alloc _ _ _ (by rw [hz1]; omega)).trans (Below.heap_alloc _ _ _ hb2)
  have h70 := c70 a q _ HA.out
  have h71 := c71 q ⟨w.heap.size + 1, 0, none⟩ p (.pointer none) ((w.alloc (.cells #[hdl 88, .pointer (some a), .int .u64 150] 120)).alloc (.cells #[.pointer (some p)] 58)) ((World.cell?_of_block (w := w) (a := q) e2).trans hq) (by unfold World.frozen? at hz ⊢; rw [e2]; exact hz) (by simp [go_sem])
  clear hz1 e2 HA
  go_enter Tryd.func62, Tryd.ntmps62
  go_wp2
  refine wp_loop_rounds 1 ?_
  rw [rounds_succ]
  go_wp2
  go_ret
  exact ⟨rfl, rfl⟩
set_option maxRecDepth 100000 in
set_option maxHeartbeats 1000000 in
/-- errors.As(e, &c), e a *api.Close, c of that type: c is e. -/
theorem as_close (p q : Addr) (w : World) (hq : w.cell? q = some (.pointer none)) (hz : w.frozen? q = false) (hE : w.cell? ⟨1, 0, none⟩ = some (rtp 38)) :
    Calls Tryd.prog 42 #[.iface 58 (.pointer (some p)), .iface 88 (.pointer (some q))] w fun e w' => e = .returned (.bool true) ∧ w' = ((((w.alloc (.cells #[.pointer (some q)] 88)).alloc (.cells #[hdl 88, .pointer (some ⟨w.heap.size, 0, none⟩), .int .u64 150] 120)).alloc (.cells #[hdl 88, .pointer (some ⟨w.heap.size, 0, none⟩), .int .u64 150] 120)).alloc (.cells #[.pointer (some p)] 58)).setCell q (.pointer (some p)) := by
  have h59 := c59
  have h60 := c60
  have mK := mKind
  have mE := mElem
  have mI := mImpl
  have h91 := c91
  have h91c := c91c
  have h122 := c122
  have h123 := c123
  have hb1 : 1 < w.heap.size := World.block_lt_of_cell? w _ hE
  have hb2 := World.block_lt_of_cell? w _ hq
  obtain ⟨X, hX⟩ : ∃ X : Obj, X = .cells #[.pointer (some q)] 88 := ⟨_, rfl⟩
  obtain ⟨Y, hY⟩ : ∃ Y : Obj, Y = .cells #[hdl 88, .pointer (some ⟨w.heap.size, 0, none⟩), .int .u64 150] 120 := ⟨_, rfl⟩
  have hz1 : (w.alloc X).heap.size = w.heap.size + 1 := by simp
  have hk : ∀ k, k < w.heap.size → ((w.alloc X).alloc Y).heap[k]? = w.heap[k]? := fun k h => (Below.heap_alloc _ _ _ (by rw [hz1]; omega)).trans (Below.heap_alloc _ _ _ h)
  have hE' : ((w.alloc X).alloc Y).cell? ⟨1, 0, none⟩ = some (rtp 38) := (World.cell?_of_block (w := w) (a := ⟨1, 0, none⟩) (hk 1 hb1)).trans hE
  have HQ : Hid (((w.alloc X).alloc Y).cell? q = some (.pointer none)) := (World.cell?_of_block (w := w) (a := q) (hk _ hb2)).trans hq
  have HZ : Hid (((w.alloc X).alloc Y).frozen? q = false) := by show _ = _; unfold World.frozen? at hz ⊢; rw [hk _ hb2]; exact hz
  have HA : Hid (((w.alloc X).alloc Y).cell? ⟨w.heap.size, 0, none⟩ = some (.pointer (some q))) := by show _ = _; rw [hX]; simp [go_sem]
  have h61 := c61 ⟨w.heap.size, 0, none⟩ q ((w.alloc X).alloc Y) HA.out
  have HAs := hidIt (as_in p q ⟨w.heap.size, 0, none⟩ _ HQ.out HZ.out HA.out)
  rw [hX, hY] at h61 HAs hE'
  clear hX hY hk hz1
  go_enter Tryd.func42, Tryd.ntmps42
  go_wp2_with (go_at_call 62; refine HAs.out.mono ?_; rintro e w' ⟨rfl, rfl⟩)
  go_ret
  exact ⟨rfl, rfl⟩
end Go.Proofs.YtmgknknjlpdciaaDoor
