/- errors.As of a number: against a *api.Close, and against a number. -/
import Derived.Test.YtaeapgkfmofjlaaDoorEa
namespace Go.Proofs.YtaeapgkfmofjlaaDoor
open Go.RowKit Go.Extern.Stop Go.Stop Go.Extern
set_option linter.unusedVariables false
set_option maxRecDepth 100000

theorem c52 (q : Option Addr) (w : World) : (callFunc 52 #[.iface 85 (.pointer q)]).run Tryd.prog w = .ok (.value (.agg #[hdl 85, .pointer (some ⟨w.heap.size, 0, none⟩), .int .u64 150])) (w.alloc (.cells #[.pointer q] 85)) := by
  rw [@run_callFunc_extern Tryd.prog 52 _ (fun args => ReflectliteValue.unpack (args.getD 0 (.tuple #[]))) Tryd.func52 (by kernel_rfl) (by kernel_rfl) (by kernel_rfl) (by kernel_rfl)]
  kernel_rfl
theorem c52e (q : Option Addr) (w : World) : (callFunc 52 #[.iface 112 (.pointer q)]).run Tryd.prog w = .ok (.value (.agg #[hdl 112, .pointer (some ⟨w.heap.size, 0, none⟩), .int .u64 150])) (w.alloc (.cells #[.pointer q] 112)) := by
  rw [@run_callFunc_extern Tryd.prog 52 _ (fun args => ReflectliteValue.unpack (args.getD 0 (.tuple #[]))) Tryd.func52 (by kernel_rfl) (by kernel_rfl) (by kernel_rfl) (by kernel_rfl)]
  kernel_rfl
theorem c52n (n : Int) (w : World) : (callFunc 52 #[.iface 29 (.int .i64 n)]).run Tryd.prog w = .ok (.value (.agg #[hdl 29, .pointer (some ⟨w.heap.size, 0, none⟩), .int .u64 130])) (w.alloc (.cells #[.int .i64 n] 29)) := by
  rw [@run_callFunc_extern Tryd.prog 52 _ (fun args => ReflectliteValue.unpack (args.getD 0 (.tuple #[]))) Tryd.func52 (by kernel_rfl) (by kernel_rfl) (by kernel_rfl) (by kernel_rfl)]
  kernel_rfl
theorem c53 (a : Addr) (w : World) : (callFunc 53 #[.agg #[hdl 85, .pointer (some a), .int .u64 150]]).run Tryd.prog w = .ok (.value (rtp 85)) w := by
  rw [@run_callFunc_extern Tryd.prog 53 _ (ReflectliteValue.methodAny (ReflectliteValue.valueError "reflectlite.Value.Type" 0) fun t _ _ _ => ReflectliteType.toType t) Tryd.func53 (by kernel_rfl) (by kernel_rfl) (by kernel_rfl) (by kernel_rfl)]
  kernel_rfl
theorem c53e (a : Addr) (w : World) : (callFunc 53 #[.agg #[hdl 112, .pointer (some a), .int .u64 150]]).run Tryd.prog w = .ok (.value (rtp 112)) w := by
  rw [@run_callFunc_extern Tryd.prog 53 _ (ReflectliteValue.methodAny (ReflectliteValue.valueError "reflectlite.Value.Type" 0) fun t _ _ _ => ReflectliteType.toType t) Tryd.func53 (by kernel_rfl) (by kernel_rfl) (by kernel_rfl) (by kernel_rfl)]
  kernel_rfl
theorem mKind (t : Nat) (w : World) : (Go.method 292 135 (.agg #[hdl t]) "Kind").run Tryd.prog w = .ok (84, hdl t) w := by kernel_rfl
theorem mElem (t : Nat) (w : World) : (Go.method 292 135 (.agg #[hdl t]) "Elem").run Tryd.prog w = .ok (115, .agg #[hdl t]) w := by kernel_rfl
theorem mImpl (t : Nat) (w : World) : (Go.method 292 135 (.agg #[hdl t]) "Implements").run Tryd.prog w = .ok (116, .agg #[hdl t]) w := by kernel_rfl
theorem mAss (t : Nat) (w : World) : (Go.method 292 135 (.agg #[hdl t]) "AssignableTo").run Tryd.prog w = .ok (113, .agg #[hdl t]) w := by kernel_rfl
theorem c84 (w : World) : (callFunc 84 #[hdl 85]).run Tryd.prog w = .ok (.value (.int .u8 22)) w := by
  rw [@run_callFunc_extern Tryd.prog 84 _ (ReflectliteType.abiMethod fun t => do pure (.int .u8 (← Rtype.kind t))) Tryd.func84 (by kernel_rfl) (by kernel_rfl) (by kernel_rfl) (by kernel_rfl)]
  kernel_rfl
theorem c84e (w : World) : (callFunc 84 #[hdl 112]).run Tryd.prog w = .ok (.value (.int .u8 22)) w := by
  rw [@run_callFunc_extern Tryd.prog 84 _ (ReflectliteType.abiMethod fun t => do pure (.int .u8 (← Rtype.kind t))) Tryd.func84 (by kernel_rfl) (by kernel_rfl) (by kernel_rfl) (by kernel_rfl)]
  kernel_rfl
theorem c84c (w : World) : (callFunc 84 #[hdl 83]).run Tryd.prog w = .ok (.value (.int .u8 22)) w := by
  rw [@run_callFunc_extern Tryd.prog 84 _ (ReflectliteType.abiMethod fun t => do pure (.int .u8 (← Rtype.kind t))) Tryd.func84 (by kernel_rfl) (by kernel_rfl) (by kernel_rfl) (by kernel_rfl)]
  kernel_rfl
theorem c84n (w : World) : (callFunc 84 #[hdl 29]).run Tryd.prog w = .ok (.value (.int .u8 2)) w := by
  rw [@run_callFunc_extern Tryd.prog 84 _ (ReflectliteType.abiMethod fun t => do pure (.int .u8 (← Rtype.kind t))) Tryd.func84 (by kernel_rfl) (by kernel_rfl) (by kernel_rfl) (by kernel_rfl)]
  kernel_rfl
theorem c115 (w : World) : (callFunc 115 #[.agg #[hdl 85]]).run Tryd.prog w = .ok (.value (rtp 83)) w := by
  rw [@run_callFunc_extern Tryd.prog 115 _ (ReflectliteType.method ReflectliteType.elem) Tryd.func115 (by kernel_rfl) (by kernel_rfl) (by kernel_rfl) (by kernel_rfl)]
  kernel_rfl
theorem c115e (w : World) : (callFunc 115 #[.agg #[hdl 112]]).run Tryd.prog w = .ok (.value (rtp 29)) w := by
  rw [@run_callFunc_extern Tryd.prog 115 _ (ReflectliteType.method ReflectliteType.elem) Tryd.func115 (by kernel_rfl) (by kernel_rfl) (by kernel_rfl) (by kernel_rfl)]
  kernel_rfl
theorem c116 (w : World) : (callFunc 116 #[.agg #[hdl 83], rtp 38]).run Tryd.prog w = .ok (.value (.bool true)) w := by
  rw [@run_callFunc_extern Tryd.prog 116 _ (ReflectliteType.relation "Implements" ReflectliteType.implements_) Tryd.func116 (by kernel_rfl) (by kernel_rfl) (by kernel_rfl) (by kernel_rfl)]
  kernel_rfl
theorem c116n (w : World) : (callFunc 116 #[.agg #[hdl 29], rtp 38]).run Tryd.prog w = .ok (.value (.bool true)) w := by
  rw [@run_callFunc_extern Tryd.prog 116 _ (ReflectliteType.relation "Implements" ReflectliteType.implements_) Tryd.func116 (by kernel_rfl) (by kernel_rfl) (by kernel_rfl) (by kernel_rfl)]
  kernel_rfl
theorem c113 (w : World) : (callFunc 113 #[.agg #[hdl 29], rtp 83]).run Tryd.prog w = .ok (.value (.bool false)) w := by
  rw [@run_callFunc_extern Tryd.prog 113 _ (ReflectliteType.relation "AssignableTo" ReflectliteType.assignableTo) Tryd.func113 (by kernel_rfl) (by kernel_rfl) (by kernel_rfl) (by kernel_rfl)]
  kernel_rfl
theorem c113n (w : World) : (callFunc 113 #[.agg #[hdl 29], rtp 29]).run Tryd.prog w = .ok (.value (.bool true)) w := by
  rw [@run_callFunc_extern Tryd.prog 113 _ (ReflectliteType.relation "AssignableTo" ReflectliteType.assignableTo) Tryd.func113 (by kernel_rfl) (by kernel_rfl) (by kernel_rfl) (by kernel_rfl)]
  kernel_rfl
theorem ld85 (a q : Addr) (w : World) (h : w.cell? a = some (.pointer (some q))) : (loadVar 85 a).run Tryd.prog w = .ok (.pointer (some q)) w := by
  have hu := Tryd.underlying85
  simp [go_sem, h]
theorem ld112 (a q : Addr) (w : World) (h : w.cell? a = some (.pointer (some q))) : (loadVar 112 a).run Tryd.prog w = .ok (.pointer (some q)) w := by
  have hu := Tryd.underlying112
  simp [go_sem, h]
theorem ld29 (a : Addr) (n : Int) (w : World) (h : w.cell? a = some (.int .i64 n)) : (loadVar 29 a).run Tryd.prog w = .ok (.int .i64 n) w := by
  have hu := Tryd.underlying29
  simp [go_sem, h]
theorem st29 (a : Addr) (n : Int) (x : Value) (w : World) (h : w.cell? a = some x) (hz : w.frozen? a = false) : (storeVar 29 a (.int .i64 n)).run Tryd.prog w = .ok () (w.setCell a (.int .i64 n)) := by
  have hu := Tryd.underlying29
  simp [go_sem, h, hz]
theorem c54 (a q : Addr) (w : World) (h : w.cell? a = some (.pointer (some q))) : (callFunc 54 #[.agg #[hdl 85, .pointer (some a), .int .u64 150]]).run Tryd.prog w = .ok (.value (.bool false)) w := by
  rw [@run_callFunc_extern Tryd.prog 54 _ (ReflectliteValue.method (ReflectliteValue.valueError "reflectlite.Value.IsNil" 0) ReflectliteValue.isNil) Tryd.func54 (by kernel_rfl) (by kernel_rfl) (by kernel_rfl) (by kernel_rfl)]
  have e : (ReflectliteValue.method (ReflectliteValue.valueError "reflectlite.Value.IsNil" 0) ReflectliteValue.isNil #[.agg #[hdl 85, .pointer (some a), .int .u64 150]]).run Tryd.prog w = (ReflectliteValue.isNil 85 a 150 22).run Tryd.prog w := by kernel_rfl
  rw [e]
  have hl := ld85 a q w h
  unfold ReflectliteValue.isNil
  simp [hl, Result.andThen]
theorem c54e (a q : Addr) (w : World) (h : w.cell? a = some (.pointer (some q))) : (callFunc 54 #[.agg #[hdl 112, .pointer (some a), .int .u64 150]]).run Tryd.prog w = .ok (.value (.bool false)) w := by
  rw [@run_callFunc_extern Tryd.prog 54 _ (ReflectliteValue.method (ReflectliteValue.valueError "reflectlite.Value.IsNil" 0) ReflectliteValue.isNil) Tryd.func54 (by kernel_rfl) (by kernel_rfl) (by kernel_rfl) (by kernel_rfl)]
  have e : (ReflectliteValue.method (ReflectliteValue.valueError "reflectlite.Value.IsNil" 0) ReflectliteValue.isNil #[.agg #[hdl 112, .pointer (some a), .int .u64 150]]).run Tryd.prog w = (ReflectliteValue.isNil 112 a 150 22).run Tryd.prog w := by kernel_rfl
  rw [e]
  have hl := ld112 a q w h
  unfold ReflectliteValue.isNil
  simp [hl, Result.andThen]
theorem c63 (a q : Addr) (w : World) (h : w.cell? a = some (.pointer (some q))) : (callFunc 63 #[.agg #[hdl 112, .pointer (some a), .int .u64 150]]).run Tryd.prog w = .ok (.value (.agg #[hdl 29, .pointer (some q), .int .u64 386])) w := by
  rw [@run_callFunc_extern Tryd.prog 63 _ (ReflectliteValue.method (ReflectliteValue.valueError "reflectlite.Value.Elem" 0) ReflectliteValue.elem) Tryd.func63 (by kernel_rfl) (by kernel_rfl) (by kernel_rfl) (by kernel_rfl)]
  have e : (ReflectliteValue.method (ReflectliteValue.valueError "reflectlite.Value.Elem" 0) ReflectliteValue.elem #[.agg #[hdl 112, .pointer (some a), .int .u64 150]]).run Tryd.prog w = (ReflectliteValue.elem 112 a 150 22).run Tryd.prog w := by kernel_rfl
  rw [e]
  have hl := ld112 a q w h
  have he : (Rtype.elem? 112).run Tryd.prog w = .ok (some 29) w := by kernel_rfl
  have hm : (ReflectliteValue.mk 29 q 256).run Tryd.prog w = .ok (.agg #[hdl 29, .pointer (some q), .int .u64 386]) w := by kernel_rfl
  unfold ReflectliteValue.elem
  simp [hl, he, hm, Result.andThen, ReflectliteValue.flagAddr]
theorem c64 (q b : Addr) (n : Int) (x : Value) (w : World) (hq : w.cell? q = some x) (hz : w.frozen? q = false) (hb : w.cell? b = some (.int .i64 n)) :
    (callFunc 64 #[.agg #[hdl 29, .pointer (some q), .int .u64 386], .agg #[hdl 29, .pointer (some b), .int .u64 130]]).run Tryd.prog w = .ok (.value (.tuple #[])) (w.setCell q (.int .i64 n)) := by
  rw [@run_callFunc_extern Tryd.prog 64 _ ReflectliteValue.set Tryd.func64 (by kernel_rfl) (by kernel_rfl) (by kernel_rfl) (by kernel_rfl)]
  have hl := ld29 b n w hb
  have hs := st29 q n x w hq hz
  have h1 : (ReflectliteValue.parts (.agg #[hdl 29, .pointer (some q), .int .u64 386])).run Tryd.prog w = .ok (some (29, q, 386)) w := by kernel_rfl
  have h2 : (ReflectliteValue.parts (.agg #[hdl 29, .pointer (some b), .int .u64 130])).run Tryd.prog w = .ok (some (29, b, 130)) w := by kernel_rfl
  have hd : (Rtype.directlyAssignable 29 29).run Tryd.prog w = .ok true w := by kernel_rfl
  have e : (ReflectliteValue.set #[.agg #[hdl 29, .pointer (some q), .int .u64 386], .agg #[hdl 29, .pointer (some b), .int .u64 130]]).run Tryd.prog w = .ok (.tuple #[]) (w.setCell q (.int .i64 n)) := by
    show (ReflectliteValue.parts (.agg #[hdl 29, .pointer (some q), .int .u64 386]) >>= _).run Tryd.prog w = _
    rw [Sem.run_bind, h1]
    show (ReflectliteValue.parts (.agg #[hdl 29, .pointer (some b), .int .u64 130]) >>= _).run Tryd.prog w = _
    rw [Sem.run_bind, h2]
    show (loadVar 29 b >>= _).run Tryd.prog w = _
    rw [Sem.run_bind, hl]
    show (Rtype.directlyAssignable 29 29 >>= _).run Tryd.prog w = _
    rw [Sem.run_bind, hd]
    show (storeVar 29 q (.int .i64 n) >>= _).run Tryd.prog w = _
    rw [Sem.run_bind, hs]
    rfl
  rw [e]
  rfl
set_option maxHeartbeats 1000000 in
/-- errors.as(e, ..), e an api.Errno, a target of *api.Close. -/
theorem as_inN (v t : Value) (w : World) (A : Array Value) :
    Calls Tryd.prog 55 #[.iface 29 v, t, .agg A, rtp 83] w fun e w' => e = .returned (.bool false) ∧ Below w.heap.size w w' := by
  have h50 := c50
  have mA := mAss
  have h113 := c113
  have n1 := noAsN
  have n2 := noUnN
  have n3 := noUnsN
  have HB : Hid (Below w.heap.size w (w.alloc (.cells A 120))) := (Below.refl _ w).alloc (Nat.le_refl _) _
  go_enter Tryd.func55, Tryd.ntmps55
  go_wp2
  refine wp_loop_rounds 1 ?_
  rw [rounds_succ]
  go_wp2
  go_ret
  exact ⟨rfl, HB.out⟩
set_option maxHeartbeats 1000000 in
/-- errors.As(e, &c), e an api.Errno, c a *api.Close: false. -/
theorem as_no (v : Value) (q : Addr) (w : World) (hE : w.cell? ⟨1, 0, none⟩ = some (rtp 38)) :
    Calls Tryd.prog 37 #[.iface 29 v, .iface 85 (.pointer (some q))] w fun e w' => e = .returned (.bool false) ∧ Below w.heap.size w w' := by
  have h52 := c52
  have h53 := c53
  have mK := mKind
  have mE := mElem
  have mI := mImpl
  have h84 := c84
  have h84c := c84c
  have h115 := c115
  have h116 := c116
  have hb1 : 1 < w.heap.size := World.block_lt_of_cell? w _ hE
  obtain ⟨X, hX⟩ : ∃ X : Obj, X = .cells #[.pointer (some q)] 85 := ⟨_, rfl⟩
  obtain ⟨Y, hY⟩ : ∃ Y : Obj, Y = .cells #[hdl 85, .pointer (some ⟨w.heap.size, 0, none⟩), .int .u64 150] 120 := ⟨_, rfl⟩
  have hz1 : (w.alloc X).heap.size = w.heap.size + 1 := by simp
  have hk : ∀ k, k < w.heap.size → ((w.alloc X).alloc Y).heap[k]? = w.heap[k]? := fun k h => (Below.heap_alloc _ _ _ (by rw [hz1]; omega)).trans (Below.heap_alloc _ _ _ h)
  have hE' : ((w.alloc X).alloc Y).cell? ⟨1, 0, none⟩ = some (rtp 38) := (World.cell?_of_block (w := w) (a := ⟨1, 0, none⟩) (hk 1 hb1)).trans hE
  have HA : Hid (((w.alloc X).alloc Y).cell? ⟨w.heap.size, 0, none⟩ = some (.pointer (some q))) := by show _ = _; rw [hX]; simp [go_sem]
  have h54 := c54 ⟨w.heap.size, 0, none⟩ q ((w.alloc X).alloc Y) HA.out
  have HBB : Hid (Below w.heap.size w ((w.alloc X).alloc Y)) := ((Below.refl _ w).alloc (Nat.le_refl _) X).alloc (by simp) Y
  have HAs := hidIt (as_inN v (.iface 85 (.pointer (some q))) ((w.alloc X).alloc Y) #[hdl 85, .pointer (some ⟨w.heap.size, 0, none⟩), .int .u64 150])
  rw [hX, hY] at h54 HAs hE' HBB
  clear hX hY hk hz1
  go_enter Tryd.func37, Tryd.ntmps37
  go_wp2_with (go_at_call 55; refine HAs.out.mono ?_; rintro e w' ⟨rfl, hb⟩)
  go_ret
  exact ⟨rfl, HBB.out.trans (hb.mono HBB.out.size)⟩
set_option maxHeartbeats 1000000 in
/-- errors.as(e, ..), e an api.Errno, a target of that type. -/
theorem as_inE (n : Int) (x : Value) (q a : Addr) (w : World) (hq : w.cell? q = some x) (hz : w.frozen? q = false) (ha : w.cell? a = some (.pointer (some q))) :
    Calls Tryd.prog 55 #[.iface 29 (.int .i64 n), .iface 112 (.pointer (some q)), .agg #[hdl 112, .pointer (some a), .int .u64 150], rtp 29] w fun e w' => e = .returned (.bool true) ∧ w' = ((w.alloc (.cells #[hdl 112, .pointer (some a), .int .u64 150] 120)).alloc (.cells #[.int .i64 n] 29)).setCell q (.int .i64 n) := by
  have h50 := c50
  have h52n := c52n
  have mA := mAss
  have h113 := c113n
  have hb := World.block_lt_of_cell? w _ ha
  have hb2 := World.block_lt_of_cell? w _ hq
  have hz1 : (w.alloc (.cells #[hdl 112, .pointer (some a), .int .u64 150] 120)).heap.size = w.heap.size + 1 := by simp
  have HA : Hid ((w.alloc (.cells #[hdl 112, .pointer (some a), .int .u64 150] 120)).cell? a = some (.pointer (some q))) := (World.cell?_of_block (w := w) (a := a) (Below.heap_alloc _ _ _ hb)).trans ha
  have e2 : ((w.alloc (.cells #[hdl 112, .pointer (some a), .int .u64 150] 120)).alloc (.cells #[.int .i64 n] 29)).heap[q.block]? = w.heap[q.block]? := (Below.heap_alloc _ _ _ (by rw [hz1]; omega)).trans (Below.heap_alloc _ _ _ hb2)
  have h63 := c63 a q _ HA.out
  have h64 := c64 q ⟨w.heap.size + 1, 0, none⟩ n x ((w.alloc (.cells #[hdl 112, .pointer (some a), .int .u64 150] 120)).alloc (.cells #[.int .i64 n] 29)) ((World.cell?_of_block (w := w) (a := q) e2).trans hq) (by unfold World.frozen? at hz ⊢; rw [e2]; exact hz) (by simp [go_sem])
  clear hz1 e2 HA
  go_enter Tryd.func55, Tryd.ntmps55
  go_wp2
  refine wp_loop_rounds 1 ?_
  rw [rounds_succ]
  go_wp2
  go_ret
  exact ⟨rfl, rfl⟩
set_option maxHeartbeats 1000000 in
/-- errors.As(e, &n), both an api.Errno: n is e. -/
theorem as_num (n : Int) (x : Value) (q : Addr) (w : World) (hq : w.cell? q = some x) (hz : w.frozen? q = false) (hE : w.cell? ⟨1, 0, none⟩ = some (rtp 38)) :
    Calls Tryd.prog 37 #[.iface 29 (.int .i64 n), .iface 112 (.pointer (some q))] w fun e w' => e = .returned (.bool true) ∧ w' = ((((w.alloc (.cells #[.pointer (some q)] 112)).alloc (.cells #[hdl 112, .pointer (some ⟨w.heap.size, 0, none⟩), .int .u64 150] 120)).alloc (.cells #[hdl 112, .pointer (some ⟨w.heap.size, 0, none⟩), .int .u64 150] 120)).alloc (.cells #[.int .i64 n] 29)).setCell q (.int .i64 n) := by
  have h52 := c52e
  have h53 := c53e
  have mK := mKind
  have mE := mElem
  have mI := mImpl
  have h84 := c84e
  have h84c := c84n
  have h115 := c115e
  have h116 := c116n
  have hb1 : 1 < w.heap.size := World.block_lt_of_cell? w _ hE
  have hb2 := World.block_lt_of_cell? w _ hq
  obtain ⟨X, hX⟩ : ∃ X : Obj, X = .cells #[.pointer (some q)] 112 := ⟨_, rfl⟩
  obtain ⟨Y, hY⟩ : ∃ Y : Obj, Y = .cells #[hdl 112, .pointer (some ⟨w.heap.size, 0, none⟩), .int .u64 150] 120 := ⟨_, rfl⟩
  have hz1 : (w.alloc X).heap.size = w.heap.size + 1 := by simp
  have hk : ∀ k, k < w.heap.size → ((w.alloc X).alloc Y).heap[k]? = w.heap[k]? := fun k h => (Below.heap_alloc _ _ _ (by rw [hz1]; omega)).trans (Below.heap_alloc _ _ _ h)
  have hE' : ((w.alloc X).alloc Y).cell? ⟨1, 0, none⟩ = some (rtp 38) := (World.cell?_of_block (w := w) (a := ⟨1, 0, none⟩) (hk 1 hb1)).trans hE
  have HQ : Hid (((w.alloc X).alloc Y).cell? q = some x) := (World.cell?_of_block (w := w) (a := q) (hk _ hb2)).trans hq
  have HZ : Hid (((w.alloc X).alloc Y).frozen? q = false) := by show _ = _; unfold World.frozen? at hz ⊢; rw [hk _ hb2]; exact hz
  have HA : Hid (((w.alloc X).alloc Y).cell? ⟨w.heap.size, 0, none⟩ = some (.pointer (some q))) := by show _ = _; rw [hX]; simp [go_sem]
  have h54 := c54e ⟨w.heap.size, 0, none⟩ q ((w.alloc X).alloc Y) HA.out
  have HAs := hidIt (as_inE n x q ⟨w.heap.size, 0, none⟩ _ HQ.out HZ.out HA.out)
  rw [hX, hY] at h54 HAs hE'
  clear hX hY hk hz1
  go_enter Tryd.func37, Tryd.ntmps37
  go_wp2_with (go_at_call 55; refine HAs.out.mono ?_; rintro e w' ⟨rfl, rfl⟩)
  go_ret
  exact ⟨rfl, rfl⟩
end Go.Proofs.YtaeapgkfmofjlaaDoor
