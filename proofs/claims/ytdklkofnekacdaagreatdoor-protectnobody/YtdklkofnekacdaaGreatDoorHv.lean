/- Handles as values: sixteen bytes; loads, stores, == of them. -/
import Derived.Test.YtdklkofnekacdaaGreatDoorMx
import Derived.WalkKit
import Derived.ProofKit
import Derived.OpenShut
import Derived.Deep.LoopGhost
import Derived.Laws.StructEq
import Derived.Laws.Rows
import Derived.Laws.Tables
import Derived.Laws.ResultCell
import Derived.Deep.MidRow
namespace Go.Proofs.YtdklkofnekacdaaGreatDoor
open Go.RowKit
set_option linter.unusedVariables false

/-- Bytes as cells. -/
def hl (h : List UInt8) : List Value := h.map fun b => .int .u8 (b.toNat : Int)
/-- A handle. -/
abbrev hv (h : List UInt8) : Value := .agg (hl h).toArray
@[simp] theorem hl_len (h : List UInt8) : (hl h).length = h.length := by simp [hl]
theorem hl_one (h : List UInt8) : (hl h).toArray.all (·.oneCell') = true := by
  rw [List.all_toArray, List.all_eq_true]
  intro v hv
  obtain ⟨b, _, rfl⟩ := List.mem_map.1 hv
  rfl
theorem hu28 : Tryz.prog.underlying 36 = some (.array 16 5) := by kernel_rfl
theorem hu27 : Tryz.prog.underlying 24 = some (.array 16 5) := by kernel_rfl
theorem hi28 : (Tryz.prog.info? 36).map (·.size) = some 16 := by kernel_rfl
theorem hi27 : (Tryz.prog.info? 24).map (·.size) = some 16 := by kernel_rfl

theorem eq_loop {P : Program} {w : World} (f : Nat → Bool) (body : Nat → Option Bool × Unit → Sem (ForInStep (Option Bool × Unit))) (N : Nat)
    (hb : ∀ i s, i < N → (body i s).run P w = .ok (if f i then .yield (none, ()) else .done (some false, ())) w) :
    ∀ L : List Nat, (∀ i ∈ L, i < N) → (forIn L (none, ()) body).run P w = .ok (if L.all f then (none, ()) else (some false, ())) w := by
  intro L
  induction L with
  | nil => intro _; simp [go_sem]
  | cons i t ih =>
    intro h
    rw [List.forIn_cons, Sem.run_bind, hb i _ (h i (by simp))]
    by_cases e : f i = true
    · simp only [e, if_true, Result.andThen_ok, List.all_cons, Bool.true_and]
      exact ih fun j hj => h j (by simp [hj])
    · simp only [e, Bool.false_eq_true, if_false, Result.andThen_ok, List.all_cons, Bool.false_and]
      rfl
theorem hl_get {X : List UInt8} {i : Nat} (h : i < X.length) : (hl X)[i]? = some (.int .u8 (X[i].toNat : Int)) := by
  simp [hl, h]
theorem all16 {X Y : List UInt8} (hX : X.length = 16) (hY : Y.length = 16) : (List.range' 0 16).all (fun i => X[i]? == Y[i]?) = (X == Y) := by
  rw [Bool.eq_iff_iff, List.all_eq_true, beq_iff_eq]
  constructor
  · intro h
    apply List.ext_getElem?
    intro i
    by_cases hi : i < 16
    · simpa using h i (by simp [List.mem_range']; omega)
    · rw [List.getElem?_eq_none (by omega), List.getElem?_eq_none (by omega)]
  · rintro rfl i _
    simp
theorem equalIn_h (t : TypeId) (ht : Tryz.prog.underlying t = some (.array 16 5)) (d : Nat) (X Y : List UInt8) (hX : X.length = 16) (hY : Y.length = 16) (w : World) : (Op.equalIn (d + 2) t (hv X) (hv Y)).run Tryz.prog w = .ok (X == Y) w := by
  unfold Op.equalIn hv
  simp only [Sem.run_bind, run_underlying ht, Result.andThen_ok]
  go_simp
  rw [eq_loop (fun i => X[i]? == Y[i]?) _ 16 ?hb (List.range' 0 16) (by simp [List.mem_range'])]
  · rw [all16 hX hY]
    by_cases e : (X == Y) = true <;> simp [e, go_sem]
  · intro i s hi
    have a5 := Tryz.isAgg5
    rw [hl_get (by omega), hl_get (by omega)]
    simp only [Sem.run_bind, a5, Result.andThen_ok, Bool.false_eq_true, if_false, go_sem]
    rw [List.getElem?_eq_getElem (by omega), List.getElem?_eq_getElem (by omega)]
    by_cases e : X[i] = Y[i]
    · simp [e, go_sem]
    · have : ¬ ((X[i].toNat : Int) = (Y[i].toNat : Int)) := fun h => e (by rw [← UInt8.toNat_inj]; omega)
      simp [e, this, go_sem]
theorem eql28 (X Y : List UInt8) (hX : X.length = 16) (hY : Y.length = 16) (w : World) : (binOp .eql 36 (hv X) (hv Y)).run Tryz.prog w = .ok (.bool (X == Y)) w := by
  have := equalIn_h 36 hu28 9998 X Y hX hY w
  unfold hv at *
  rw [run_eql_struct, show (10000 : Nat) = 9998 + 2 from rfl, this]
  rfl
theorem neq28 (X Y : List UInt8) (hX : X.length = 16) (hY : Y.length = 16) (w : World) : (binOp .neq 36 (hv X) (hv Y)).run Tryz.prog w = .ok (.bool (!(X == Y))) w := by
  have := equalIn_h 36 hu28 9998 X Y hX hY w
  unfold hv at *
  rw [run_neq_struct, show (10000 : Nat) = 9998 + 2 from rfl, this]
  rfl

section
variable {ops : Array Oper} {rest : List Oper} {o : Oper} {a : Act} {w : World} {Q : Exit → Act → World → Prop}
theorem ld28 (hgd : o.guard = none) (x : Operand) (ho : o.op = .load 36 x) (g : Nat) (hx : a.eval x = .pointer (some ⟨g, 0, none⟩)) (H : List UInt8) (hg : w.heap[g]? = some (.cells (hl H).toArray 36 (0, 0))) (hs : H.length = 16)
    (h : wpList Tryz.prog ops Q rest (a.put o.dst (hv H)) w) : wpList Tryz.prog ops Q (o :: rest) a w :=
  wpList_load_row hgd 36 x ho g hx 36 _ (0, 0) _ hg hu28 rfl (hi28.trans (by simp [hs])) h
theorem ld28g (hw : Region.wanted o (yielded ops a.tmps) = true) (x : Operand) (ho : o.op = .load 36 x) (g : Nat) (hx : a.eval x = .pointer (some ⟨g, 0, none⟩)) (H : List UInt8) (hg : w.heap[g]? = some (.cells (hl H).toArray 36 (0, 0))) (hs : H.length = 16)
    (h : wpList Tryz.prog ops Q rest (a.put o.dst (hv H)) w) : wpList Tryz.prog ops Q (o :: rest) a w :=
  wpList_step fun K hK => by
    simp only [hw, if_true]
    exact wp_load_row 36 x ho g hx 36 _ (0, 0) _ hg hu28 rfl (hi28.trans (by simp [hs])) (hK _ _ h)
theorem st28 (hgd : o.guard = none) (x y : Operand) (ho : o.op = .store 36 x y) (g : Nat) (H : List UInt8) (hx : a.eval x = .pointer (some ⟨g, 0, none⟩)) (hy : a.eval y = hv H) (G : List UInt8)
    (hg : w.heap[g]? = some (.cells (hl G).toArray 36 (0, 0))) (hs : H.length = 16) (hG : G.length = 16)
    (h : wpList Tryz.prog ops Q rest (a.put o.dst undef) (w.setRow g (hl H).toArray)) : wpList Tryz.prog ops Q (o :: rest) a w :=
  wpList_store_row hgd 36 x y ho g _ hx hy 36 _ hg (hi28.trans (by simp [hs])) (by simp [hs, hG]) (hl_one H) h
end
theorem res_h {fn : Func} {p u : Tmp} (h : fn.results = #[.cell p 36, .tmp u]) (tmps : Array Value) (w : World) (g : Nat) (H : List UInt8) (hp : tmps.getD p undef = .pointer (some ⟨g, 0, none⟩))
    (hg : w.heap[g]? = some (.cells (hl H).toArray 36 (0, 0))) (hs : H.length = 16) : (results fn tmps).run Tryz.prog w = .ok (.tuple #[hv H, tmps.getD u undef]) w := by
  rw [results_cell_tmp h, hp]
  simp only [asAddr, Sem.run_pure, Result.andThen_ok, run_loadVar_row w g 36 36 _ (0, 0) _ hg hu28 rfl (hi28.trans (by simp [hs]))]
theorem res_1 {fn : Func} {p : Tmp} (h : fn.results = #[.cell p 36]) (tmps : Array Value) (w : World) (g : Nat) (H : List UInt8) (hp : tmps.getD p undef = .pointer (some ⟨g, 0, none⟩))
    (hg : w.heap[g]? = some (.cells (hl H).toArray 36 (0, 0))) (hs : H.length = 16) : (results fn tmps).run Tryz.prog w = .ok (hv H) w :=
  results_cell_row h tmps w g 36 _ (0, 0) _ hp hg hu28 rfl (hi28.trans (by simp [hs]))
/-- The zero handle. -/
def z16 : List UInt8 := List.replicate 16 0
theorem z16_len : z16.length = 16 := rfl
theorem hv_z : Value.agg #[.int .u8 0, .int .u8 0, .int .u8 0, .int .u8 0, .int .u8 0, .int .u8 0, .int .u8 0, .int .u8 0, .int .u8 0, .int .u8 0, .int .u8 0, .int .u8 0, .int .u8 0, .int .u8 0, .int .u8 0, .int .u8 0] = hv z16 := rfl
theorem range_of {w : World} {g : Nat} {H : List UInt8} (hg : w.heap[g]? = some (.cells (hl H).toArray 36 (0, 0))) : w.rangeAt g 0 (hl H) := by
  intro j v hv
  unfold World.cell?
  simp only [hg]
  simpa using hv
theorem norm_any' {φ : Act → World → Prop} {a : Act} {w : World} (h : ∀ K : Act → World → Prop, (∀ a w, φ a w → K a w) → K a w) : φ a w := h φ (fun _ _ h => h)
theorem mkHid {p : Prop} (h : p) : Hid p := h
end Go.Proofs.YtdklkofnekacdaaGreatDoor
