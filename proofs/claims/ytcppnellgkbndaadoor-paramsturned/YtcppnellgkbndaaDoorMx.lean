/- params: a token may be. -/
import Derived.Test.YtcppnellgkbndaaDoorMw
import Derived.Laws.Rows
import Derived.Laws.Tables
import Derived.Deep.MidRow
namespace Go.Proofs.YtcppnellgkbndaaDoor
open Go.ChangeShapes Go.WideShapes Go.ChangeAt Go.RowKit
set_option linter.unusedVariables false
set_option maxRecDepth 100000

/-- Bytes as cells. -/
def hl (h : List UInt8) : List Value := h.map fun b => .int .u8 (b.toNat : Int)
/-- A handle. -/
abbrev hv (h : List UInt8) : Value := .agg (hl h).toArray
@[simp] theorem hl_len (h : List UInt8) : (hl h).length = h.length := by simp [hl]
theorem hl_one (h : List UInt8) : (hl h).toArray.all (·.oneCell') = true := by
  rw [List.all_toArray, List.all_eq_true]
  intro v hv
  obtain ⟨b, _, rfl⟩ := List.mem_map.1 hv
  rfl
theorem hu23 : Tryd.prog.underlying 23 = some (.array 16 5) := by kernel_rfl
theorem hi23 : (Tryd.prog.info? 23).map (·.size) = some 16 := by kernel_rfl

theorem eq_loop {P : Program} {w : World} (f : Nat → Bool) (body : Nat → Option Bool × Unit → Sem (ForInStep (Option Bool × Unit))) (N : Nat)
    (hb : ∀ i s, i < N → (body i s).run P w = .ok (if f i then .yield (none, ()) else .done (some false, ())) w) :
    ∀ L : List Nat, (∀ i ∈ L, i < N) → (forIn L (none, ()) body).run P w = .ok (if L.all f then (none, ()) else (some false, ())) w := by
  intro L
  induction L with
  | nil => intro _; simp [go_sem]
  | cons i t ih =>
    intro h
    rw [List.forIn_cons, Sem.run_bind, hb i _ (h i (by simp))]
    by_cases e : f i = true
    · simp only [e, if_true, Result.andThen_ok, List.all_cons, Bool.true_and]
      exact ih fun j hj => h j (by simp [hj])
    · simp only [e, Bool.false_eq_true, if_false, Result.andThen_ok, List.all_cons, Bool.false_and]
      rfl
theorem hl_get {X : List UInt8} {i : Nat} (h : i < X.length) : (hl X)[i]? = some (.int .u8 (X[i].toNat : Int)) := by
  simp [hl, h]
theorem all16 {X Y : List UInt8} (hX : X.length = 16) (hY : Y.length = 16) : (List.range' 0 16).all (fun i => X[i]? == Y[i]?) = (X == Y) := by
  rw [Bool.eq_iff_iff, List.all_eq_true, beq_iff_eq]
  constructor
  · intro h
    apply List.ext_getElem?
    intro i
    by_cases hi : i < 16
    · simpa using h i (by simp [List.mem_range']; omega)
    · rw [List.getElem?_eq_none (by omega), List.getElem?_eq_none (by omega)]
  · rintro rfl i _
    simp
theorem equalIn_h (t : TypeId) (ht : Tryd.prog.underlying t = some (.array 16 5)) (d : Nat) (X Y : List UInt8) (hX : X.length = 16) (hY : Y.length = 16) (w : World) : (Op.equalIn (d + 2) t (hv X) (hv Y)).run Tryd.prog w = .ok (X == Y) w := by
  unfold Op.equalIn hv
  simp only [Sem.run_bind, run_underlying ht, Result.andThen_ok]
  go_simp
  rw [eq_loop (fun i => X[i]? == Y[i]?) _ 16 ?hb (List.range' 0 16) (by simp [List.mem_range'])]
  · rw [all16 hX hY]
    by_cases e : (X == Y) = true <;> simp [e, go_sem]
  · intro i s hi
    have a5 := Tryd.isAgg5
    rw [hl_get (by omega), hl_get (by omega)]
    simp only [Sem.run_bind, a5, Result.andThen_ok, Bool.false_eq_true, if_false, go_sem]
    rw [List.getElem?_eq_getElem (by omega), List.getElem?_eq_getElem (by omega)]
    by_cases e : X[i] = Y[i]
    · simp [e, go_sem]
    · have : ¬ ((X[i].toNat : Int) = (Y[i].toNat : Int)) := fun h => e (by rw [← UInt8.toNat_inj]; omega)
      simp [e, this, go_sem]
theorem eql23 (X Y : List UInt8) (hX : X.length = 16) (hY : Y.length = 16) (w : World) : (binOp .eql 23 (hv X) (hv Y)).run Tryd.prog w = .ok (.bool (X == Y)) w := by
  have := equalIn_h 23 hu23 9998 X Y hX hY w
  unfold hv at *
  rw [run_eql_struct, show (10000 : Nat) = 9998 + 2 from rfl, this]
  rfl
end Go.Proofs.YtcppnellgkbndaaDoor
