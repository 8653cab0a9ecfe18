/- The inbox's map of cells: what it holds, by the bytes that stand in it. -/
import Derived.Test.YtijndpjdmiljkaaGreatDoorITz
import Derived.Maps.Own
import Derived.Maps.OwnOps
import Derived.Maps.OwnSet
import Derived.Maps.Views
namespace Go.Proofs.YtijndpjdmiljkaaGreatDoor
open Go.RowKit Go.Maps
set_option linter.unusedVariables false

/-- A cell's 65 values. -/
def cellL (f : Nat → Option UInt8) : List Value :=
  .int .u64 (wdN (fun j => (f j).isSome) 64 : Nat) :: (List.range 64).map (fun j => Value.int .u8 ((((f j).getD 0).toNat : Nat) : Int))
theorem cellL_len (f : Nat → Option UInt8) : (cellL f).length = 65 := by simp [cellL]
theorem cellL_ext {f g : Nat → Option UInt8} (h : ∀ j, j < 64 → f j = g j) : cellL f = cellL g := by
  unfold cellL
  rw [wd_ext _ (fun j => (g j).isSome) (fun i hi => by rw [h i hi])]
  congr 1
  apply List.map_congr_left
  intro j hj
  rw [h j (List.mem_range.1 hj)]
def cellA (V : Nat → Option UInt8) (q : Nat) : List Value := cellL (fun j => V (64 * q + j))
theorem cellA_len (V : Nat → Option UInt8) (q : Nat) : (cellA V q).length = 65 := cellL_len _
theorem cellA_ext {V V' : Nat → Option UInt8} {q : Nat} (h : ∀ j, j < 64 → V (64 * q + j) = V' (64 * q + j)) : cellA V q = cellA V' q := cellL_ext h
def zcell : Value := .agg (cellL (fun _ => none)).toArray
theorem cellA_none {V : Nat → Option UInt8} {q : Nat} (h : ∀ j, j < 64 → V (64 * q + j) = none) : Value.agg (cellA V q).toArray = zcell := by
  unfold zcell cellA
  rw [cellL_ext (g := fun _ => none) h]
theorem zero70 (w : World) : (zeroValue 267).run Tryz.prog w = .ok zcell w := by kernel_rfl
theorem law3 : Keyed Tryz.prog 3 := int_keyed Tryz.underlying3

abbrev Rv : Value → Option (DataW Value × List MemPlace) := fun v => some (.held v, [])
/-- Block mb is a map of cells that holds the bytes V. -/
def Mp (W : World) (mb n : Nat) (V : Nat → Option UInt8) : Prop :=
  ∃ D : DataW Value, W.ownsMap Tryz.prog 3 Rv mb n D ∧ IsMap D ∧ ∀ q : Nat, q ≤ 100000000000000000 → D.atKey (.int .i64 ((64 * q : Nat) : Int)) (.held zcell) = .held (.agg (cellA V q).toArray)
theorem wf64 {q : Nat} (h : q ≤ 100000000000000000) : (Lit.int .i64 ((64 * q : Nat) : Int)).wf = true := by
  simp only [Lit.wf, IntKind.min, IntKind.max, IntKind.signed, IntKind.bits, Bool.and_eq_true, decide_eq_true_eq, if_true]
  omega
theorem Mp.lt {W : World} {mb n : Nat} {V : Nat → Option UInt8} (h : Mp W mb n V) : mb < W.heap.size := by
  obtain ⟨D, h, _⟩ := h
  exact h.lt
theorem Mp.look {W : World} {mb n : Nat} {V : Nat → Option UInt8} (h : Mp W mb n V) (q : Nat) (hq : q ≤ 100000000000000000) :
    (Instr.lookup 199 (.map (some mb)) (.int .i64 ((64 * q : Nat) : Int)) false).run Tryz.prog W = .ok (.agg (cellA V q).toArray) W := by
  obtain ⟨D, hD, _, hat⟩ := h
  obtain ⟨v, ps, hrun, hv⟩ := hD.lookup law3 Tryz.underlying199 (zero70 W) (zd := .held zcell) (zp := []) rfl (keyOf_int_mk Tryz.underlying3 (wf64 hq))
  rw [hat q hq] at hv
  simp only [Rv, Option.some.injEq, Prod.mk.injEq, DataW.held.injEq] at hv
  rw [hrun, hv.1]
theorem Mp.put {W : World} {mb n : Nat} {V V' : Nat → Option UInt8} (h : Mp W mb n V) (q : Nat) (hq : q ≤ 100000000000000000) (hn : n < 9000000000000000000) (hV : ∀ p, (p < 64 * q ∨ 64 * q + 64 ≤ p) → V' p = V p) :
    ∃ W', (Instr.mapUpdate 199 (.map (some mb)) (.int .i64 ((64 * q : Nat) : Int)) (.agg (cellA V' q).toArray)).run Tryz.prog W = .ok () W' ∧ Mp W' mb (n + 1) V' ∧ W.grownBy W' (some mb) := by
  obtain ⟨D, hD, hI, hat⟩ := h
  obtain ⟨W', hrun, h1, h2⟩ := hD.update law3 Tryz.underlying199 (by unfold maxLen; omega) (keyOf_int_mk Tryz.underlying3 (wf64 hq)) (show Rv (.agg (cellA V' q).toArray) = some (.held (.agg (cellA V' q).toArray), []) from rfl)
  refine ⟨W', hrun, ⟨_, h1, ?_, fun q' hq' => ?_⟩, h2⟩
  · exact hI.put _ _
  · by_cases e : q' = q
    · subst e
      exact atKey_put_same hI (show WideAt.IsKeyLit (.int .i64 _) from trivial) _ _
    · rw [atKey_put_other (by intro e'; injection e' with _ e'; omega), hat q' hq', cellA_ext (V := V) (V' := V') (fun j hj => (hV _ (by omega)).symm)]
theorem Mp.kept {W W' : World} {mb n : Nat} {V : Nat → Option UInt8} (h : Mp W mb n V) (hb : W'.heap[mb]? = W.heap[mb]?) : Mp W' mb n V := by
  obtain ⟨D, ⟨es, clock, h1, h2, h3, h4⟩, hI, hat⟩ := h
  exact ⟨D, ⟨es, clock, hb.trans h1, h2, h3, h4⟩, hI, hat⟩
theorem Mp_made (W : World) : Mp (W.alloc (.map #[] 0)) W.heap.size 0 (fun _ => none) := by
  refine ⟨.map [], World.ownsMap_made W Tryz.prog 3 Rv, ⟨_, rfl⟩, fun q hq => ?_⟩
  rw [cellA_none (fun _ _ => rfl)]
  rfl
/-- What a cell holds of a byte that is put, unless one stands there. -/
def put1 (f : Nat → Option UInt8) (j : Nat) (x : UInt8) : Nat → Option UInt8 := fun i => if i = j ∧ f j = none then some x else f i
theorem cellL_put {f : Nat → Option UInt8} {j : Nat} {x : UInt8} (hj : j < 64) (h : f j = none) : cellL (put1 f j x) = ((cellL f).set 0 (.int .u64 ((wdN (fun i => (f i).isSome) 64 ||| 2 ^ j : Nat) : Int))).set (1 + j) (.int .u8 (x.toNat : Int)) := by
  have hw : wdN (fun i => (f i).isSome) 64 ||| 2 ^ j = wdN (fun i => (put1 f j x i).isSome) 64 := by
    refine wd_or _ _ j hj (fun i hi => ?_)
    unfold put1
    by_cases e : i = j
    · subst e; simp [h]
    · simp [e]
  rw [hw]
  unfold cellL
  rw [List.set_cons_zero, Nat.add_comm 1 j, List.set_cons_succ]
  congr 1
  apply List.ext_getElem
  · simp
  · intro i h1 h2
    rw [List.getElem_set]
    simp only [List.getElem_map, List.getElem_range, put1]
    by_cases e : i = j
    · subst e; simp [h]
    · have e2 : ¬ j = i := fun h => e h.symm
      simp [e, e2]
theorem put1_some {f : Nat → Option UInt8} {j : Nat} {x : UInt8} (h : (f j).isSome = true) : put1 f j x = f := by
  funext i
  unfold put1
  rw [if_neg]
  rintro ⟨_, h'⟩
  rw [h'] at h
  cases h
end Go.Proofs.YtijndpjdmiljkaaGreatDoor
