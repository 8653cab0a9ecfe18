/- vault: terms as values; the map of terms. -/
import Derived.Test.YthdenbclfogojaaGreatDoorNm
import Derived.Maps.AppendAt
import Derived.Maps.Own
import Derived.MapKept
import Derived.RangeFuncNested
import Derived.WideShapes
import Derived.Laws.Strings
namespace Go.Proofs.YthdenbclfogojaaGreatDoor
open Go.RowKit
set_option linter.unusedVariables false

/-- What a term is made of. -/
structure Tm where
  kd : Nat
  of' : Nat
  wi : Int
  un : ByteArray
  by' : ByteArray
def tc (t : Tm) : List Value := [.int .i64 (t.kd : Int), .int .i64 (t.of' : Int), .int .i64 t.wi, .string t.un, .string t.by']
abbrev tv (t : Tm) : Value := .agg (tc t).toArray
def eqT (s t : Tm) : Bool := ((s.kd : Int) == (t.kd : Int)) && ((s.of' : Int) == (t.of' : Int)) && (s.wi == t.wi) && decide (s.un.toList = t.un.toList) && decide (s.by'.toList = t.by'.toList)
theorem ba_inj {a b : ByteArray} (h : a.toList = b.toList) : a = b := by
  rw [ByteArray.toList_eq, ByteArray.toList_eq] at h
  exact Go.WideShapes.bytes_inj h
theorem eqT_iff (s t : Tm) : eqT s t = true ↔ s = t := by
  cases s; cases t
  simp [eqT]
  constructor
  · rintro ⟨⟨⟨⟨h1, h2⟩, h3⟩, h4⟩, h5⟩
    exact ⟨by omega, by omega, h3, ba_inj h4, ba_inj h5⟩
  · rintro ⟨rfl, rfl, rfl, rfl, rfl⟩
    simp
theorem eqT_self (t : Tm) : eqT t t = true := (eqT_iff t t).2 rfl
theorem eqT_ne {s t : Tm} (h : s ≠ t) : eqT s t = false := by
  cases e : eqT s t with
  | false => rfl
  | true => exact absurd ((eqT_iff s t).1 e) h
set_option maxRecDepth 100000 in
theorem equalIn64 (s t : Tm) (w : World) : (Op.equalIn 10000 108 (tv s) (tv t)).run Tryz.prog w = .ok (eqT s t) w := by
  have u3 := Tryz.underlying3
  have a3 := Tryz.isAgg3
  have z3 := Tryz.sizeOf3
  have u9 := Tryz.underlying9
  have a9 := Tryz.isAgg9
  have z9 := Tryz.sizeOf9
  have hS : Tryz.prog.underlying 108 = some (.struct (Tryz.prog.fieldsOf 108)) := by kernel_rfl
  have hp : Tryz.prog.stoodInHeld 108 = false := by kernel_rfl
  rw [show (10000 : Nat) = 9999 + 1 from rfl, run_equalIn_agg w 9999 108 _ _ hS hp]
  simp only [Program.fieldsOf, Tryz.underlying108]
  unfold tc eqT
  go_simp
  by_cases h1 : (s.kd : Int) = (t.kd : Int) <;> by_cases h2 : (s.of' : Int) = (t.of' : Int) <;> by_cases h3 : s.wi = t.wi <;> by_cases h4 : s.un.toList = t.un.toList <;> by_cases h5 : s.by'.toList = t.by'.toList <;> simp [h1, h2, h3, h4, h5]
theorem eql64 (s t : Tm) (w : World) : (binOp .eql 108 (tv s) (tv t)).run Tryz.prog w = .ok (.bool (eqT s t)) w := by
  rw [run_eql_struct, equalIn64]; rfl
theorem neq64 (s t : Tm) (w : World) : (binOp .neq 108 (tv s) (tv t)).run Tryz.prog w = .ok (.bool (!(eqT s t))) w := by
  rw [run_neq_struct, equalIn64]; rfl
set_option maxRecDepth 100000 in
theorem checkKey64 (em : Bool) (t : Tm) (w : World) : (Instr.checkKey em 10000 108 (tv t)).run Tryz.prog w = .ok () w := by
  have u3 := Tryz.underlying3
  have a3 := Tryz.isAgg3
  have z3 := Tryz.sizeOf3
  have u9 := Tryz.underlying9
  have a9 := Tryz.isAgg9
  have z9 := Tryz.sizeOf9
  show (Instr.checkKey em 10000 108 (.agg #[.int .i64 (t.kd : Int), .int .i64 (t.of' : Int), .int .i64 t.wi, .string t.un, .string t.by'])).run Tryz.prog w = _
  have q3 : ∀ (x : Int) (w : World), (Instr.checkKey em 9999 3 (.int .i64 x)).run Tryz.prog w = .ok () w := fun x w => by
    rw [show (9999 : Nat) = 9998 + 1 from rfl]
    unfold Instr.checkKey
    simp [run_underlying u3]
  have q9 : ∀ (x : ByteArray) (w : World), (Instr.checkKey em 9999 9 (.string x)).run Tryz.prog w = .ok () w := fun x w => by
    rw [show (9999 : Nat) = 9998 + 1 from rfl]
    unfold Instr.checkKey
    simp [run_underlying u9]
  rw [show (10000 : Nat) = 9999 + 1 from rfl]
  unfold Instr.checkKey
  simp only [Sem.run_bind, run_underlying Tryz.underlying108, Result.andThen_ok]
  go_simp

theorem tv_inj {s t : Tm} (h : tv s = tv t) : s = t := by
  have h' : tc s = tc t := by
    have := (Value.agg.injEq _ _).mp h
    simpa using this
  cases s; cases t
  simp only [tc, List.cons.injEq, Value.int.injEq, true_and, Value.string.injEq, and_true] at h'
  obtain ⟨h1, h2, h3, h4, h5⟩ := h'
  simp only [Tm.mk.injEq]
  exact ⟨by omega, by omega, h3, h4, h5⟩
theorem find_no (t : Tm) (w : World) : ∀ (es : List MapEntry) (i : Nat), (∀ e ∈ es, ∃ s, e.key = tv s ∧ s ≠ t) → (Instr.findAsking 108 (tv t) es i).run Tryz.prog w = .ok none w := by
  intro es
  induction es with
  | nil => intro i _; rfl
  | cons e r ih =>
    intro i h
    obtain ⟨s, hs, hne⟩ := h e (by simp)
    unfold Instr.findAsking
    rw [hs]
    simp only [Op.equal, Op.maxDepth, Sem.run_bind, equalIn64, Result.andThen_ok, eqT_ne (fun e => hne e.symm), Bool.false_eq_true, if_false]
    exact ih (i + 1) (fun e he => h e (by simp [he]))
theorem find_yes (t : Tm) (v : Value) (w : World) : ∀ (es : List MapEntry) (i : Nat), (∀ e ∈ es, ∃ s, e.key = tv s) → (∃ e ∈ es, e.key = tv t) → (∀ e ∈ es, e.key = tv t → e.val = v) → ∃ j, (Instr.findAsking 108 (tv t) es i).run Tryz.prog w = .ok (some (j, v)) w := by
  intro es
  induction es with
  | nil => intro i _ h _; obtain ⟨e, he, _⟩ := h; cases he
  | cons e r ih =>
    intro i h1 h2 h3
    obtain ⟨s, hs⟩ := h1 e (by simp)
    unfold Instr.findAsking
    by_cases hst : s = t
    · subst hst
      refine ⟨i, ?_⟩
      rw [← h3 e (by simp) hs, hs]
      simp only [Op.equal, Op.maxDepth, Sem.run_bind, equalIn64, Result.andThen_ok, eqT_self, if_true]
      rfl
    · obtain ⟨j, hj⟩ := ih (i + 1) (fun e he => h1 e (by simp [he])) (by
        obtain ⟨e', he', hk⟩ := h2
        rcases List.mem_cons.1 he' with rfl | he'
        · exact absurd (tv_inj (hs.symm.trans hk)) hst
        · exact ⟨e', he', hk⟩) (fun e he hk => h3 e (by simp [he]) hk)
      refine ⟨j, ?_⟩
      rw [hs]
      simp only [Op.equal, Op.maxDepth, Sem.run_bind, equalIn64, Result.andThen_ok, eqT_ne (fun e => hst e.symm), Bool.false_eq_true, if_false]
      exact hj
/-- What the map of terms holds. -/
structure Mo (es : List MapEntry) (L : List Tm) : Prop where
  sound : ∀ e ∈ es, ∃ (i : Nat) (t : Tm), e.key = tv t ∧ e.val = .int .i64 (i : Int) ∧ L[i]? = some t ∧ 2 ≤ t.kd
  whole : ∀ (i : Nat) (t : Tm), L[i]? = some t → 2 ≤ t.kd → ∃ e ∈ es, e.key = tv t ∧ e.val = .int .i64 (i : Int)
  once : ∀ (i j : Nat) (t : Tm), L[i]? = some t → L[j]? = some t → 2 ≤ t.kd → i = j
theorem findKey_eq (t : Tm) (es : List MapEntry) (w : World) (hk : ∀ e ∈ es, ∃ s, e.key = tv s) : (Instr.findKey 108 (tv t) es).run Tryz.prog w = (Instr.findAsking 108 (tv t) es).run Tryz.prog w := by
  unfold Instr.findKey
  rw [Sem.run_bind, run_underlying Tryz.underlying108]
  simp only [Result.andThen_ok]
  cases es with
  | nil => rfl
  | cons e r =>
    obtain ⟨s, hs⟩ := hk e (by simp)
    unfold Instr.findNow Instr.sameNow
    rw [hs]
theorem zero3 (w : World) : (zeroValue 3).run Tryz.prog w = .ok (.int .i64 0) w := by kernel_rfl
theorem look_no {w : World} {M ck : Nat} {es : Array MapEntry} {L : List Tm} (t : Tm) (hm : w.heap[M]? = some (.map es ck)) (h : Mo es.toList L) (hn : 2 ≤ t.kd → t ∉ L) (h2 : 2 ≤ t.kd) :
    (Instr.lookup 110 (.map (some M)) (tv t) true).run Tryz.prog w = .ok (.tuple #[.int .i64 0, .bool false]) w := by
  have hf : (Instr.findKey 108 (tv t) es.toList).run Tryz.prog w = .ok none w := by
    rw [findKey_eq t _ w (fun e he => by obtain ⟨_, s, hs, _⟩ := h.sound e he; exact ⟨s, hs⟩)]
    refine find_no t w _ 0 (fun e he => ?_)
    obtain ⟨i, s, hs, _, hL, _⟩ := h.sound e he
    exact ⟨s, hs, fun e => hn h2 (e ▸ List.mem_of_getElem? hL)⟩
  simp only [Instr.lookup, Sem.run_bind, run_underlying Tryz.underlying110, MapKept.run_getObj_map hm, Result.andThen_ok, Sem.run_pure, checkKey64, hf, zero3]
  rfl
theorem look_yes {w : World} {M ck i : Nat} {es : Array MapEntry} {L : List Tm} (t : Tm) (hm : w.heap[M]? = some (.map es ck)) (h : Mo es.toList L) (hL : L[i]? = some t) (h2 : 2 ≤ t.kd) :
    (Instr.lookup 110 (.map (some M)) (tv t) true).run Tryz.prog w = .ok (.tuple #[.int .i64 (i : Int), .bool true]) w := by
  obtain ⟨j, hf⟩ : ∃ j, (Instr.findKey 108 (tv t) es.toList).run Tryz.prog w = .ok (some (j, .int .i64 (i : Int))) w := by
    rw [findKey_eq t _ w (fun e he => by obtain ⟨_, s, hs, _⟩ := h.sound e he; exact ⟨s, hs⟩)]
    refine find_yes t _ w _ 0 (fun e he => by obtain ⟨_, s, hs, _⟩ := h.sound e he; exact ⟨s, hs⟩) ?_ ?_
    · obtain ⟨e, he, hk, _⟩ := h.whole i t hL h2
      exact ⟨e, he, hk⟩
    · intro e he hk
      obtain ⟨i', s, hs, hv, hL', h2'⟩ := h.sound e he
      obtain rfl := tv_inj (hs.symm.trans hk)
      rw [hv, h.once i' i s hL' hL h2']
  simp only [Instr.lookup, Sem.run_bind, run_underlying Tryz.underlying110, MapKept.run_getObj_map hm, Result.andThen_ok, Sem.run_pure, checkKey64, hf]
  rfl
theorem upd_new {w : World} {M ck : Nat} {es : Array MapEntry} {L : List Tm} (t : Tm) (v : Value) (hm : w.heap[M]? = some (.map es ck)) (h : Mo es.toList L) (hn : t ∉ L) :
    (Instr.mapUpdate 110 (.map (some M)) (tv t) v).run Tryz.prog w = .ok () (w.putObj M (.map (es.push { key := tv t, val := v, born := ck }) (ck + 1))) := by
  have hf : (Instr.findKey 108 (tv t) es.toList).run Tryz.prog w = .ok none w := by
    rw [findKey_eq t _ w (fun e he => by obtain ⟨_, s, hs, _⟩ := h.sound e he; exact ⟨s, hs⟩)]
    refine find_no t w _ 0 (fun e he => ?_)
    obtain ⟨i, s, hs, _, hL, _⟩ := h.sound e he
    exact ⟨s, hs, fun e => hn (e ▸ List.mem_of_getElem? hL)⟩
  simp only [Instr.mapUpdate, Sem.run_bind, run_underlying Tryz.underlying110, MapKept.run_getObj_map hm, Result.andThen_ok, checkKey64, hf, MapKept.run_setObj_map _ hm]
  rfl
theorem Mo.push {es : List MapEntry} {L : List Tm} (h : Mo es L) (t : Tm) (h2 : 2 ≤ t.kd) (hn : t ∉ L) (ck : Nat) : Mo (es ++ [{ key := tv t, val := .int .i64 (L.length : Int), born := ck }]) (L ++ [t]) := by
  refine ⟨fun e he => ?_, fun i s hi hs => ?_, fun i j s hi hj hs => ?_⟩
  · rcases List.mem_append.1 he with he | he
    · obtain ⟨i, s, a, b, c, d⟩ := h.sound e he
      exact ⟨i, s, a, b, by rw [List.getElem?_append_left (List.getElem?_eq_some_iff.1 c).1]; exact c, d⟩
    · obtain rfl := List.mem_singleton.1 he
      exact ⟨L.length, t, rfl, rfl, by simp, h2⟩
  · by_cases hl : i < L.length
    · rw [List.getElem?_append_left hl] at hi
      obtain ⟨e, he, a, b⟩ := h.whole i s hi hs
      exact ⟨e, by simp [he], a, b⟩
    · have hl2 := (List.getElem?_eq_some_iff.1 hi).1
      simp at hl2
      obtain rfl : i = L.length := by omega
      simp at hi
      subst hi
      exact ⟨{ key := tv t, val := .int .i64 (L.length : Int), born := ck }, by simp, rfl, rfl⟩
  · have key : ∀ i, (L ++ [t])[i]? = some s → (i < L.length ∧ L[i]? = some s) ∨ (i = L.length ∧ s = t) := by
      intro i hi
      by_cases hl : i < L.length
      · exact .inl ⟨hl, by rwa [List.getElem?_append_left hl] at hi⟩
      · have hl2 := (List.getElem?_eq_some_iff.1 hi).1
        simp at hl2
        obtain rfl : i = L.length := by omega
        simp at hi
        exact .inr ⟨rfl, hi.symm⟩
    rcases key i hi with ⟨_, a⟩ | ⟨a, b⟩ <;> rcases key j hj with ⟨_, c⟩ | ⟨c, d⟩
    · exact h.once i j s a c hs
    · subst d; exact absurd (List.mem_of_getElem? a) hn
    · subst b; exact absurd (List.mem_of_getElem? c) hn
    · omega
/-- A term that is made of nothing is put behind the others. -/
theorem Mo.fresh {es : List MapEntry} {L : List Tm} (h : Mo es L) (t : Tm) (h2 : t.kd < 2) : Mo es (L ++ [t]) := by
  have key : ∀ (i : Nat) (s : Tm), (L ++ [t])[i]? = some s → 2 ≤ s.kd → L[i]? = some s := by
    intro i s hi hs
    by_cases hl : i < L.length
    · rwa [List.getElem?_append_left hl] at hi
    · have hl2 := (List.getElem?_eq_some_iff.1 hi).1
      simp at hl2
      obtain rfl : i = L.length := by omega
      simp at hi
      subst hi
      omega
  refine ⟨fun e he => ?_, fun i s hi hs => h.whole i s (key i s hi hs) hs, fun i j s hi hj hs => h.once i j s (key i s hi hs) (key j s hj hs) hs⟩
  obtain ⟨i, s, a, b, c, d⟩ := h.sound e he
  exact ⟨i, s, a, b, by rw [List.getElem?_append_left (List.getElem?_eq_some_iff.1 c).1]; exact c, d⟩
end Go.Proofs.YthdenbclfogojaaGreatDoor
