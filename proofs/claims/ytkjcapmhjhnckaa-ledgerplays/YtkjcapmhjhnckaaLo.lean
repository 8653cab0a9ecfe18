/- ledger: lose, on lists. -/
import Derived.Test.YtkjcapmhjhnckaaTr
import Derived.Test.YtkjcapmhjhnckaaPr
namespace Go.Proofs.Ytkjcapmhjhnckaa
open Go.RowKit Go.Maps
set_option linter.unusedVariables false
set_option maxRecDepth 100000

theorem appr {P : Program} {ops : Array Oper} {rest : List Oper} {o : Oper} {a : Act} {w : World} {Q : Exit → Act → World → Prop}
    (hg : o.guard = none) (d x : Operand) (dT sT : TypeId) (hop : o.op = Op.call { callee := Callee.builtin Builtin.append, args := #[d, x], argTypes := #[dT, sT] })
    (v u : Value) (hd : a.eval d = v) (hx : a.eval x = u) {v' : Value} {w' : World} (hr : (Builtin.append_ #[dT, sT] o.type #[v, u]).run P w = .ok v' w') (hK : wpList P ops Q rest (a.put o.dst v') w') :
    wpList P ops Q (o :: rest) a w :=
  wpList_plain hg fun K hK' => (by
    unfold Oper.wp
    simp [execOp, hop, resolve, invoke, builtin, hd, hx, hr, Result.andThen]
    exact hK' _ _ hK)
theorem step_appr {P : Program} {ops : Array Oper} {o : Oper} {a : Act} {w : World} {K : Act → World → Prop} {Q : Exit → Act → World → Prop} {E : Prop}
    (hg : o.guard = none) (d x : Operand) (dT sT : TypeId) (hop : o.op = Op.call { callee := Callee.builtin Builtin.append, args := #[d, x], argTypes := #[dT, sT] })
    (v u : Value) (hd : a.eval d = v) (hx : a.eval x = u) {v' : Value} {w' : World} (hr : (Builtin.append_ #[dT, sT] o.type #[v, u]).run P w = .ok v' w') (hK : K (a.put o.dst v') w') :
    if Region.wanted o (yielded ops a.tmps) = true then Oper.wp P o a w K Q else E := by
  have hw : Region.wanted o (yielded ops a.tmps) = true := by simp [Region.wanted, hg]
  rw [if_pos hw]
  unfold Oper.wp
  simp [execOp, hop, resolve, invoke, builtin, hd, hx, hr, Result.andThen]
  exact hK
/-- The first k without marks. -/
def off (k : Nat) (O : List (Pk × Bool)) : List (Pk × Bool) := ((O.take k).map fun x => (x.1, false)) ++ O.drop k
theorem off_zero (O : List (Pk × Bool)) : off 0 O = O := by simp [off]
theorem off_len (k : Nat) (O : List (Pk × Bool)) : (off k O).length = O.length := by simp [off]; omega
theorem off_ns (k : Nat) (O : List (Pk × Bool)) : ns (off k O) = ns O := by
  unfold off ns
  rw [List.map_append, List.map_map]
  rw [show ((fun x : Pk × Bool => Value.int .i64 x.1.n) ∘ fun x => (x.1, false)) = (fun x : Pk × Bool => Value.int .i64 x.1.n) from rfl, ← List.map_append, List.take_append_drop]
theorem off_ok {k : Nat} {O : List (Pk × Bool)} (h : ∀ x ∈ O, x.1.ok) : ∀ x ∈ off k O, x.1.ok := by
  intro x hx
  rcases List.mem_append.1 hx with hx | hx
  · obtain ⟨y, hy, rfl⟩ := List.mem_map.1 hx
    exact h y (List.mem_of_mem_take hy)
  · exact h x (List.mem_of_mem_drop hx)
theorem off_rise {k : Nat} {O : List (Pk × Bool)} (h : Rise O) : Rise (off k O) := by
  unfold Rise at *
  have e : ((off k O).map fun x => x.1).Pairwise fun x y => x.n < y.n := by
    have e1 : (off k O).map (fun x => x.1) = O.map fun x => x.1 := by
      unfold off
      rw [List.map_append, List.map_map, show ((fun x : Pk × Bool => x.1) ∘ fun x => (x.1, false)) = (fun x : Pk × Bool => x.1) from rfl, ← List.map_append, List.take_append_drop]
    rw [e1, List.pairwise_map]
    exact h
  rwa [List.pairwise_map] at e
/-- One that has a mark, where k are without. -/
theorem off_at {O : List (Pk × Bool)} {k : Nat} (h : k < O.length) : off k O = ((O.take k).map fun x => (x.1, false)) ++ O[k] :: O.drop (k + 1) := by
  unfold off
  rw [List.drop_eq_getElem_cons h]
theorem off_succ {O : List (Pk × Bool)} {k : Nat} (h : k < O.length) : off (k + 1) O = ((O.take k).map fun x => (x.1, false)) ++ (O[k].1, false) :: O.drop (k + 1) := by
  unfold off
  rw [List.take_succ_eq_append_getElem h, List.map_append, List.append_assoc]
  rfl
theorem off_mem {O : List (Pk × Bool)} {k : Nat} (h : k < O.length) : O[k] ∈ off k O := by
  rw [off_at h]; exact List.mem_append_right _ List.mem_cons_self
/-- The ledger with the first k taken off their way. -/
def Ls.off (L : Ls) (k : Nat) : Ls := { L with O := Go.Proofs.Ytkjcapmhjhnckaa.off k L.O, z := zs (Go.Proofs.Ytkjcapmhjhnckaa.off k L.O), c := ce (Go.Proofs.Ytkjcapmhjhnckaa.off k L.O) }
theorem Ls.off_take {L : Ls} {k : Nat} (h : k < L.O.length) (hr : Rise L.O) (hf : L.O[k].2 = true) : (L.off k).take L.O[k].1 = L.off (k + 1) := by
  have e : L.O[k] = (L.O[k].1, true) := by rw [← hf]
  unfold Ls.take Ls.off
  have e1 := off_at h
  rw [e] at e1
  have e2 := off_succ h
  have hr' := off_rise (k := k) hr
  rw [e1] at hr'
  have e3 := un_split hr'
  congr 1
  · simp only
    rw [e1, e3, e2]
  · simp only
    rw [e1, e2, zs_off]
  · simp only
    rw [e1, e2, ce_off]
theorem Ls.off_skip {L : Ls} {k : Nat} (h : k < L.O.length) (hf : L.O[k].2 = false) : L.off k = L.off (k + 1) := by
  have e : L.O[k] = (L.O[k].1, false) := by rw [← hf]
  unfold Ls.off
  have e1 : Go.Proofs.Ytkjcapmhjhnckaa.off k L.O = Go.Proofs.Ytkjcapmhjhnckaa.off (k + 1) L.O := by
    rw [off_succ h, off_at h, ← e]
  rw [e1]
/-- Those that have marks. -/
def ons (O : List (Pk × Bool)) : List Pk := (O.filter fun x => x.2).map fun x => x.1
theorem ons_snoc (O : List (Pk × Bool)) (x : Pk × Bool) : ons (O ++ [x]) = ons O ++ (if x.2 = true then [x.1] else []) := by
  unfold ons
  rw [List.filter_append, List.map_append]
  congr 1
  cases h : x.2 <;> simp [h]
theorem ons_len (O : List (Pk × Bool)) : (ons O).length ≤ O.length := by
  unfold ons
  rw [List.length_map]
  exact List.length_filter_le _ _
/-- How far apart lost ones lie: from when on, and how far. -/
def sp1 (fs : Int × Int) (x : Pk × Bool) : Int × Int :=
  if x.2 = false then (-1, fs.2) else if x.1.e = false then fs else (if fs.1 = -1 then x.1.a else fs.1, max fs.2 (x.1.a - (if fs.1 = -1 then x.1.a else fs.1)))
def sp (O : List (Pk × Bool)) : Int × Int := O.foldl sp1 (-1, 0)
theorem sp_snoc (O : List (Pk × Bool)) (x : Pk × Bool) : sp (O ++ [x]) = sp1 (sp O) x := by simp [sp, List.foldl_append]
theorem sp_bound {O : List (Pk × Bool)} (h : ∀ x ∈ O, x.1.ok) : -1 ≤ (sp O).1 ∧ (sp O).1 ≤ 1125899906842624 ∧ 0 ≤ (sp O).2 ∧ (sp O).2 ≤ 1125899906842625 := by
  have : ∀ (l : List (Pk × Bool)) (fs : Int × Int), (∀ x ∈ l, x.1.ok) → (-1 ≤ fs.1 ∧ fs.1 ≤ 1125899906842624 ∧ 0 ≤ fs.2 ∧ fs.2 ≤ 1125899906842625) → -1 ≤ (l.foldl sp1 fs).1 ∧ (l.foldl sp1 fs).1 ≤ 1125899906842624 ∧ 0 ≤ (l.foldl sp1 fs).2 ∧ (l.foldl sp1 fs).2 ≤ 1125899906842625 := by
    intro l
    induction l with
    | nil => intro fs _ h; exact h
    | cons x t ih =>
      intro fs hx h
      refine ih _ (fun y hy => hx y (by simp [hy])) ?_
      have h1 := hx x (by simp)
      have := h1.a0
      have := h1.a1
      unfold sp1
      split
      · exact ⟨by simp, by simp, h.2.2.1, h.2.2.2⟩
      · split
        · exact h
        · dsimp only
          split <;> omega
  exact this O _ h (by decide)
/-- Is one passed over, or lost? -/
def isL (g old : Int) (x : Pk × Bool) : Bool := decide (x.1.n < g) && (!x.2 || decide (x.1.n ≤ g - 3) || decide (x.1.a ≤ old))
/-- How many are passed over, or lost. -/
def lk (g old : Int) (O : List (Pk × Bool)) : Nat := (O.takeWhile (isL g old)).length
theorem tw_le {α : Type} (P : α → Bool) (O : List α) : (O.takeWhile P).length ≤ O.length := (List.takeWhile_sublist _).length_le
theorem tw_iff {α : Type} {P : α → Bool} {O : List α} {k : Nat} (h : k ≤ (O.takeWhile P).length) (hk : k < O.length) : P O[k] = true ↔ k < (O.takeWhile P).length := by
  induction O generalizing k with
  | nil => simp at hk
  | cons x t ih =>
    cases hx : P x with
    | false =>
      simp only [List.takeWhile_cons, hx, Bool.false_eq_true, if_false, List.length_nil] at h ⊢
      obtain rfl : k = 0 := by omega
      simp [hx]
    | true =>
      simp only [List.takeWhile_cons, hx, if_true, List.length_cons] at h ⊢
      cases k with
      | zero => simp [hx]
      | succ k =>
        simp only [List.getElem_cons_succ]
        rw [ih (by omega) (by simpa using hk)]
        omega
/-- A ledger behind lose. -/
def Ls.lose (L : Ls) (old : Int) : Ls := L.off (lk L.g old L.O)
end Go.Proofs.Ytkjcapmhjhnckaa
