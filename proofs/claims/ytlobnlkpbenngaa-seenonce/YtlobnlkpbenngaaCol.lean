/- slices.Collect of a set's spans. -/
import Derived.Test.YtlobnlkpbenngaaRSet
import Derived.Lib.AppendZeros
namespace Go.Proofs.YtlobnlkpbenngaaR
open Go.RowKit Go.Shelf Go.Lib
set_option linter.unusedVariables false

attribute [local go_sem] Oper.semAt_some

/-- An append in a round. -/
theorem wpListIn_append_run {P : Program} {l n : Nat} (w : World) {ops : Array Oper} {rest : List Oper} {o : Oper} {a : Act} {Q : Exit → Act → World → Prop} (hgd : o.guard = none) (s x : Operand) (t tn : TypeId)
    (ho : o.op = .call { callee := .builtin .append, args := #[s, x], argTypes := #[t, tn] }) (vs vx : Value) (hs : a.eval s = vs) (hx : a.eval x = vx)
    (v' : Value) (w' : World) (hr : (Builtin.append_ #[t, tn] o.type #[vs, vx]).run P w = .ok v' w') (h : wpListIn (Fence.wide.inRound l) n P ops Q rest (a.put o.dst v') w') : wpListIn (Fence.wide.inRound l) n P ops Q (o :: rest) a w := by
  unfold wpListIn
  rw [if_pos (by simp [Region.wanted, hgd])]
  exact oper_round (fun c e => by rw [ho] at e; cases e) (wp_append_run w s x t tn ho vs vx hs hx v' w' hr h)

/-- One span behind the spans of a row. -/
theorem push_at (W : World) (cc : Nat) (oc : Option Addr) (pre : List (Int × Int)) (x y : Int) (h : Rs W oc cc pre) (hcm : cc ≤ maxLen) (hsz : pre.length ≤ 65536) :
    ∃ g c' w3, (∀ ty, (Builtin.append_ #[47, 47] ty #[.slice oc pre.length cc, .slice (some ⟨W.heap.size, 0, none⟩) 1 1]).run Try.prog (W.alloc (.cells #[.int .i64 x, .int .i64 y] 53)) = .ok (.slice (some ⟨g, 0, none⟩) (pre.length + 1) c') w3) ∧
      Rs w3 (some ⟨g, 0, none⟩) c' (pre ++ [(x, y)]) ∧ c' ≤ maxLen ∧ Chg (fun k => oc = some ⟨k, 0, none⟩) W w3 ∧ (some ⟨g, 0, none⟩ = oc ∨ W.heap.size ≤ g) := by
  have hT : At (W.alloc (.cells #[.int .i64 x, .int .i64 y] 53)) W.heap.size (fl [(x, y)] ++ []) := at_alloc W _
  have hC0 : Chg (fun k => oc = some ⟨k, 0, none⟩) W (W.alloc (.cells #[.int .i64 x, .int .i64 y] 53)) := (Chg.refl _ W).alloc _
  have hs : Src Try.prog 2 47 (.slice (some ⟨W.heap.size, 0, none⟩) 1 1) 1 (fl [(x, y)]) (W.alloc (.cells #[.int .i64 x, .int .i64 y] 53)) := src2 _ ⟨W.heap.size, 0, none⟩ 1 [(x, y)] (At.src (A := []) hT rfl)
  by_cases hroom : pre.length + 1 ≤ cc
  · rcases h with ⟨rfl, rfl, rfl⟩ | ⟨g, R, rfl, hA, hR⟩
    · simp at hroom
    · have hA' : At (W.alloc (.cells #[.int .i64 x, .int .i64 y] 53)) g (fl pre ++ R) := At.alloc hA _
      have hrun := fun ty => run_append2_room _ ty g pre.length cc _ _ 1 [(x, y)] hA' hs hroom (by simp; omega) rfl
      refine ⟨g, cc, _, hrun, .inr ⟨g, R.drop 2, rfl, ?_, by simp; omega⟩, hcm, hC0.set g _ (.inl rfl), .inl rfl⟩
      have e := over_eq (X := fl pre ++ R) (P := fl pre) (Q := R.take 2) (S := R.drop 2) (M := fl [(x, y)]) (o := pre.length * 2) (by rw [List.append_assoc, List.take_append_drop]) (by simp) (by simp [fl]; omega)
      rw [e, fl_append]
      exact hA'.set _
  · have hb : (oc = none ∧ pre = []) ∨ ∃ g X, oc = some ⟨g, 0, none⟩ ∧ At (W.alloc (.cells #[.int .i64 x, .int .i64 y] 53)) g (fl pre ++ X) := by
      rcases h with ⟨h1, h2, _⟩ | ⟨g, R, h1, h2, _⟩
      · exact .inl ⟨h1, h2⟩
      · exact .inr ⟨g, R, h1, At.alloc h2 _⟩
    obtain ⟨c', hc', hrun0, hmax⟩ := run_append2_grow (W.alloc (.cells #[.int .i64 x, .int .i64 y] 53)) 47 oc pre.length cc pre [(x, y)] _ 1 rfl rfl hb hs (by omega) (by omega)
    refine ⟨_, c', _, fun ty => hrun0, .inr ⟨_, zs (c' - (pre.length + 1)), rfl, ?_, by simp; omega⟩, hmax, (hC0.drew).alloc _, .inr (by simp)⟩
    rw [fl_append]
    exact at_alloc _ _

/-- A slice of spans in a box. -/
def Bx (w W : World) (B : Nat) (pre : List (Int × Int)) : Prop :=
  ∃ oc cc, W.heap[B]? = some (.cells #[.slice oc pre.length cc] 47 (0, 0)) ∧ Rs W oc cc pre ∧ cc ≤ maxLen ∧ (∀ g, oc = some ⟨g, 0, none⟩ → w.heap.size ≤ g)

/-- One span is laid behind those in the box. -/
theorem Bx.push {w W : World} {B : Nat} {pre : List (Int × Int)} {oc : Option Addr} {cc : Nat} (x y : Int) (h1 : W.heap[B]? = some (.cells #[.slice oc pre.length cc] 47 (0, 0))) (h2 : Rs W oc cc pre) (h3 : cc ≤ maxLen) (h4 : ∀ g, oc = some ⟨g, 0, none⟩ → w.heap.size ≤ g) (hw : w.heap.size ≤ W.heap.size) (hsz : pre.length ≤ 65536) :
    ∃ g c' w3, (∀ ty, (Builtin.append_ #[47, 47] ty #[.slice oc pre.length cc, .slice (some ⟨W.heap.size, 0, none⟩) 1 1]).run Try.prog (W.alloc (.cells #[.int .i64 x, .int .i64 y] 53)) = .ok (.slice (some ⟨g, 0, none⟩) (pre.length + 1) c') w3) ∧
      w3.cell? ⟨B, 0, none⟩ = some (.slice oc pre.length cc) ∧ w3.frozen? ⟨B, 0, none⟩ = false ∧ Chg (fun k => oc = some ⟨k, 0, none⟩) W w3 ∧ w3.heap[B]? = some (.cells #[.slice oc pre.length cc] 47 (0, 0)) ∧
      Bx w (w3.setCell ⟨B, 0, none⟩ (.slice (some ⟨g, 0, none⟩) (pre.length + 1) c')) B (pre ++ [(x, y)]) ∧ Chg (fun k => k = B ∨ oc = some ⟨k, 0, none⟩) W (w3.setCell ⟨B, 0, none⟩ (.slice (some ⟨g, 0, none⟩) (pre.length + 1) c')) ∧ (some ⟨g, 0, none⟩ = oc ∨ W.heap.size ≤ g) := by
  obtain ⟨g, c', w3, hrun, hr, hm, hch, hg⟩ := push_at W cc oc pre x y h2 h3 hsz
  have hne : oc ≠ some ⟨B, 0, none⟩ := by
    rintro rfl
    rcases h2 with ⟨h', _⟩ | ⟨q, R, h', hA, _⟩
    · cases h'
    · obtain rfl : B = q := by simpa using h'
      have := h1.symm.trans hA
      simp at this
  have hB : w3.heap[B]? = some (.cells #[.slice oc pre.length cc] 47 (0, 0)) := (hch.2.2.2.2 B (Array.getElem?_eq_some_iff.1 h1).1 hne).trans h1
  refine ⟨g, c', w3, hrun, by simp [World.cell?, hB], by simp [World.frozen?, hB], hch, hB, ?_, ?_, hg⟩
  · rw [setCell_eq_setRow w3 B 0 _ 47 (0, 0) _ hB]
    refine ⟨some ⟨g, 0, none⟩, c', ?_, ?_, hm, ?_⟩
    · rw [setRow_heap w3 B _ _ 47 (0, 0) hB]
      simp
    · rcases hr with ⟨h', _⟩ | ⟨q, R, hq, hA, hR⟩
      · cases h'
      · refine .inr ⟨q, R, hq, At.other hA _ ?_, hR⟩
        rintro rfl
        have := hB.symm.trans hA
        simp at this
    · intro g' e
      obtain rfl : g = g' := by simpa using e
      rcases hg with hg | hg
      · exact h4 g hg.symm
      · omega
  · rw [setCell_eq_setRow w3 B 0 _ 47 (0, 0) _ hB]
    exact (hch.mono (fun k _ hk => .inr hk)).set B _ (.inl (.inl rfl))
end Go.Proofs.YtlobnlkpbenngaaR
