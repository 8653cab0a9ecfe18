/- vault: add. -/
import Derived.Test.YthdenbclfogojaaGreatDoorVa
import Derived.Shelf.RegionOpenPlain
import Derived.Lib.Walk
namespace Go.Proofs.YthdenbclfogojaaGreatDoor
open Go.RowKit Go.Shelf Go.Lib
set_option linter.unusedVariables false

theorem step_append_run {P : Program} {ops : Array Oper} {o : Oper} {a : Act} {w : World} {K : Act → World → Prop} {Q : Exit → Act → World → Prop} {E : Prop}
    (hg : o.guard = none) (d x : Operand) (dT sT : TypeId) (hop : o.op = Op.call { callee := Callee.builtin Builtin.append, args := #[d, x], argTypes := #[dT, sT] })
    (v u : Value) (hd : a.eval d = v) (hx : a.eval x = u) {v' : Value} {w' : World} (hr : (Builtin.append_ #[dT, sT] o.type #[v, u]).run P w = .ok v' w') (hK : K (a.put o.dst v') w') :
    if Region.wanted o (yielded ops a.tmps) = true then Oper.wp P o a w K Q else E := by
  have hw : Region.wanted o (yielded ops a.tmps) = true := by simp [Region.wanted, hg]
  rw [if_pos hw]
  unfold Oper.wp
  simp [execOp, hop, resolve, invoke, builtin, hd, hx, hr, Result.andThen]
  exact hK

/-- What add leaves. -/
structure Ad (n₀ : Nat) (w w' : World) (V G G' c' M : Nat) (L : List Tm) (t : Tm) : Prop where
  hV : w'.heap[V]? = some (.cells #[.slice (some ⟨G', 0, none⟩) (L.length + 1) c', .map (some M)] 112 (0, 0))
  hG : ∃ R, w'.heap[G']? = some (.cells (tl (L ++ [t]) ++ R).toArray 108 (0, 0)) ∧ (L.length + 1) * 5 + R.length = c' * 5 ∧ c' ≤ maxLen
  at' : G' = G ∨ w.heap.size ≤ G'
  chg : Chg (fun k => k = V ∨ k = G) w w'
set_option maxRecDepth 100000 in
set_option maxHeartbeats 1000000 in
theorem add_c (n₀ V G c M : Nat) (L : List Tm) (t : Tm) (w : World) (h : Va n₀ w V G c M L) (hl : L.length ≤ 1000000) :
    Calls Tryz.prog 36 #[.pointer (some ⟨V, 0, none⟩), tv t] w fun e w' => e = .returned (.int .i64 (L.length : Int)) ∧ ∃ G' c', Ad n₀ w w' V G G' c' M L t := by
  have hb2 : Below w.heap.size w ((w.alloc (.cells (tc t).toArray 108)).drew.alloc (.cells (tc t).toArray 108)) := ((bel1 w _).trans ((bel_drew _).mono (by simp))).alloc (by simp [World.drew]) _
  have hg2 : ((w.alloc (.cells (tc t).toArray 108)).drew.alloc (.cells (tc t).toArray 108)).heap[w.heap.size + 1]? = some (.cells (tc t).toArray 108 (0, 0)) := by
    have := heap_alloc_new (w.alloc (.cells (tc t).toArray 108)).drew (.cells (tc t).toArray 108)
    rwa [show (w.alloc (.cells (tc t).toArray 108)).drew.heap.size = w.heap.size + 1 from World.size_alloc _ _] at this
  have h2 := h.bel hb2
  obtain ⟨G', c', w3, hrun, hR, hat, hch⟩ := app_c h2 t hg2 hl
  have hG3 : G' = G ∨ w.heap.size ≤ G' := by
    rcases hat with e | e
    · exact .inl e
    · right; rw [e]; exact hb2.size
  have hGV : G' ≠ V := by
    rcases hG3 with e | e
    · rw [e]; exact h.vg.symm
    · have := h.lV; omega
  have hv3 : w3.heap[V]? = some (.cells #[.slice (some ⟨G, 0, none⟩) L.length c, .map (some M)] 112 (0, 0)) := (hch.2.2.2.2 V h2.lV h2.vg).trans h2.hV
  have HFIN : Aside (Ad n₀ w (w3.setCell ⟨V, 0, none⟩ (.slice (some ⟨G', 0, none⟩) (L.length + 1) c')) V G G' c' M L t) := by
    rw [setCell_eq_setRow w3 V 0 _ 112 (0, 0) _ hv3]
    refine ⟨?_, ?_, hG3, ?_⟩
    · rw [setRow_heap w3 V _ _ 112 (0, 0) hv3]; simp
    · obtain ⟨R, r1, r2⟩ := hR
      exact ⟨R, (setRow_other w3 V G' _ hGV).trans r1, r2⟩
    · refine ⟨hch.1.trans hb2.os, hch.2.1.trans hb2.tape, hch.2.2.1.trans hb2.output, ?_, fun k hk hx => ?_⟩
      · have := hb2.size; have := hch.2.2.2.1; simp; omega
      · rw [setRow_other w3 V k _ (fun e => hx (.inl e)), hch.2.2.2.2 k (by have := hb2.size; omega) (fun e => hx (.inr e))]
        exact hb2.block k hk
  have c1 : w.cell? ⟨V, 0, none⟩ = some (.slice (some ⟨G, 0, none⟩) L.length c) := h.cV0
  have lV := h.lV
  have c2 : w3.cell? ⟨V, 0, none⟩ = some (.slice (some ⟨G, 0, none⟩) L.length c) := by simp [World.cell?, hv3]
  have f2 : w3.frozen? ⟨V, 0, none⟩ = false := by simp [World.frozen?, hv3]
  clear hb2 hg2 h2 hR hat hch hv3 hG3 hGV h
  have hL1 : IntKind.i64.wrap ((L.length : Int) + 1 - 1) = (L.length : Int) := by rw [IntKind.wrap_i64]; omega
  generalize L.length = N at *
  show Calls Tryz.prog 36 #[.pointer (some ⟨V, 0, none⟩), .agg #[.int .i64 (t.kd : Int), .int .i64 (t.of' : Int), .int .i64 t.wi, .string t.un, .string t.by']] w _
  unfold tc at hrun
  generalize (t.kd : Int) = k1 at *
  generalize (t.of' : Int) = k2 at *
  generalize t.wi = k3 at *
  generalize t.un = k4 at *
  generalize t.by' = k5 at *
  have mixed : Tryz.prog.follows Departure.mixedOrders = true := by kernel_rfl
  go_enter Tryz.func36, Tryz.ntmps36
  go_wp2_with fail
  go_region_law_o (refine step_append_run rfl _ _ 109 109 rfl _ _ (by simp [Act.eval]) (by simp [Act.eval]) hrun ?_)
  all_goals go_wp2
  all_goals go_ret
  all_goals exact ⟨rfl, G', c', HFIN.out⟩

/-- A term that fits at a place. -/
def Fit (t : Tm) (i : Nat) : Prop := 0 < t.kd ∧ t.kd < 7 ∧ (2 ≤ t.kd → t.of' < i) ∧ (t.kd = 4 → 0 ≤ t.wi ∧ t.wi < (i : Int))
theorem good_push {L : List Tm} {t : Tm} (hg : ∀ (i : Nat) (t : Tm), L[i]? = some t → 0 < i → Fit t i) (ht : Fit t L.length) : ∀ (i : Nat) (s : Tm), (L ++ [t])[i]? = some s → 0 < i → Fit s i := by
  intro i s hi h0
  by_cases hl : i < L.length
  · exact hg i s (by rwa [List.getElem?_append_left hl] at hi) h0
  · have hl2 := (List.getElem?_eq_some_iff.1 hi).1
    simp at hl2
    obtain rfl : i = L.length := by omega
    simp at hi
    subst hi
    exact ht
/-- Behind add of a term that is made of nothing. -/
theorem Ad.fresh {n₀ V G c G' c' M : Nat} {w w' : World} {L : List Tm} {t : Tm} (h : Ad n₀ w w' V G G' c' M L t) (hv : Va n₀ w V G c M L) (ht : Fit t L.length) (hk : t.kd < 2) : Va n₀ w' V G' c' M (L ++ [t]) ∧ Vc V G M w w' := by
  obtain ⟨es, ck, hm, ho⟩ := hv.hM
  have hgm : G' ≠ M := by
    rcases h.at' with e | e
    · rw [e]; exact hv.gm
    · have := hv.lM; omega
  have hb : n₀ ≤ G' := by
    rcases h.at' with e | e
    · rw [e]; exact hv.bG
    · have := hv.lV; have := hv.bV; omega
  refine ⟨⟨by rw [List.length_append]; exact h.hV, by rw [List.length_append]; exact h.hG, ⟨es, ck, ?_, ho.fresh t hk⟩, hv.bV, hb, hv.bM, ?_, good_push hv.good ht⟩, ⟨h.chg.1, h.chg.2.1, h.chg.2.2.1, h.chg.2.2.2.1, fun k hk hx => h.chg.2.2.2.2 k hk (fun e => hx (e.elim .inl (fun e => .inr (.inl e))))⟩⟩
  · exact (h.chg.2.2.2.2 M hv.lM (by rintro (e | e); exact hv.vm e.symm; exact hv.gm e.symm)).trans hm
  · obtain ⟨r, hr⟩ := hv.root
    exact ⟨r ++ [t], by rw [hr]; rfl⟩
end Go.Proofs.YthdenbclfogojaaGreatDoor
