/- ledger: Passed, Acked. -/
import Derived.Test.YtkjcapmhjhnckaaAk
namespace Go.Proofs.Ytkjcapmhjhnckaa
open Go.RowKit Go.Maps Go.Shelf
set_option linter.unusedVariables false
set_option maxRecDepth 100000

/-- A call that was refused. -/
def No1 (W : World) (A : Ad) (L : Ls) (x : Int) (r : Ending) (w' : World) : Prop := r = .returned (.tuple #[res0, .int .i64 x]) ∧ Lg w' A L ∧ Stp A A W w'
/-- A call that was taken: those that arrived, those that are lost, the sample, the spread; the ledger behind it. -/
def Yes1 (W : World) (A : Ad) (ps qs : List Pk) (sa sd : Int) (L' : Ls) (r : Ending) (w' : World) : Prop :=
  ∃ A' o c o' c', r = .returned (.tuple #[.agg (rv o ps.length c o' qs.length c' sa sd), .int .i64 0]) ∧ A'.m = A.m ∧ Lg w' A' L' ∧ Stp A A' W w' ∧ Pr w' o c ps ∧ Pr w' o' c' qs ∧ (∀ j, Blk o j → W.heap.size ≤ j) ∧ (∀ j, Blk o' j → W.heap.size ≤ j) ∧ ∀ j, Blk o j → ¬ Blk o' j
theorem res0_rv : res0 = .agg (rv none 0 0 none 0 0 0 0) := rfl
theorem wrg_zero {L : Ls} {now late : Int} {b : Bool} (h : wrg L now late b = 0) : (0 ≤ now ∧ now ≤ 1125899906842624) ∧ (0 ≤ late ∧ late ≤ 1125899906842624) ∧ b = true ∧ L.t ≤ now := by
  unfold wrg at h
  split at h
  · omega
  · rename_i h1
    have h2 : 0 ≤ now ∧ now ≤ 1125899906842624 := Classical.byContradiction fun h => h1 (.inl h)
    have h3 : 0 ≤ late ∧ late ≤ 1125899906842624 := Classical.byContradiction fun h => h1 (.inr (.inl h))
    have h4 : b = true := by cases b with
      | true => rfl
      | false => exact absurd (.inr (.inr rfl)) h1
    split at h
    · omega
    · exact ⟨h2, h3, h4, by omega⟩
/-- A cell of a result set. -/
theorem rv_store {W : World} {g : Nat} {cs : Array Value} (hg : W.heap[g]? = some (.cells cs 40 (0, 0))) (j : Nat) (v : Value) : (W.setCell ⟨g, j, none⟩ v).heap[g]? = some (.cells (cs.setIfInBounds j v) 40 (0, 0)) ∧ Chg (fun k => k = g) W (W.setCell ⟨g, j, none⟩ v) := by
  rw [setCell_eq_setRow W g j _ 40 (0, 0) _ hg]
  exact ⟨setRow_heap W g _ _ 40 (0, 0) hg, Chg.setRow g _ rfl⟩
set_option maxHeartbeats 1000000 in
theorem passed_c {W : World} {A : Ad} {L : Ls} {M : Nat} (h : Lg W A L) (ho : L.ok M) (now late : Int) :
    Calls Try.prog 15 #[.pointer (some ⟨A.b, 0, none⟩), .int .i64 now, .int .i64 late] W fun r w' => (wrg L now late true ≠ 0 → No1 W A L (wrg L now late true) r w') ∧ (wrg L now late true = 0 → Yes1 W A [] (L.lost now late) (-1) (L.spread now late) (L.pass now late) r w') := by
  have hb0 := bel1 W (.cells #[.slice none 0 0, .slice none 0 0, .int .i64 0, .int .i64 0] 40)
  have hx0 := heap_alloc_new W (.cells #[.slice none 0 0, .slice none 0 0, .int .i64 0, .int .i64 0] 40)
  have h1 := h.bel hb0
  have hwr := wrong_c h1 now late true
  have HLT : Aside (∀ k, A.own k → k < W.heap.size) := fun k hk => h.lt hk
  obtain ⟨E, hE⟩ : ∃ E, wrg L now late true = E := ⟨_, rfl⟩
  rw [hE] at hwr ⊢
  by_cases hE0 : E = 0
  · subst hE0
    obtain ⟨⟨t0, t1⟩, ⟨l0, l1⟩, _, _⟩ := wrg_zero hE
    have hpa := pass_c h1 ho.fit ho.z ho.c now late t0 t1 l0 l1
    have HE : Aside (∀ (W4 : World) (A' : Ad) (o : Option Addr) (c : Nat), A'.m = A.m → Lg W4 A' (L.pass now late) → Stp A A' (W.alloc (.cells #[.slice none 0 0, .slice none 0 0, .int .i64 0, .int .i64 0] 40)) W4 → Pr W4 o c (L.lost now late) → (∀ j, Blk o j → (W.alloc (.cells #[.slice none 0 0, .slice none 0 0, .int .i64 0, .int .i64 0] 40)).heap.size ≤ j) →
        Yes1 W A [] (L.lost now late) (-1) (L.spread now late) (L.pass now late) (.returned (.tuple #[.agg (rv none 0 0 o (L.lost now late).length c (-1) (L.spread now late)), .int .i64 0])) (W4.setRow W.heap.size (rv none 0 0 o (L.lost now late).length c (-1) (L.spread now late)))) := by
      intro W4 A' o c hm hl hs hp hn
      have hx4 := (hs.keep hx0 (fun hq => by have := HLT.out _ hq; omega))
      have hc5 : Chg (fun j => j = W.heap.size) W4 (W4.setRow W.heap.size (rv none 0 0 o (L.lost now late).length c (-1) (L.spread now late))) := Chg.setRow _ _ rfl
      have hSt := (Stp.of_below (A := A) hb0).trans hs
      refine ⟨A', none, 0, o, c, rfl, hm, hl.chg hc5 (fun k hk e => hx4.2 (e ▸ hk)), ⟨hSt.b, hSt.chg.andThen hc5 (fun j hj e => by omega), hSt.own⟩, Pr.nil _, Rw.chg hp hc5 (fun j hj e => ?_), fun j hj => hj.no.elim, fun j hj => Nat.le_trans hb0.size (hn j hj), fun j hj => hj.no.elim⟩
      obtain ⟨Z, hz⟩ := Rw.ty hp hj
      rw [e, hx4.1] at hz
      simp at hz
    have HX : Aside (∀ (W4 : World) (A' : Ad), Stp A A' (W.alloc (.cells #[.slice none 0 0, .slice none 0 0, .int .i64 0, .int .i64 0] 40)) W4 → W4.heap[W.heap.size]? = some (.cells #[.slice none 0 0, .slice none 0 0, .int .i64 0, .int .i64 0] 40 (0, 0))) := fun W4 A' hs => (hs.keep hx0 (fun hq => by have := HLT.out _ hq; omega)).1
    clear h h1 ho hE hb0 hx0
    generalize Yes1 W A [] (L.lost now late) (-1) (L.spread now late) (L.pass now late) = RR at *
    go_enter Try.func15, Try.ntmps15
    go_wp2_with fail
    refine hwr.mono ?_
    rintro e u ⟨rfl, hu⟩
    subst u
    clear hwr
    go_wp2_with fail
    refine hpa.mono ?_
    rintro e W4 ⟨A', o, c, rfl, hm, hl, hs, hp, hn⟩
    have hE4 := HE.out W4 A' o c hm hl hs hp hn
    have hx4 := HX.out W4 A' hs
    have HE4 : Aside _ := hE4
    clear hE4 hl hs hp hn HE HX hpa hm
    generalize (L.lost now late).length = nl at *
    generalize L.spread now late = sd at *
    go_wp2_with (refine wpList_store_row rfl 40 _ _ rfl W.heap.size (rv none 0 0 o nl c (-1) sd) rfl rfl 40 _ hx4 (by kernel_rfl) rfl (rv_one _ _ _ _ _ _ _ _) ?_)
    refine bodyPost_ret (results_ct (fn := Try.f15) (p := 6) (u := 7) rfl _ _ W.heap.size 40 _ (0, 0) _ rfl (setRow_heap _ W.heap.size _ (rv none 0 0 o nl c (-1) sd) 40 (0, 0) hx4) Try.underlying40 rfl (by kernel_rfl)) rfl ?_
    exact ⟨fun h => absurd rfl h, fun _ => HE4.out⟩
  · have HN : Aside (No1 W A L E (.returned (.tuple #[res0, .int .i64 E])) (W.alloc (.cells #[.slice none 0 0, .slice none 0 0, .int .i64 0, .int .i64 0] 40))) := ⟨rfl, h1, Stp.of_below hb0⟩
    generalize No1 W A L E = RR at *
    clear h h1 ho hE hb0
    go_enter Try.func15, Try.ntmps15
    go_wp2_with fail
    refine hwr.mono ?_
    rintro e u ⟨rfl, hu⟩
    subst u
    clear hwr
    go_wp2
    refine bodyPost_ret (results_ct (fn := Try.f15) (p := 6) (u := 7) rfl _ _ W.heap.size 40 _ (0, 0) _ rfl hx0 Try.underlying40 rfl (by kernel_rfl)) rfl ?_
    exact ⟨fun _ => HN.out, fun h => absurd h hE0⟩
end Go.Proofs.Ytkjcapmhjhnckaa
