/- stands: what its walk carries. -/
import Derived.Test.YtgmhlmficnkhgaaRef4
import Derived.Deep.RegionHeld3
namespace Go.Proofs.Ytgmhlmficnkhgaa
open Go.RowKit Go.Shelf Go.Lib
set_option linter.unusedVariables false

attribute [local go_sem] Oper.semAt_some

/-- The call's own blocks: the reference's box, the answer's cell, the iterator's box. -/
structure Sd (W : World) (S r Bn : Nat) (X : World) : Prop where
  bel : Below W.heap.size W X
  rb : X.heap[W.heap.size]? = some (.cells #[.pointer (some ⟨r, 0, none⟩)] 25 (0, 0))
  ra : X.heap[W.heap.size + 1]? = some (.cells #[.bool false] 4 (0, 0))
  bn : X.heap[Bn]? = some (.cells #[.pointer (some ⟨S, 0, none⟩)] 23 (0, 0))
section
variable {W : World} {S r Bn : Nat} {X X' : World}
theorem Sd.chg {P : Nat → Prop} (h : Sd W S r Bn X) (hc : Chg P X X') (hP : ∀ k, P k → W.heap.size + 2 ≤ k ∧ k ≠ Bn) : Sd W S r Bn X' :=
  ⟨h.bel.trans ⟨hc.1, hc.2.1, hc.2.2.1, hc.2.2.2.1, fun k hk => hc.2.2.2.2 k (Nat.lt_of_lt_of_le hk h.bel.size) (fun e => by have := (hP k e).1; omega)⟩,
   (hc.2.2.2.2 _ (Array.getElem?_eq_some_iff.1 h.rb).1 (fun e => by have := (hP _ e).1; omega)).trans h.rb,
   (hc.2.2.2.2 _ (Array.getElem?_eq_some_iff.1 h.ra).1 (fun e => by have := (hP _ e).1; omega)).trans h.ra,
   (hc.2.2.2.2 _ (Array.getElem?_eq_some_iff.1 h.bn).1 (fun e => (hP _ e).2 rfl)).trans h.bn⟩
theorem Sd.below (h : Sd W S r Bn X) (hb : Below X.heap.size X X') : Sd W S r Bn X' := h.chg (P := fun _ => False) (Chg.below hb) (fun _ h => h.elim)
theorem Sd.size (h : Sd W S r Bn X) : W.heap.size + 2 ≤ X.heap.size := (Array.getElem?_eq_some_iff.1 h.ra).1
end
/-- What stands between two rounds of a loop over the set's spans. -/
def StI (X0 : World) (Ib : Nat) (L pre : List (Int × Int)) (W : World) : Prop := pre <+: L ∧ W.heap[Ib]? = some (.cells #[.int .i64 pre.length] 3 (0, 0)) ∧ Chg (fun k => k = Ib) X0 W
theorem StI_own (X0 : World) (Ib : Nat) (L : List (Int × Int)) (n : Nat) (hn : X0.heap.size ≤ n) : OwnFrom n (StI X0 Ib L) := by
  rintro s A B row ⟨h1, h2, h3⟩ hg hr
  exact ⟨h1, kept_cells h2 hg hr, chg_kept h3 hn hg hr⟩
/-- How a round may be left early. -/
def StX (X0 : World) (Ib : Nat) (L : List (Int × Int)) (id : Nat) (c : Code) (pre : List (Int × Int)) (W : World) : Prop := ¬ pre <+: L ∨ (c = .exit id ∧ Chg (fun k => k = Ib) X0 W)
theorem StX_own (X0 : World) (Ib : Nat) (L : List (Int × Int)) (id : Nat) (c : Code) (n : Nat) (hn : X0.heap.size ≤ n) : OwnFrom n (StX X0 Ib L id c) := by
  rintro s A B row (h | ⟨h1, h2⟩) hg hr
  · exact .inl h
  · exact .inr ⟨h1, chg_kept h2 hn hg hr⟩
theorem sta_body {X0 W : World} {Ib : Nat} {L pre : List (Int × Int)} {x : Int × Int} (hI : W.heap[Ib]? = some (.cells #[.int .i64 pre.length] 3 (0, 0))) (hc : Chg (fun k => k = Ib) X0 W) (hp : pre ++ [x] <+: L) (n₀ : Nat) :
    KeepsFrom n₀ W (W.drew.setCell ⟨Ib, 0, none⟩ (.int .i64 ((pre.length : Int) + 1))) ∧ Kq (fun k => k = Ib) ⟨Ib, 0, none⟩ W (W.drew.setCell ⟨Ib, 0, none⟩ (.int .i64 ((pre.length : Int) + 1))) ∧
      StI X0 Ib L (pre ++ [x]) (W.drew.setCell ⟨Ib, 0, none⟩ (.int .i64 ((pre.length : Int) + 1))) ∧ (W.drew.setCell ⟨Ib, 0, none⟩ (.int .i64 ((pre.length : Int) + 1))).cell? ⟨Ib, 0, none⟩ = some (.int .i64 ((pre.length : Int) + 1)) := by
  have hI' : W.drew.heap[Ib]? = some (.cells #[.int .i64 pre.length] 3 (0, 0)) := hI
  rw [setCell_eq_setRow W.drew Ib 0 _ 3 (0, 0) _ hI']
  have hrest : ∀ k, k ≠ Ib → (W.drew.setRow Ib (#[Value.int .i64 pre.length].setIfInBounds 0 (.int .i64 ((pre.length : Int) + 1)))).heap[k]? = W.heap[k]? := fun k h1 => setRow_other _ Ib k _ h1
  have hIn : (W.drew.setRow Ib (#[Value.int .i64 pre.length].setIfInBounds 0 (.int .i64 ((pre.length : Int) + 1)))).heap[Ib]? = some (.cells #[.int .i64 ((pre.length : Int) + 1)] 3 (0, 0)) := by
    rw [setRow_heap _ Ib _ _ 3 (0, 0) hI']; simp
  refine ⟨keeps_set_drew hI _ _, ⟨by simp, fun k A t hk hx _ => hrest k hx, fun k n c hk e => ?_⟩, ⟨hp, ?_, ?_⟩, ?_⟩
  · unfold World.cell? at e
    rw [hIn] at e
    simp at e
  · rw [hIn]; simp
  · exact ⟨hc.1, hc.2.1, hc.2.2.1, by simpa using hc.2.2.2.1, fun k hk hx => (hrest k hx).trans (hc.2.2.2.2 k hk hx)⟩
  · unfold World.cell?
    rw [hIn]
    simp
theorem wp_inBlock_after {P : Program} {c : Code} {id : Nat} {Q : Exit → Act → World → Prop} {a : Act} {w : World} (A : Act → World → Prop) (h1 : c.wp P (fun e a' w' => (e = .normal ∨ e = .exit id) ∧ A a' w') a w) (h2 : ∀ a' w', A a' w' → Q .normal a' w') : c.wp P (Exit.inBlock id Q) a w := by
  refine Code.wp_mono (fun e a w h => ?_) h1
  obtain ⟨rfl | rfl, hA⟩ := h
  · exact h2 a w hA
  · simp only [Exit.inBlock, if_true]
    exact h2 a w hA
theorem Sd.ends {W Y : World} {S r Bn D1 D2 : Nat} (h : Sd W S r Bn Y) (k1 : Y.heap[D1]? = some (.deferred (some []))) (k2 : Y.heap[D2]? = some (.deferred (some []))) (h12 : D1 ≠ D2) (h1 : W.heap.size + 2 ≤ D1) (h2 : W.heap.size + 2 ≤ D2) :
    (Y.setCell ⟨W.heap.size + 1, 0, none⟩ (.bool true)).heap[D2]? = some (.deferred (some [])) ∧ ((Y.setCell ⟨W.heap.size + 1, 0, none⟩ (.bool true)).putObj D2 (.deferred none)).heap[D1]? = some (.deferred (some [])) ∧
    (((Y.setCell ⟨W.heap.size + 1, 0, none⟩ (.bool true)).putObj D2 (.deferred none)).putObj D1 (.deferred none)).cell? ⟨W.heap.size + 1, 0, none⟩ = some (.bool true) ∧
    Below W.heap.size W (((Y.setCell ⟨W.heap.size + 1, 0, none⟩ (.bool true)).putObj D2 (.deferred none)).putObj D1 (.deferred none)) := by
  have e := setCell_eq_setRow Y (W.heap.size + 1) 0 _ 4 (0, 0) (.bool true) h.ra
  have eo : ∀ k, k ≠ W.heap.size + 1 → (Y.setCell ⟨W.heap.size + 1, 0, none⟩ (.bool true)).heap[k]? = Y.heap[k]? := fun k hk => by rw [e]; exact setRow_other Y _ k _ hk
  have ec : (Y.setCell ⟨W.heap.size + 1, 0, none⟩ (.bool true)).cell? ⟨W.heap.size + 1, 0, none⟩ = some (.bool true) := by
    rw [e]
    unfold World.cell?
    rw [setRow_heap Y _ _ _ 4 (0, 0) h.ra]
    simp
  have eb : Below W.heap.size W (Y.setCell ⟨W.heap.size + 1, 0, none⟩ (.bool true)) := by
    rw [e]
    exact h.bel.trans ⟨rfl, rfl, rfl, by simp, fun k hk => setRow_other Y _ k _ (by omega)⟩
  have q2 := (eo D2 (by omega)).trans k2
  have q1 : ((Y.setCell ⟨W.heap.size + 1, 0, none⟩ (.bool true)).putObj D2 (.deferred none)).heap[D1]? = some (.deferred (some [])) := (World.putObj_heap_other (by omega)).trans ((eo D1 (by omega)).trans k1)
  refine ⟨q2, q1, ?_, ?_⟩
  · rw [cell?_putObj_other _ (by show W.heap.size + 1 ≠ D1; omega), cell?_putObj_other _ (by show W.heap.size + 1 ≠ D2; omega)]
    exact ec
  · exact (eb.trans (belowK_b (w := W) (Nat.le_refl _) _ D2 _ _ (by omega) q2 rfl rfl)).trans (belowK_b (w := W) (Nat.le_refl _) _ D1 _ _ (by omega) q1 rfl rfl)
theorem results_cell15 (tmps : Array Value) (w : World) (g : Nat) (v : Bool) (hp : tmps.getD 6 undef = .pointer (some ⟨g, 0, none⟩)) (hc : w.cell? ⟨g, 0, none⟩ = some (.bool v)) : (results Try.f15 tmps).run Try.prog w = .ok (.bool v) w := by
  have hp' : tmps[6]?.getD undef = .pointer (some ⟨g, 0, none⟩) := by simpa using hp
  have hl : (loadVar 4 ⟨g, 0, none⟩).run Try.prog w = .ok (.bool v) w := by simp [go_sem, hc]
  simp [results, hp', asAddr, hl]
end Go.Proofs.Ytgmhlmficnkhgaa
