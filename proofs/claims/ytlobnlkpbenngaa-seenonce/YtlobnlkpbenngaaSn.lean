/- seen: a Seen as it lies; its small calls. -/
import Derived.Test.YtlobnlkpbenngaaNuA
import Derived.Deep.QuietTactic
import Derived.BigQuiet
namespace Go.Proofs.YtlobnlkpbenngaaR
open Go.RowKit Go.Shelf Go.Lib
open Go.Proofs.Ytlobnlkpbenngaa (eq43_some)
set_option linter.unusedVariables false

/-- The cells of a Seen: delay, came, forgotten, greatest, arrived, now, at. -/
structure Svs where
  d : Int
  f : Int
  g : Int
  a : Int
  n : Int
  t : Int
def Svs.cs (v : Svs) (M : Nat) : Array Value := #[.int .i64 v.d, .pointer (some ⟨M, 0, none⟩), .int .i64 v.f, .int .i64 v.g, .int .i64 v.a, .int .i64 v.n, .int .i64 v.t]
/-- A Seen in block s, its numbers in block M. -/
def Sc (w : World) (s M : Nat) (v : Svs) : Prop := w.heap[s]? = some (.cells (v.cs M) 43 (0, 0))
theorem Sc.lt {w : World} {s M : Nat} {v : Svs} (h : Sc w s M v) : s < w.heap.size := (Array.getElem?_eq_some_iff.1 h).1
theorem Sc.cells {w : World} {s M : Nat} {v : Svs} (h : Sc w s M v) : w.cell? ⟨s, 0, none⟩ = some (.int .i64 v.d) ∧ w.cell? ⟨s, 1, none⟩ = some (.pointer (some ⟨M, 0, none⟩)) ∧ w.cell? ⟨s, 2, none⟩ = some (.int .i64 v.f) ∧ w.cell? ⟨s, 3, none⟩ = some (.int .i64 v.g) ∧ w.cell? ⟨s, 4, none⟩ = some (.int .i64 v.a) ∧ w.cell? ⟨s, 5, none⟩ = some (.int .i64 v.n) ∧ w.cell? ⟨s, 6, none⟩ = some (.int .i64 v.t) := by
  have h' : w.heap[s]? = _ := h
  refine ⟨?_, ?_, ?_, ?_, ?_, ?_, ?_⟩ <;> simp [World.cell?, h', Svs.cs]
theorem Sc.frozen {w : World} {s M : Nat} {v : Svs} (h : Sc w s M v) (j : Nat) : w.frozen? ⟨s, j, none⟩ = false := by
  have h' : w.heap[s]? = _ := h
  simp [World.frozen?, h']
theorem Sc.below {w w' : World} {s M : Nat} {v : Svs} (h : Sc w s M v) (hb : Below w.heap.size w w') : Sc w' s M v := (hb.block s h.lt).trans h
theorem nut43 : ¬ NuT 43 := by unfold NuT; decide
theorem nut23 : ¬ NuT 23 := by unfold NuT; decide
theorem nut3 : ¬ NuT 3 := by unfold NuT; decide
theorem nut4 : ¬ NuT 4 := by unfold NuT; decide
theorem Sc.kp {n₀ : Nat} {w w' : World} {s M : Nat} {v : Svs} (h : Sc w s M v) (hk : Kp n₀ w w') : Sc w' s M v := hk.cells h nut43
/-- A field of a Seen is stored. -/
theorem Sc.set {w : World} {s M : Nat} {v : Svs} (h : Sc w s M v) (j : Nat) (x : Value) (v' : Svs) (he : (v.cs M).setIfInBounds j x = v'.cs M) : Sc (w.setCell ⟨s, j, none⟩ x) s M v' := by
  have h' : w.heap[s]? = some (.cells (v.cs M) 43 (0, 0)) := h
  show (w.setCell ⟨s, j, none⟩ x).heap[s]? = _
  rw [setCell_eq_setRow w s j _ 43 (0, 0) _ h', setRow_heap w s _ _ 43 (0, 0) h', he]

/-- What has turned is the Seen, is new, or is of its numbers. -/
def Ks (n₀ s : Nat) (w w' : World) : Prop := w'.os = w.os ∧ w'.tape = w.tape ∧ w'.output = w.output ∧ w.heap.size ≤ w'.heap.size ∧
  ∀ k, k < w.heap.size → k ≠ s → (k < n₀ ∨ ∃ o, w.heap[k]? = some o ∧ ∀ X t, o = .cells X t (0, 0) → ¬ NuT t) → w'.heap[k]? = w.heap[k]?
theorem Ks.refl (n₀ s : Nat) (w : World) : Ks n₀ s w w := ⟨rfl, rfl, rfl, Nat.le_refl _, fun _ _ _ _ => rfl⟩
theorem Ks.trans {n₀ s : Nat} {a b c : World} (h : Ks n₀ s a b) (k : Ks n₀ s b c) : Ks n₀ s a c :=
  ⟨k.1.trans h.1, k.2.1.trans h.2.1, k.2.2.1.trans h.2.2.1, Nat.le_trans h.2.2.2.1 k.2.2.2.1, fun j hj hs hx => by
    have e := h.2.2.2.2 j hj hs hx
    refine (k.2.2.2.2 j (Nat.lt_of_lt_of_le hj h.2.2.2.1) hs ?_).trans e
    rcases hx with hx | ⟨o, ho, hx⟩
    · exact .inl hx
    · exact .inr ⟨o, e.trans ho, hx⟩⟩
theorem Ks.kp {n₀ s : Nat} {a b : World} (h : Kp n₀ a b) : Ks n₀ s a b := ⟨h.1, h.2.1, h.2.2.1, h.2.2.2.1, fun k hk _ hx => h.2.2.2.2 k hk hx⟩
theorem Ks.below {n₀ s : Nat} {a b : World} (h : Below a.heap.size a b) : Ks n₀ s a b := Ks.kp (Kp.below h)
theorem Ks.set {n₀ s : Nat} {a : World} {Y : Array Value} {t : TypeId} (h : a.heap[s]? = some (.cells Y t (0, 0))) (j : Nat) (x : Value) : Ks n₀ s a (a.setCell ⟨s, j, none⟩ x) := by
  rw [setCell_eq_setRow a s j _ t (0, 0) _ h]
  exact ⟨rfl, rfl, rfl, by simp, fun k hk hs _ => setRow_other a s k _ hs⟩
theorem Ks.cells {n₀ s : Nat} {a b : World} (h : Ks n₀ s a b) {k : Nat} {X : Array Value} {t : TypeId} (hk : a.heap[k]? = some (.cells X t (0, 0))) (hs : k ≠ s) (ht : ¬ NuT t) : b.heap[k]? = some (.cells X t (0, 0)) :=
  (h.2.2.2.2 k (Array.getElem?_eq_some_iff.1 hk).1 hs (.inr ⟨_, hk, fun Y u e => by cases e; exact ht⟩)).trans hk
theorem Ks.toBelow {n₀ s : Nat} {a b : World} (h : Ks n₀ s a b) (hn : n₀ ≤ a.heap.size) (hs : n₀ ≤ s) : Below n₀ a b := ⟨h.1, h.2.1, h.2.2.1, h.2.2.2.1, fun k hk => h.2.2.2.2 k (by omega) (by omega) (.inl hk)⟩
/-- A store into the Seen leaves its numbers. -/
theorem Nu.store {n₀ : Nat} {w : World} {M G c s N : Nat} {Q : List Pt} {v : Svs} (h : Nu n₀ w M G c Q) (hs : Sc w s N v) (j : Nat) (x : Value) : Nu n₀ (w.setCell ⟨s, j, none⟩ x) M G c Q := by
  have hs' : w.heap[s]? = some (.cells (v.cs N) 43 (0, 0)) := hs
  rw [setCell_eq_setRow w s j _ 43 (0, 0) _ hs']
  have hc : Chg (fun k => k = s) w (w.setRow s ((v.cs N).setIfInBounds j x)) := (Chg.refl _ w).set s _ (.inl rfl)
  obtain ⟨R, hA, hR⟩ := h.row
  refine h.chg hc ?_ ?_ (fun a ha => ?_)
  · intro e; have := h.head; rw [e, hs'] at this; simp at this
  · intro e; rw [e] at hA; have := hs'.symm.trans hA; simp at this
  · obtain ⟨⟨Y, hY⟩, hr⟩ := (h.sets a ha).row
    refine ⟨fun e => ?_, fun g hg e => ?_⟩
    · rw [e, hs'] at hY; simp at hY
    · obtain ⟨Z, hZ⟩ := hr g hg
      rw [e, hs'] at hZ; simp at hZ

set_option maxRecDepth 100000 in
theorem none_sc (s M : Nat) (v : Svs) (w : World) (h : Sc w s M v) : Calls Try.prog 28 #[.pointer (some ⟨s, 0, none⟩)] w fun e w' => e = .returned (.bool false) ∧ w' = w := by
  obtain ⟨c0, c1, c2, c3, c4, c5, c6⟩ := h.cells
  have hq := fun w => eq43_some v.d v.f v.g v.a v.n v.t ⟨M, 0, none⟩ w
  go_enter Try.func28, Try.ntmps28
  go_wp2
  go_ret
  exact ⟨rfl, rfl⟩

set_option maxRecDepth 100000 in
theorem time_c (n : Int) (w : World) : Calls Try.prog 20 #[.int .i64 n] w fun e w' => e = .returned (.bool (decide (0 ≤ n ∧ n ≤ 1125899906842624))) ∧ w' = w := by
  by_cases h1 : 0 ≤ n
  · by_cases h2 : n ≤ 1125899906842624
    · rw [decide_eq_true (And.intro h1 h2)]
      go_enter Try.func20, Try.ntmps20
      go_wp2
      go_ret
      exact ⟨rfl, rfl⟩
    · rw [decide_eq_false (by omega)]
      go_enter Try.func20, Try.ntmps20
      go_wp2
      go_ret
      exact ⟨rfl, rfl⟩
  · rw [decide_eq_false (by omega)]
    go_enter Try.func20, Try.ntmps20
    go_wp2
    go_ret
    exact ⟨rfl, rfl⟩

set_option maxRecDepth 100000 in
/-- wrong: nothing is. -/
theorem wrong_sc (s M : Nat) (v : Svs) (n t : Int) (w : World) (h : Sc w s M v) (h0 : 0 ≤ n) (h1 : n ≤ 4611686018427387903) (h2 : 0 ≤ t) (h3 : t ≤ 1125899906842624) (h4 : v.n ≤ t) : Calls Try.prog 22 #[.pointer (some ⟨s, 0, none⟩), .int .i64 n, .int .i64 t] w fun e w' => e = .returned (.int .i64 0) ∧ w' = w := by
  have hn := none_sc s M v w h
  have ht := time_c t w
  rw [decide_eq_true (And.intro h2 h3)] at ht
  obtain ⟨c0, c1, c2, c3, c4, c5, c6⟩ := h.cells
  clear h
  go_enter Try.func22, Try.ntmps22
  go_wp2_with fail
  refine hn.mono ?_
  rintro e w' ⟨rfl, hw⟩
  subst w'
  go_wp2_with fail
  refine ht.mono ?_
  rintro e w' ⟨rfl, hw⟩
  subst w'
  go_wp2
  go_ret
  exact ⟨rfl, rfl⟩

set_option maxRecDepth 100000 in
theorem due_sc (s M : Nat) (v : Svs) (w : World) (h : Sc w s M v) : Calls Try.prog 17 #[.pointer (some ⟨s, 0, none⟩)] w fun e w' => e = .returned (.tuple #[.int .i64 (if v.t = -1 then 0 else v.t), .bool (decide (v.t ≠ -1))]) ∧ w' = w := by
  have hn := none_sc s M v w h
  obtain ⟨c0, c1, c2, c3, c4, c5, c6⟩ := h.cells
  clear h
  by_cases ht : v.t = -1
  · rw [ht] at c6
    rw [if_pos ht, decide_eq_false (by simpa using ht)]
    clear ht
    go_enter Try.func17, Try.ntmps17
    go_wp2_with fail
    refine hn.mono ?_
    rintro e w' ⟨rfl, hw⟩
    subst w'
    go_wp2
    go_ret2
    exact ⟨rfl, rfl⟩
  · rw [if_neg ht, decide_eq_true ht]
    go_enter Try.func17, Try.ntmps17
    go_wp2_with fail
    refine hn.mono ?_
    rintro e w' ⟨rfl, hw⟩
    subst w'
    go_wp2
    go_ret2
    exact ⟨rfl, rfl⟩

set_option maxRecDepth 100000 in
theorem sent_sc (n₀ s M : Nat) (v : Svs) (t : Int) (w : World) (h : Sc w s M v) : Calls Try.prog 12 #[.pointer (some ⟨s, 0, none⟩), .int .i64 t] w fun e w' => (∃ x, e = .returned (.int .i64 x)) ∧ Sc w' s M { v with t := -1 } ∧ w' = w.setCell ⟨s, 6, none⟩ (.int .i64 (-1)) := by
  have hn := none_sc s M v w h
  have hf := h.frozen 6
  have hc := h.cells
  have h2 := h.set 6 (.int .i64 (-1)) { v with t := -1 } rfl
  have c6 := hc.2.2.2.2.2.2
  obtain ⟨d0, d1, d2, d3, d4, d5, d6⟩ := h2.cells
  have H2 : Aside _ := h2
  clear hc h h2
  dsimp only at *
  by_cases h1 : v.g < 0
  · go_enter Try.func12, Try.ntmps12
    go_wp2_with fail
    refine hn.mono ?_
    rintro e w' ⟨rfl, hw⟩
    subst w'
    go_wp2
    go_ret
    exact ⟨⟨_, rfl⟩, H2.out, rfl⟩
  · by_cases h3 : t < v.a
    · go_enter Try.func12, Try.ntmps12
      go_wp2_with fail
      refine hn.mono ?_
      rintro e w' ⟨rfl, hw⟩
      subst w'
      go_wp2
      go_ret
      exact ⟨⟨_, rfl⟩, H2.out, rfl⟩
    · go_enter Try.func12, Try.ntmps12
      go_wp2_with fail
      refine hn.mono ?_
      rintro e w' ⟨rfl, hw⟩
      subst w'
      go_wp2
      go_ret
      exact ⟨⟨_, rfl⟩, H2.out, rfl⟩
end Go.Proofs.YtlobnlkpbenngaaR
