/- Rows as they lie, anywhere in a block: append, store, slicing. -/
import Derived.Test.YtfejhlfcabbkcaaDoorRx
import Derived.Deep.AppendSrc
import Derived.Laws.CopyRow
import Derived.Lib.SliceRun
namespace Go.Proofs.YtfejhlfcabbkcaaDoor
open Go.RowKit
set_option linter.unusedVariables false
set_option maxRecDepth 100000

theorem Chg.alloc {X : Nat → Prop} {a b : World} (h : Chg X a b) (o : Obj) : Chg X a (b.alloc o) := h.below (bel1 b o)
theorem Chg.setRow {X : Nat → Prop} {a : World} (g : Nat) (cs : Array Value) (hg : X g) : Chg X a (a.setRow g cs) :=
  ⟨rfl, rfl, rfl, by simp, fun k _ hk => setRow_other a g k _ (fun e => hk (e ▸ hg))⟩
/-- A slice of n elements of k cells each, which hold xs; its row is made by Go, anywhere in a block. -/
def Rw (e : TypeId) (k : Nat) (W : World) (o : Option Addr) (n c : Nat) (xs : List Value) : Prop :=
  xs.length = n * k ∧ ((o = none ∧ n = 0 ∧ c = 0) ∨ ∃ g off X, o = some ⟨g, off, none⟩ ∧ W.heap[g]? = some (.cells X e (0, 0)) ∧ off + c * k ≤ X.size ∧ n ≤ c ∧ c ≤ maxLen ∧ ∀ j v, xs[j]? = some v → X[off + j]? = some v)
/-- The blocks of a slice. -/
def Blk (o : Option Addr) (j : Nat) : Prop := ∃ a : Addr, o = some a ∧ a.block = j
theorem Blk.mk (g off : Nat) (s : Option _) : Blk (some ⟨g, off, s⟩) g := ⟨_, rfl, rfl⟩
theorem Blk.of {g off j : Nat} {s : Option _} (h : Blk (some ⟨g, off, s⟩) j) : j = g := by
  obtain ⟨a, h, rfl⟩ := h
  injection h with h
  rw [← h]
theorem Blk.no {j : Nat} (h : Blk none j) : False := by
  obtain ⟨a, h, _⟩ := h
  cases h

section
variable {e : TypeId} {k : Nat} {w w' : World} {o : Option Addr} {n c : Nat} {xs : List Value}
theorem Rw.nil (e : TypeId) (k : Nat) (w : World) : Rw e k w none 0 0 [] := ⟨by simp, .inl ⟨rfl, rfl, rfl⟩⟩
theorem Rw.lt (h : Rw e k w o n c xs) {j : Nat} (hj : Blk o j) : j < w.heap.size := by
  obtain ⟨_, ⟨rfl, _⟩ | ⟨g, off, X, rfl, hg, _⟩⟩ := h
  · exact hj.no.elim
  · rw [hj.of]; exact (Array.getElem?_eq_some_iff.1 hg).1
theorem Rw.ty (h : Rw e k w o n c xs) {j : Nat} (hj : Blk o j) : ∃ X, w.heap[j]? = some (.cells X e (0, 0)) := by
  obtain ⟨_, ⟨rfl, _⟩ | ⟨g, off, X, rfl, hg, _⟩⟩ := h
  · exact hj.no.elim
  · rw [hj.of]; exact ⟨X, hg⟩
theorem Rw.keep (h : Rw e k w o n c xs) (hk : ∀ j, Blk o j → w'.heap[j]? = w.heap[j]?) : Rw e k w' o n c xs := by
  obtain ⟨h0, h1 | ⟨g, off, X, rfl, hg, h2⟩⟩ := h
  · exact ⟨h0, .inl h1⟩
  · exact ⟨h0, .inr ⟨g, off, X, rfl, (hk g (Blk.mk _ _ _)).trans hg, h2⟩⟩
theorem Rw.chg (h : Rw e k w o n c xs) {Y : Nat → Prop} (hc : Chg Y w w') (hy : ∀ j, Blk o j → ¬ Y j) : Rw e k w' o n c xs :=
  h.keep fun j hj => hc.2.2.2.2 j (h.lt hj) (hy j hj)
theorem Rw.bel (h : Rw e k w o n c xs) (hb : Below w.heap.size w w') : Rw e k w' o n c xs := h.keep fun j hj => hb.block j (h.lt hj)
theorem Rw.cap (h : Rw e k w o n c xs) : n ≤ c ∧ c ≤ maxLen := by
  obtain ⟨h0, ⟨_, rfl, rfl⟩ | ⟨g, off, X, rfl, hg, h2, h3, h4, _⟩⟩ := h
  · exact ⟨Nat.le_refl _, Nat.zero_le _⟩
  · exact ⟨h3, h4⟩
theorem Rw.cell (h : Rw e k w o n c xs) {j : Nat} {v : Value} (hj : xs[j]? = some v) : ∃ g off, o = some ⟨g, off, none⟩ ∧ w.cell? ⟨g, off + j, none⟩ = some v ∧ w.frozen? ⟨g, off + j, none⟩ = false := by
  obtain ⟨h0, ⟨_, rfl, rfl⟩ | ⟨g, off, X, rfl, hg, h2, h3, h4, h5⟩⟩ := h
  · simp at h0; subst h0; simp at hj
  · refine ⟨g, off, rfl, ?_, by simp [World.frozen?, hg]⟩
    simp only [World.cell?, hg]
    exact h5 j v hj
/-- A row that the call made just now. -/
theorem Rw.new (w : World) (e : TypeId) (k n : Nat) (xs : List Value) (h : xs.length = n * k) (hn : n ≤ maxLen) : Rw e k (w.alloc (.cells xs.toArray e)) (some ⟨w.heap.size, 0, none⟩) n n xs :=
  ⟨h, .inr ⟨_, 0, _, rfl, heap_alloc_new w _, by simp [h], Nat.le_refl _, hn, fun j v hj => by simpa using hj⟩⟩
/-- Slicing from f on. -/
theorem Rw.sub {g off : Nat} (h : Rw e k w (some ⟨g, off, none⟩) n c xs) (f : Nat) (hf : f ≤ n) : Rw e k w (some ⟨g, off + f * k, none⟩) (n - f) (c - f) (xs.drop (f * k)) := by
  obtain ⟨h0, ⟨h, _⟩ | ⟨g', off', X, e1, hg, h2, h3, h4, h5⟩⟩ := h
  · cases h
  · injection e1 with e1
    injection e1 with e1 e2
    subst e1 e2
    have e3 : (n - f) * k + f * k = n * k := by rw [← Nat.add_mul]; congr 1; omega
    have e4 : (c - f) * k + f * k = c * k := by rw [← Nat.add_mul]; congr 1; omega
    refine ⟨by rw [List.length_drop, h0]; omega, .inr ⟨g, _, X, rfl, hg, by omega, by omega, by omega, fun j v hj => ?_⟩⟩
    rw [List.getElem?_drop] at hj
    have := h5 _ v hj
    rwa [Nat.add_assoc]
theorem over_get {X news : List Value} {p : Nat} (hp : p + news.length ≤ X.length) (j : Nat) : (X.take p ++ news ++ X.drop (p + news.length))[j]? = if j < p then X[j]? else if j < p + news.length then news[j - p]? else X[j]? := by
  have hl : (X.take p).length = p := by rw [List.length_take]; omega
  rw [List.append_assoc]
  by_cases h1 : j < p
  · rw [if_pos h1, List.getElem?_append_left (by omega), List.getElem?_take_of_lt h1]
  · rw [if_neg h1, List.getElem?_append_right (by omega), hl]
    by_cases h2 : j < p + news.length
    · rw [if_pos h2, List.getElem?_append_left (by omega)]
    · rw [if_neg h2, List.getElem?_append_right (by omega), List.getElem?_drop]
      congr 1
      omega
/-- append of m elements. -/
theorem Rw.append {t tx : TypeId} {i : TypeInfo} {z : Value} {bytes : Nat} (ht : Tryd.prog.underlying t = some (.slice e)) (hi : Tryd.prog.info? e = some i) (hz : i.zero = some z) (hsz : i.size = k) (hby : i.bytes = bytes) (hzs : z.cells.size = k)
    (h : Rw e k w o n c xs) {x : Value} {m : Nat} {news : List Value} (hs : Src Tryd.prog k tx x m news w) (hm : 0 < m) (hb : (n + m) * bytes ≤ 140737488355328) (hb0 : n + m ≤ 140737488355328) :
    ∃ g off c' w', (∀ ty, (Builtin.append_ #[t, tx] ty #[.slice o n c, x]).run Tryd.prog w = .ok (.slice (some ⟨g, off, none⟩) (n + m) c') w') ∧ Rw e k w' (some ⟨g, off, none⟩) (n + m) c' (xs ++ news) ∧ Chg (Blk o) w w' ∧ (Blk o g ∨ g = w.heap.size) ∧ (w.heap.size ≤ w'.heap.size) := by
  subst hsz
  have hnl := hs.newsLen
  by_cases hroom : n + m ≤ c
  · obtain ⟨h0, ⟨_, rfl, rfl⟩ | ⟨g, off, X, rfl, hg, h2, h3, h4, h5⟩⟩ := h
    · omega
    · have hle : (n + m) * i.size ≤ c * i.size := Nat.mul_le_mul_right _ hroom
      rw [Nat.add_mul] at hle
      have hst := run_storeCells_at (P := Tryd.prog) g (off + n * i.size) e news 0 X w hg (by omega) hs.one
      simp only [Nat.add_zero] at hst
      refine ⟨g, off, c, w.setRow g (X.toList.take (off + n * i.size) ++ news ++ X.toList.drop (off + n * i.size + news.length)).toArray, fun ty => ?_, ⟨by rw [List.length_append, h0, hnl, Nat.add_mul], .inr ⟨g, off, _, rfl, setRow_heap w g _ _ e _ hg, ?_, hroom, h4, fun j v hj => ?_⟩⟩, Chg.setRow g _ (Blk.mk _ _ _), .inl (Blk.mk _ _ _), by simp⟩
      · rcases hs.kind with ⟨e', hk⟩ | hk <;> simp [Builtin.append_, run_underlying ht, run_underlying hk, sizeOf, typeInfo, hi, hs.len, hroom, hs.cells, Addr.add_lit, hst]
      · simp only [List.size_toArray, List.length_append, List.length_take, List.length_drop, Array.length_toList]
        omega
      · simp only [List.getElem?_toArray]
        rw [over_get (by simp; omega)]
        by_cases h6 : j < n * i.size
        · rw [if_pos (by omega), Array.getElem?_toList]
          rw [List.getElem?_append_left (by omega)] at hj
          exact h5 j v hj
        · rw [if_neg (by omega)]
          rw [List.getElem?_append_right (by omega), h0] at hj
          have := (List.getElem?_eq_some_iff.1 hj).1
          rw [if_pos (by omega), ← hj]
          congr 1
          omega
  · have hold : (Builtin.firstCells i.size n (.slice o n c)).run Tryd.prog w.drew = .ok xs.toArray w.drew := by
      obtain ⟨h0, ⟨rfl, rfl, rfl⟩ | ⟨g, off, X, rfl, hg, h2, h3, h4, h5⟩⟩ := h
      · simp at h0
        subst h0
        exact run_firstCells_none _ _ 0 0 _
      · refine run_firstCells_some _ _ n _ n c xs h0 (fun j v hj => ?_)
        rw [Addr.add_lit]
        show World.cell? w _ = _
        simp only [World.cell?, hg]
        exact h5 j v hj
    have hrun := fun ty => run_append_grow_src w t tx ty e i z ht hi hz o n c xs hold x m news hs (by omega) (by omega) (by rw [hby]; exact growslice_fits (by omega) hb)
    have hge := grownCap_ge w (n + m) c e
    refine ⟨w.heap.size, 0, grownCap w (n + m) c e, w.drew.alloc (.cells ((xs ++ news).toArray ++ Builtin.zeroCells z.cells (grownCap w (n + m) c e - (n + m))) e), hrun, ⟨by rw [List.length_append, h.1, hnl, Nat.add_mul], .inr ⟨_, 0, _, rfl, heap_alloc_new w.drew _, ?_, hge, grownCap_le_maxLen _ _ _ _ (by unfold maxLen; omega), fun j v hj => ?_⟩⟩, ((Chg.refl _ w).below ((Below.refl _ w).drew)).alloc _, .inr rfl, ?_⟩
    · refine Nat.le_of_eq ?_
      symm
      simp only [Array.size_append, List.size_toArray, List.length_append, Builtin.zeroCells, Array.size_map, Array.size_range, hzs, h.1, hnl, Nat.zero_add]
      rw [← Nat.add_mul, ← Nat.add_mul]
      congr 1
      omega
    · have hlt := (List.getElem?_eq_some_iff.1 hj).1
      rw [Nat.zero_add, Array.getElem?_append_left (by simpa using hlt)]
      simpa using hj
    · show w.heap.size ≤ (w.drew.heap.push _).size
      rw [Array.size_push]
      show w.heap.size ≤ w.heap.size + 1
      omega
/-- A cell of the row set. -/
theorem Rw.set {g off : Nat} (h : Rw e k w (some ⟨g, off, none⟩) n c xs) {j : Nat} (hj : j < xs.length) (v : Value) : Rw e k (w.setCell ⟨g, off + j, none⟩ v) (some ⟨g, off, none⟩) n c (xs.set j v) ∧ Chg (Blk (some ⟨g, off, none⟩)) w (w.setCell ⟨g, off + j, none⟩ v) := by
  obtain ⟨h0, ⟨h, _⟩ | ⟨g', off', X, e1, hg, h2, h3, h4, h5⟩⟩ := h
  · cases h
  · injection e1 with e1
    injection e1 with e1 e2
    subst e1 e2
    rw [setCell_eq_setRow w g (off + j) _ e (0, 0) _ hg]
    refine ⟨⟨by rw [List.length_set]; exact h0, .inr ⟨g, off, X.setIfInBounds (off + j) v, rfl, setRow_heap w g _ _ e _ hg, by rw [Array.size_setIfInBounds]; exact h2, h3, h4, fun i u hi => ?_⟩⟩, Chg.setRow g _ (Blk.mk _ _ _)⟩
    by_cases e : i = j
    · subst e
      have hlt : off + i < X.size := by
        have : n * k ≤ c * k := Nat.mul_le_mul_right _ h3
        omega
      rw [List.getElem?_set_self hj] at hi
      rw [Array.getElem?_setIfInBounds_self_of_lt hlt]
      exact hi
    · rw [List.getElem?_set_ne (fun h => e h.symm)] at hi
      rw [Array.getElem?_setIfInBounds_ne (by omega)]
      exact h5 i u hi
end
end Go.Proofs.YtfejhlfcabbkcaaDoor
