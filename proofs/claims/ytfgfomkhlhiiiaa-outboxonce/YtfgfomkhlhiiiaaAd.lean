/- outbox: marks.add. -/
import Derived.Test.YtfgfomkhlhiiiaaMk
namespace Go.Proofs.YtfgfomkhlhiiiaaR
open Go.RowKit Go.Shelf Go.Lib Go.Maps
set_option linter.unusedVariables false

attribute [local go_sem] Oper.semAt_some

theorem Chg.after {X Y : Nat → Prop} {a b c : World} (h : Chg X a b) (k : Chg Y b c) (hXY : ∀ j, j < a.heap.size → Y j → X j) : Chg X a c :=
  ⟨k.1.trans h.1, k.2.1.trans h.2.1, k.2.2.1.trans h.2.2.1, Nat.le_trans h.2.2.2.1 k.2.2.2.1, fun j hj hx => (k.2.2.2.2 j (Nat.lt_of_lt_of_le hj h.2.2.2.1) (fun hy => hx (hXY j hj hy))).trans (h.2.2.2.2 j hj hx)⟩

theorem kept_cells {A B : World} {row : Option Nat} {n k : Nat} {X : Array Value} {t : TypeId} (hk : A.heap[k]? = some (.cells X t (0, 0))) (hg : A.grownBy B row) (hr : ∀ r, row = some r → n ≤ r ∧ ∃ o : Obj, A.heap[r]? = some o ∧ o.isCells = false) : B.heap[k]? = some (.cells X t (0, 0)) := by
  refine (hg.block k (Array.getElem?_eq_some_iff.1 hk).1 ?_).trans hk
  intro e
  obtain ⟨_, o, ho, hc⟩ := hr k e.symm
  rw [hk] at ho
  cases ho
  simp [Obj.isCells] at hc

variable {φ : Nat → Nat × Nat} {t : Nat} {w : World} {M mb fs c : Nat} {S : Nat → Option Nat} {F : Nat → Prop} {V : Int → Prop}

theorem Mq.kept (h : Mq φ t w M mb fs c S F V) {w' : World} {row : Option Nat} {n : Nat} (hn : mb < n) (hg : w.grownBy w' row) (hr : ∀ r, row = some r → n ≤ r ∧ ∃ o : Obj, w.heap[r]? = some o ∧ o.isCells = false) : Mq φ t w' M mb fs c S F V :=
  h.keep (fun k hk _ hX => by
    rcases hX with rfl | ⟨X, t', hX⟩
    · exact hg.block k hk (fun e => by have := (hr k e.symm).1; omega)
    · exact (kept_cells hX hg hr).trans hX.symm)
theorem Mk.kept (h : Mk φ t w M mb fs c S V) {w' : World} {row : Option Nat} {n : Nat} (hn : mb < n) (hg : w.grownBy w' row) (hr : ∀ r, row = some r → n ≤ r ∧ ∃ o : Obj, w.heap[r]? = some o ∧ o.isCells = false) : Mk φ t w' M mb fs c S V := ⟨h.1.kept hn hg hr, h.2⟩

/-- What stands between two rounds of add. -/
def AddI (φ : Nat → Nat × Nat) (t : Nat) (w : World) (M mb fs c : Nat) (V : Int → Prop) (B Bt : Nat) (f to_ : Int) (pre : List (Part f to_)) (W : World) : Prop :=
  (∃ φ' S' c', Mk φ' t W M mb fs c' S' (fun j => V j ∨ Cov pre j) ∧ c' ≤ c + pre.length ∧ (∀ k, k < w.heap.size → φ' k = φ k)) ∧ Chg (fun k => (φ k).1 = t) w W ∧
  W.heap[B]? = some (.cells #[.pointer (some ⟨M, 0, none⟩)] 53 (0, 0)) ∧ W.heap[Bt]? = some (.cells #[.int .i64 to_] 3 (0, 0))
theorem AddI_own {B Bt : Nat} {f to_ : Int} (n : Nat) (hn : w.heap.size ≤ n) (hmb : mb < w.heap.size) : OwnFrom n (AddI φ t w M mb fs c V B Bt f to_) := by
  rintro s A B' row ⟨⟨φ', S', c', h1, h2, h3⟩, h4, h5, h6⟩ hg hr
  refine ⟨⟨φ', S', c', h1.kept (n := n) (by omega) hg hr, h2, h3⟩, ?_, kept_cells h5 hg hr, kept_cells h6 hg hr⟩
  refine h4.after (Y := fun k => row = some k) ⟨hg.os, hg.tape, hg.output, hg.size, fun k hk hx => hg.block k hk (fun e => hx e.symm)⟩ (fun j hj e => ?_)
  have := (hr j e).1
  omega

/-- A round's state ahead of the block's own Add. -/
def AddQ (φ : Nat → Nat × Nat) (t : Nat) (w : World) (M mb fs c : Nat) (V : Int → Prop) (B Bt : Nat) (f to_ : Int) (pre : List (Part f to_)) (n s n0 : Nat) (W W3 : World) : Prop :=
  (∃ φ' S' c', Mq φ' t W3 M mb fs c' S' (fun n => (S' n).isSome = true) (fun j => V j ∨ Cov pre j) ∧ S' n = some s ∧ (∀ k s, S' k = some s → k = n ∨ ∃ j, (V j ∨ Cov pre j) ∧ blk k j) ∧ c' ≤ c + pre.length + 1 ∧ (∀ k, k < w.heap.size → φ' k = φ k)) ∧ Chg (fun k => (φ k).1 = t) w W3 ∧
  W3.heap[B]? = some (.cells #[.pointer (some ⟨M, 0, none⟩)] 53 (0, 0)) ∧ W3.heap[Bt]? = some (.cells #[.int .i64 to_] 3 (0, 0)) ∧ KeepsFrom n0 W W3
theorem AddQ_of (n s n0 B Bt : Nat) (f to_ : Int) (pre : List (Part f to_)) (W : World) (φ' : Nat → Nat × Nat) (S' : Nat → Option Nat) (c' : Nat) (h1 : Mk φ' t W M mb fs c' S' (fun j => V j ∨ Cov pre j)) (hs : S' n = some s) (h2 : c' ≤ c + pre.length) (h3 : ∀ k, k < w.heap.size → φ' k = φ k) (h4 : Chg (fun k => (φ k).1 = t) w W)
    (h5 : W.heap[B]? = some (.cells #[.pointer (some ⟨M, 0, none⟩)] 53 (0, 0))) (h6 : W.heap[Bt]? = some (.cells #[.int .i64 to_] 3 (0, 0))) : AddQ φ t w M mb fs c V B Bt f to_ pre n s n0 W W :=
  ⟨⟨φ', S', c', h1.1, hs, fun k s hk => .inr (h1.2 k s hk), by omega, h3⟩, h4, h5, h6, ⟨Nat.le_refl _, fun _ _ _ h _ => h⟩⟩

/-- What a region of the round reads. -/
def SQ (M mb B n s : Nat) (W : World) : Prop := W.cell? ⟨B, 0, none⟩ = some (.pointer (some ⟨M, 0, none⟩)) ∧ W.cell? ⟨M, 0, none⟩ = some (.map (some mb)) ∧ (Instr.lookup 80 (.map (some mb)) (.int .i64 (n : Int)) false).run Try.prog W = .ok (.pointer (some ⟨s, 0, none⟩)) W
theorem SQ_of {n s B : Nat} {W : World} (h1 : Mq φ t W M mb fs c S F V) (hn : n ≤ 4503599627370495) (hs : S n = some s) (h5 : W.heap[B]? = some (.cells #[.pointer (some ⟨M, 0, none⟩)] 53 (0, 0))) : SQ M mb B n s W := by
  refine ⟨by simp [World.cell?, h5], by simp [World.cell?, h1.hM], ?_⟩
  have := h1.look hn
  rw [hs] at this
  exact this
theorem AddQ.drew {n s n0 B Bt : Nat} {f to_ : Int} {pre : List (Part f to_)} {W W3 : World} (h : AddQ φ t w M mb fs c V B Bt f to_ pre n s n0 W W3) : AddQ φ t w M mb fs c V B Bt f to_ pre n s n0 W W3.drew := by
  obtain ⟨⟨φ', S', c', h1, hs, hne, h2, h3⟩, h4, h5, h6, h7⟩ := h
  exact ⟨⟨φ', S', c', h1.keep (fun _ _ _ _ => rfl), hs, hne, h2, h3⟩, h4, h5, h6, ⟨h7.1, h7.2⟩⟩
theorem AddQ.sq {n s n0 B Bt : Nat} {f to_ : Int} {pre : List (Part f to_)} {W W3 : World} (h : AddQ φ t w M mb fs c V B Bt f to_ pre n s n0 W W3) (hn : n ≤ 4503599627370495) : SQ M mb B n s W3 := by
  obtain ⟨⟨φ', S', c', h1, hs, hne, h2, h3⟩, h4, h5, h6, h7⟩ := h
  exact SQ_of h1 hn hs h5

/-- The block's own Add. -/
theorem AddQ.fin {n s n0 B Bt : Nat} {f to_ : Int} {pre : List (Part f to_)} {x : Part f to_} {W W3 : World} (h : AddQ φ t w M mb fs c V B Bt f to_ pre n s n0 W W3) (hn : x.a / 1024 = (n : Int)) (hn2 : n ≤ 4503599627370495) :
    ∃ o L, My 0 W3 s o L ∧ (∀ M', Ok M' → (∀ j, In j M' ↔ In j L ∨ (x.a ≤ j ∧ j ≤ x.e - 1)) → M'.length ≤ 65536) ∧ ∀ W4 o' L', Turn 0 W3 W4 s o o' L' → (∀ j, In j L' ↔ In j L ∨ (x.a ≤ j ∧ j ≤ x.e - 1)) → (KeepsFrom n0 W W4 ∧ (W.heap[Bt]? = some (.cells #[.int .i64 to_] 3 (0, 0)) → Kt Bt W W4) ∧ AddI φ t w M mb fs c V B Bt f to_ (pre ++ [x]) W4) ∧ SQ M mb B n s W4 := by
  obtain ⟨⟨φ', S', c', h1, hs, hne, h2, h3⟩, h4, h5, h6, h7⟩ := h
  obtain ⟨o, L, k1, k2, k3, k4⟩ := h1.hs n s hs
  have x0 := x.h0
  have x1 := x.h1
  have x2 := x.h2
  refine ⟨o, L, k1, ?_, ?_⟩
  · intro M' hO hM
    refine Nat.le_trans (Ok_len M' (1024 * (n : Int)) 1024 hO (fun j hj => ?_)) (by omega)
    rcases (hM j).1 hj with hj | hj
    · have := ((k2 j).1 hj).2
      unfold blk at this; omega
    · omega
  · intro W4 o' L' ht hL'
    have hX : ∀ k, (k = s ∨ o = some ⟨k, 0, none⟩) → φ' k = (t, n + 3) ∧ ∃ (X : Array Value) (t' : TypeId), W3.heap[k]? = some (.cells X t' (0, 0)) ∧ (t' = 95 ∨ t' = 77) := by
      rintro k (rfl | e)
      · obtain ⟨X, hX⟩ := k1.cells.1
        exact ⟨k3, X, 95, hX, .inl rfl⟩
      · obtain ⟨X, hX⟩ := k1.cells.2 k e
        exact ⟨k4 k e, X, 77, hX, .inr rfl⟩
    have hc := ht.2.1
    have hkeep : ∀ (k : Nat) (X : Array Value) (t' : TypeId), W3.heap[k]? = some (.cells X t' (0, 0)) → t' ≠ 95 → t' ≠ 77 → W4.heap[k]? = some (.cells X t' (0, 0)) := by
      intro k X t' hk e1 e2
      refine (hc.2.2.2.2 k (Array.getElem?_eq_some_iff.1 hk).1 (fun hx => ?_)).trans hk
      obtain ⟨_, X', t'', e, e'⟩ := hX k hx
      rw [hk] at e
      cases e
      rcases e' with e' | e'
      · exact e1 e'
      · exact e2 e'
    have hm := h1.turnB (V' := fun j => V j ∨ Cov (pre ++ [x]) j) hs k3 k4 ht (fun j => by
      rw [hL' j, k2 j, Cov_snoc]
      constructor
      · rintro (⟨a | a, b⟩ | a)
        · exact ⟨.inl a, b⟩
        · exact ⟨.inr (.inl a), b⟩
        · exact ⟨.inr (.inr (by omega)), by unfold blk; omega⟩
      · rintro ⟨a | a | a, b⟩
        · exact .inl ⟨.inl a, b⟩
        · exact .inl ⟨.inr a, b⟩
        · exact .inr (by omega)) (fun j hj => by
      rw [Cov_snoc]
      constructor
      · rintro (a | a | a)
        · exact .inl a
        · exact .inr a
        · exact absurd (show blk n j by unfold blk; omega) hj
      · rintro (a | a)
        · exact .inl a
        · exact .inr (.inl a))
    have hb5 := hkeep B _ _ h5 (by decide) (by decide)
    have hb6 := hkeep Bt _ _ h6 (by decide) (by decide)
    refine ⟨⟨⟨Nat.le_trans h7.1 hc.2.2.2.1, fun k o0 hk hko hnc => ?_⟩, fun hBt => ?_, ⟨_, S', c', ⟨hm, fun k s' hk => ?_⟩, ?_, fun k hk => ?_⟩, ?_, hb5, hb6⟩, SQ_of hm hn2 hs hb5⟩
    · have e3 := h7.2 k o0 hk hko hnc
      refine (hc.2.2.2.2 k (Array.getElem?_eq_some_iff.1 e3).1 (fun hx => ?_)).trans e3
      obtain ⟨_, X', t'', e, _⟩ := hX k hx
      rw [e3] at e
      cases e
      simp [Obj.isCells] at hnc
    · show W4.cell? _ = W.cell? _
      simp [World.cell?, hb6, hBt]
    · rcases hne k s' hk with rfl | ⟨j, hj, hb⟩
      · exact ⟨x.a, .inr ((Cov_snoc ..).2 (.inr ⟨Int.le_refl _, x1⟩)), by unfold blk; omega⟩
      · refine ⟨j, ?_, hb⟩
        rcases hj with hj | hj
        · exact .inl hj
        · exact .inr ((Cov_snoc ..).2 (.inl hj))
    · rw [List.length_append]; simp only [List.length_cons, List.length_nil]; omega
    · show (if k < W3.heap.size then φ' k else _) = _
      rw [if_pos (Nat.lt_of_lt_of_le hk h4.2.2.2.1), h3 k hk]
    · refine h4.after hc (fun j hj hx => ?_)
      show (φ j).1 = t
      rw [← h3 j hj, (hX j hx).1]

theorem Cov_in {f t : Int} {xs : List (Part f t)} {j : Int} (h : Cov xs j) : f ≤ j ∧ j < t := by
  obtain ⟨x, _, h1, h2⟩ := h
  have := x.h4
  have := x.h5
  omega

/-- A block that was not there: New's set is put, and its number to the filled. -/
theorem AddQ.new {n n0 B Bt Bp : Nat} {f to_ lo a b : Int} {pre : List (Part f to_)} {W : World} (φ' : Nat → Nat × Nat) (S' : Nat → Option Nat) (c' : Nat) (h1 : Mk φ' t W M mb fs c' S' (fun j => V j ∨ Cov pre j)) (hs : S' n = none) (hn : n ≤ 4503599627370495) (h2 : c' ≤ c + pre.length) (hcb : c + pre.length < 8000000000000000000) (h3 : ∀ k, k < w.heap.size → φ' k = φ k) (h4 : Chg (fun k => (φ k).1 = t) w W)
    (h5 : W.heap[B]? = some (.cells #[.pointer (some ⟨M, 0, none⟩)] 53 (0, 0))) (h6 : W.heap[Bt]? = some (.cells #[.int .i64 to_] 3 (0, 0))) (hmb : mb < w.heap.size) (hn0 : w.heap.size ≤ n0)
    (hwin : ∀ j, (V j ∨ f ≤ j ∧ j < to_) → lo ≤ j ∧ j < lo + 61440000) (hnw : f / 1024 ≤ (n : Int) ∧ 1024 * (n : Int) < to_ ∧ f < to_)
    (hBp : W.heap[Bp]? = some (.cells #[.int .i64 a, .int .i64 b] 77 (0, 0))) (hfo : ∀ n c, W.cell? ⟨fs, 1, none⟩ ≠ some (.slice (some ⟨Bp, 0, none⟩) n c)) :
    ∃ W2, (Instr.mapUpdate 80 (.map (some mb)) (.int .i64 (n : Int)) (.pointer (some ⟨W.heap.size, 0, none⟩))).run Try.prog (W.drew.alloc (.cells #[.bool true, .slice none 0 0] 95)) = .ok () W2 ∧
      W2.cell? ⟨B, 0, none⟩ = some (.pointer (some ⟨M, 0, none⟩)) ∧ W2.cell? ⟨M, 1, none⟩ = some (.pointer (some ⟨fs, 0, none⟩)) ∧ W2.cell? ⟨M, 0, none⟩ = some (.map (some mb)) ∧
      ∃ o L, My 0 W2 fs o L ∧ (∀ M', Ok M' → (∀ j, In j M' ↔ In j L ∨ ((n : Int) ≤ j ∧ j ≤ (n : Int))) → M'.length ≤ 65536) ∧ ∀ W3 o' L', Turn 0 W2 W3 fs o o' L' → (∀ j, In j L' ↔ In j L ∨ ((n : Int) ≤ j ∧ j ≤ (n : Int))) →
        AddQ φ t w M mb fs c V B Bt f to_ pre n W.heap.size n0 W W3 ∧ W3.heap[Bp]? = some (.cells #[.int .i64 a, .int .i64 b] 77 (0, 0)) := by
  obtain ⟨W1, hW1⟩ : ∃ W1, W1 = W.drew.alloc (.cells #[.bool true, .slice none 0 0] 95) := ⟨_, rfl⟩
  have hb1 : Below W.heap.size W W1 := by
    have hh := (Below.refl _ W.drew).alloc (Nat.le_refl _) (.cells #[.bool true, .slice none 0 0] 95)
    rw [hW1]; exact ⟨hh.os, hh.tape, hh.output, hh.size, hh.block⟩
  have hz1 : W1.heap.size = W.heap.size + 1 := by rw [hW1, World.size_alloc]; rfl
  have hold : ∀ k, k < W.heap.size → W1.heap[k]? = W.heap[k]? := fun k hk => hb1.block k hk
  have hq1 : Mq (fun k => if k < W.heap.size then φ' k else (t, n + 3)) t W1 M mb fs c' S' (fun n => (S' n).isSome = true) (fun j => V j ∨ Cov pre j) :=
    (h1.1.retag (φ' := fun k => if k < W.heap.size then φ' k else (t, n + 3)) (fun k hk => if_pos hk)).keep (fun k hk _ _ => hold k hk)
  have hmy : My 0 W1 W.heap.size none [] := by rw [hW1]; exact new_my 0 W.drew (Nat.zero_le _)
  rw [← hW1]
  obtain ⟨W2, hrun, hq2, hc2⟩ := hq1.put hn (by omega) hs hmy (if_neg (by omega))
  have hmbM : ∀ (k : Nat) (X : Array Value) (t' : TypeId), W1.heap[k]? = some (.cells X t' (0, 0)) → W2.heap[k]? = some (.cells X t' (0, 0)) := fun k X t' hX => (hc2.2.2.2.2 k (Array.getElem?_eq_some_iff.1 hX).1 (by
    intro e0
    obtain ⟨D, ks, hD, _⟩ := hq1.hD
    obtain ⟨es, clock, e, _⟩ := hD
    rw [e0, e] at hX; cases hX)).trans hX
  have hlt : ∀ (k : Nat) (X : Array Value) (t' : TypeId), W.heap[k]? = some (.cells X t' (0, 0)) → W2.heap[k]? = some (.cells X t' (0, 0)) := fun k X t' hX => hmbM k X t' ((hold k (Array.getElem?_eq_some_iff.1 hX).1).trans hX)
  have hB2 := hlt _ _ _ h5
  have hBt2 := hlt _ _ _ h6
  have hBp2 := hlt _ _ _ hBp
  have hM2 := hq2.hM
  obtain ⟨o, L, k1, k2, k3, k4⟩ := hq2.hf
  have hfs : ∀ g, o = some ⟨g, 0, none⟩ → g ≠ Bp := by
    intro g hg e
    subst e
    obtain ⟨o1, L1, ⟨⟨cc, q1⟩, _⟩, _⟩ := h1.1.hf
    have e2 := hlt _ _ _ q1.1
    obtain ⟨⟨cc2, q2⟩, _⟩ := k1
    rw [q2.1] at e2
    simp at e2
    exact hfo L1.length cc (by rw [q1.head.2, ← e2.1, hg])
  refine ⟨W2, hrun, by simp [World.cell?, hB2], by simp [World.cell?, hM2], by simp [World.cell?, hM2], o, L, k1, ?_, ?_⟩
  · intro M' hO hM
    refine Nat.le_trans (Ok_len M' (lo / 1024) 60002 hO (fun j hj => ?_)) (by omega)
    rcases (hM j).1 hj with hj | hj
    · obtain ⟨e1, e2⟩ := (k2 j).1 hj
      obtain ⟨s, hs⟩ := Option.isSome_iff_exists.1 e2
      obtain ⟨v, hv, hb⟩ := h1.2 _ s hs
      have := hwin v (by
        rcases hv with hv | hv
        · exact .inl hv
        · exact .inr (Cov_in hv))
      unfold blk at hb
      omega
    · have := hwin f (.inr ⟨Int.le_refl _, by omega⟩)
      have := hwin (to_ - 1) (.inr ⟨by omega, by omega⟩)
      omega
  · intro W3 o' L' ht hL'
    have hX : ∀ k, (k = fs ∨ o = some ⟨k, 0, none⟩) → (if k < W.heap.size then φ' k else (t, n + 3)) = (t, 2) ∧ ∃ (X : Array Value) (t' : TypeId), W2.heap[k]? = some (.cells X t' (0, 0)) ∧ (t' = 95 ∨ t' = 77) := by
      rintro k (rfl | e)
      · obtain ⟨X, hX⟩ := k1.cells.1
        exact ⟨k3, X, 95, hX, .inl rfl⟩
      · obtain ⟨X, hX⟩ := k1.cells.2 k e
        exact ⟨k4 k e, X, 77, hX, .inr rfl⟩
    have hc := ht.2.1
    have hkeep : ∀ (k : Nat) (X : Array Value) (t' : TypeId), W2.heap[k]? = some (.cells X t' (0, 0)) → t' ≠ 95 → t' ≠ 77 → W3.heap[k]? = some (.cells X t' (0, 0)) := by
      intro k X t' hk e1 e2
      refine (hc.2.2.2.2 k (Array.getElem?_eq_some_iff.1 hk).1 (fun hx => ?_)).trans hk
      obtain ⟨_, X', t'', e, e'⟩ := hX k hx
      rw [hk] at e
      cases e
      rcases e' with e' | e'
      · exact e1 e'
      · exact e2 e'
    have hm := hq2.turnF (F' := fun k => ((if k = n then some W.heap.size else S' k) : Option Nat).isSome = true) k3 k4 ht (fun j => by
      rw [hL' j, k2 j]
      by_cases e : j.toNat = n
      · rw [if_pos e]
        constructor
        · rintro (⟨h, _⟩ | h)
          · exact ⟨h, rfl⟩
          · exact ⟨by omega, rfl⟩
        · rintro ⟨h, _⟩
          exact .inr (by omega)
      · rw [if_neg e]
        constructor
        · rintro (h | h)
          · exact h
          · exact absurd (show j.toNat = n by omega) e
        · intro h; exact .inl h)
    refine ⟨⟨⟨_, _, c' + 1, hm, if_pos rfl, fun k s hk => ?_, by omega, fun k hk => ?_⟩, ?_, hkeep _ _ _ hB2 (by decide) (by decide), hkeep _ _ _ hBt2 (by decide) (by decide), ?_, ?_⟩, ?_⟩
    · by_cases e : k = n
      · exact .inl e
      · rw [if_neg e] at hk
        exact .inr (h1.2 k s hk)
    · have hkW : k < W.heap.size := Nat.lt_of_lt_of_le hk h4.2.2.2.1
      have hkW2 : k < W2.heap.size := by have := hc2.2.2.2.1; omega
      show (if k < W2.heap.size then (if k < W.heap.size then φ' k else _) else _) = _
      rw [if_pos hkW2, if_pos hkW, h3 k hk]
    · have e1 : Chg (fun k => (φ k).1 = t) w W1 := h4.after (Y := fun _ => False) (Chg.below hb1) (fun _ _ h => h.elim)
      have e2 : Chg (fun k => (φ k).1 = t) w W2 := e1.after hc2 (fun j hj e => by
        show (φ j).1 = t
        rw [e, ← h3 mb hmb, h1.1.hφ.2])
      refine e2.after hc (fun j hj hx => ?_)
      show (φ j).1 = t
      have := (hX j hx).1
      rw [if_pos (Nat.lt_of_lt_of_le hj h4.2.2.2.1), h3 j hj] at this
      rw [this]
    · have := hc2.2.2.2.1; have := hc.2.2.2.1; omega
    · intro k o0 hk hko hnc
      have hkW := (Array.getElem?_eq_some_iff.1 hko).1
      have e1 : W2.heap[k]? = some o0 := (hc2.2.2.2.2 k (by omega) (show ¬ k = mb by omega)).trans ((hold k hkW).trans hko)
      refine (hc.2.2.2.2 k (Array.getElem?_eq_some_iff.1 e1).1 (fun hx => ?_)).trans e1
      obtain ⟨_, X', t'', e, _⟩ := hX k hx
      rw [e1] at e
      cases e
      simp [Obj.isCells] at hnc
    · refine (hc.2.2.2.2 Bp (Array.getElem?_eq_some_iff.1 hBp2).1 ?_).trans hBp2
      rintro (e | e)
      · obtain ⟨X, hX⟩ := k1.cells.1
        rw [← e, hBp2] at hX
        simp at hX
      · exact hfs Bp e rfl

end Go.Proofs.YtfgfomkhlhiiiaaR
