/- EcnHonest: what honest counts make of a validation; the walk. -/
import Derived.Test.YthfloemckhbljaaAl
import Derived.Deep.LoopGhost
namespace Go.Proofs.Ythfloemckhbljaa
open Go.RowKit
set_option linter.unusedVariables false

/-- The validation's cells as honest counts have them. -/
def hv (st S L c0 c2 : Int) : Ev := ⟨st, S, L, c0 + c2, c0, 0, c2⟩
/-- The validation in block s, the counts' box in block A, both of one's own. -/
structure Hs (w : World) (s A : Nat) (c0 c2 : Int) (v : Ev) (W : World) : Prop where
  p : Rt 43 W s v
  o : v.ok
  q : W.heap[A]? = some (.cells #[.int .i64 c0, .int .i64 0, .int .i64 c2] 28 (0, 0))
  ne : A ≠ s
  s0 : w.heap.size ≤ s
  A0 : w.heap.size ≤ A
  b : Below w.heap.size w W
theorem Hs.bl {w : World} {s A : Nat} {c0 c2 : Int} {v : Ev} {W W' : World} (h : Hs w s A c0 c2 v W) (hb : Below W.heap.size W W') : Hs w s A c0 c2 v W' :=
  ⟨h.p.below hb, h.o, (hb.block A (Array.getElem?_eq_some_iff.1 h.q).1).trans h.q, h.ne, h.s0, h.A0, h.b.trans (hb.mono h.b.size)⟩
theorem Hs.tn {w : World} {s A : Nat} {c0 c2 : Int} {v v' : Ev} {W W' : World} (h : Hs w s A c0 c2 v W) (ht : Tn s W W') (hr : Rt 43 W' s v') (ho : v'.ok) : Hs w s A c0 c2 v' W' :=
  ⟨hr, ho, (ht.2.2.2.2 A (Array.getElem?_eq_some_iff.1 h.q).1 h.ne).trans h.q, h.ne, h.s0, h.A0, h.b.trans (ht.toBelow h.b.size h.s0)⟩
theorem Hs.cells {w : World} {s A : Nat} {c0 c2 : Int} {v : Ev} {W : World} (h : Hs w s A c0 c2 v W) : W.cell? ⟨A, 0, none⟩ = some (.int .i64 c0) ∧ W.cell? ⟨A, 1, none⟩ = some (.int .i64 0) ∧ W.cell? ⟨A, 2, none⟩ = some (.int .i64 c2) ∧ W.frozen? ⟨A, 0, none⟩ = false ∧ W.frozen? ⟨A, 2, none⟩ = false := by
  have h' := h.q
  refine ⟨?_, ?_, ?_, ?_, ?_⟩ <;> simp [World.cell?, World.frozen?, h']
theorem Hs.setA {w : World} {s A : Nat} {c0 c2 : Int} {v : Ev} {W : World} (h : Hs w s A c0 c2 v W) (j : Nat) (x d0 d2 : Int) (he : (#[Value.int .i64 c0, .int .i64 0, .int .i64 c2] : Array Value).setIfInBounds j (.int .i64 x) = #[.int .i64 d0, .int .i64 0, .int .i64 d2]) : Hs w s A d0 d2 v (W.setCell ⟨A, j, none⟩ (.int .i64 x)) := by
  have h' : W.heap[A]? = some (.cells #[.int .i64 c0, .int .i64 0, .int .i64 c2] 28 (0, 0)) := h.q
  have e := setCell_eq_setRow W A j _ 28 (0, 0) (.int .i64 x) h'
  have hq : (W.setCell ⟨A, j, none⟩ (.int .i64 x)).heap[A]? = some (.cells #[.int .i64 d0, .int .i64 0, .int .i64 d2] 28 (0, 0)) := by rw [e, setRow_heap W A _ _ 28 (0, 0) h', he]
  refine ⟨?_, h.o, hq, h.ne, h.s0, h.A0, h.b.trans ?_⟩
  · show (W.setCell ⟨A, j, none⟩ (.int .i64 x)).heap[s]? = _
    rw [e, setRow_other W A s _ (fun k => h.ne k.symm)]
    exact h.p
  · rw [e]
    exact ⟨rfl, rfl, rfl, by simp, fun k hk => setRow_other W A k _ (by have := h.A0; omega)⟩
theorem Hs.state {w : World} {s A : Nat} {c0 c2 : Int} {v : Ev} {W : World} (h : Hs w s A c0 c2 v W) : Calls Try.prog 9 #[.pointer (some ⟨s, 0, none⟩)] W fun e w' => e = .returned (.int .i64 v.s) ∧ w' = W := state_c s v W h.p h.o
theorem Hs.sent {w : World} {s A : Nat} {c0 c2 : Int} {v : Ev} {W : World} (h : Hs w s A c0 c2 v W) (hn : v.n < 4611686018427387904) : Calls Try.prog 11 #[.pointer (some ⟨s, 0, none⟩)] W fun e w' => e = .returned (.bool v.snt.1) ∧ Hs w s A c0 c2 v.snt.2 w' :=
  (sent_c s v W h.p h.o hn).mono (by rintro e w' ⟨rfl, hr, ht⟩; exact ⟨rfl, h.tn ht hr (v.snt_ok h.o hn)⟩)
theorem Hs.lost {w : World} {s A : Nat} {c0 c2 : Int} {v : Ev} {W : World} (h : Hs w s A c0 c2 v W) (m : Int) : Calls Try.prog 13 #[.pointer (some ⟨s, 0, none⟩), .int .i64 m] W fun e w' => e = .returned (.int .i64 (v.lst m).1) ∧ Hs w s A c0 c2 (v.lst m).2 w' :=
  (lost_c s v m W h.p h.o).mono (by rintro e w' ⟨rfl, hr, ht⟩; exact ⟨rfl, h.tn ht hr (v.lst_ok m h.o)⟩)
theorem Hs.acked {w : World} {s A : Nat} {c0 c2 : Int} {v : Ev} {W : World} (h : Hs w s A c0 c2 v W) (m x y z : Int) (f : Bool) : Calls Try.prog 15 #[.pointer (some ⟨s, 0, none⟩), .int .i64 m, .agg #[.int .i64 x, .int .i64 y, .int .i64 z], .bool f] W fun e w' => e = .returned (.tuple #[.bool (v.ack m x y z f).1, .int .i64 (v.ack m x y z f).2.1]) ∧ Hs w s A c0 c2 (v.ack m x y z f).2.2 w' :=
  (acked_c s v m x y z f W h.p h.o).mono (by rintro e w' ⟨rfl, hr, ht⟩; exact ⟨rfl, h.tn ht hr (v.ack_ok m x y z f h.o)⟩)

/-- What holds between two packets. -/
structure Hi (st S L c0 c2 : Int) : Prop where
  l : 0 ≤ L
  a : 0 ≤ c0
  c : 0 ≤ c2
  s : S = L + c0 + c2
  n : S ≤ 20000000000000
  t : (st = 4 ∧ 0 < c0 + c2) ∨ (st = 1 ∧ c0 + c2 = 0 ∧ S < 10) ∨ (st = 3 ∧ c0 + c2 = 0 ∧ S = 10)
theorem Hi.snt {st S L c0 c2 : Int} (h : Hi st S L c0 c2) (h3 : ¬ st = 3) : ∃ st', (hv st S L c0 c2).snt = (true, hv st' (S + 1) L c0 c2) ∧ ((st' = 4 ∧ 0 < c0 + c2) ∨ (st' = 1 ∧ c0 + c2 = 0 ∧ S + 1 < 10) ∨ (st' = 2 ∧ c0 + c2 = 0 ∧ S + 1 = 10)) := by
  obtain ⟨l, a, c, s, n, t⟩ := h
  unfold hv Ev.snt
  simp only
  rcases t with ⟨rfl, t⟩ | ⟨rfl, t, t'⟩ | ⟨rfl, t, t'⟩
  · exact ⟨4, rfl, .inl ⟨rfl, t⟩⟩
  · by_cases k : S = 9
    · exact ⟨2, by simp [k], .inr (.inr ⟨rfl, t, by omega⟩)⟩
    · exact ⟨1, by simp [k], .inr (.inl ⟨rfl, t, by omega⟩)⟩
  · exact absurd rfl h3
theorem Hi.lst {st st' S L c0 c2 : Int} (h : Hi st S L c0 c2) (ht : (st' = 4 ∧ 0 < c0 + c2) ∨ (st' = 1 ∧ c0 + c2 = 0 ∧ S + 1 < 10) ∨ (st' = 2 ∧ c0 + c2 = 0 ∧ S + 1 = 10)) (hn : S < 20000000000000) : ∃ st2, (hv st' (S + 1) L c0 c2).lst 1 = (0, hv st2 (S + 1) (L + 1) c0 c2) ∧ Hi st2 (S + 1) (L + 1) c0 c2 := by
  obtain ⟨l, a, c, s, n, t⟩ := h
  have hw : (hv st' (S + 1) L c0 c2).way 1 := ⟨by decide, by show (1 : Int) ≤ S + 1 - L - (c0 + c2); omega⟩
  unfold Ev.lst
  rw [if_pos hw]
  unfold hv
  simp only
  rcases ht with ⟨rfl, t⟩ | ⟨rfl, t, t'⟩ | ⟨rfl, t, t'⟩
  · exact ⟨4, by simp, by constructor <;> omega⟩
  · refine ⟨1, ?_, by constructor <;> omega⟩
    rw [if_neg (by omega)]
  · refine ⟨3, ?_, by constructor <;> omega⟩
    rw [if_pos ⟨by decide, by omega, by omega⟩]
theorem Hi.ack0 {st st' S L c0 c2 : Int} (h : Hi st S L c0 c2) (ht : (st' = 4 ∧ 0 < c0 + c2) ∨ (st' = 1 ∧ c0 + c2 = 0 ∧ S + 1 < 10) ∨ (st' = 2 ∧ c0 + c2 = 0 ∧ S + 1 = 10)) (hn : S < 20000000000000) : (hv st' (S + 1) L c0 c2).ack 1 (c0 + 1) 0 c2 true = (false, 0, hv 4 (S + 1) L (c0 + 1) c2) ∧ Hi 4 (S + 1) L (c0 + 1) c2 := by
  obtain ⟨l, a, c, s, n, t⟩ := h
  refine ⟨?_, by constructor <;> omega⟩
  have hw : (hv st' (S + 1) L c0 c2).way 1 := ⟨by decide, by show (1 : Int) ≤ S + 1 - L - (c0 + c2); omega⟩
  have hc : cnts (c0 + 1) 0 c2 := ⟨⟨by omega, by omega⟩, ⟨by omega, by omega⟩, ⟨by omega, by omega⟩⟩
  unfold Ev.ack
  rw [if_neg (fun h => h ⟨hw, hc⟩), if_neg, if_neg]
  · unfold hv
    simp only
    rw [if_pos (by decide), show c0 + 1 + c2 = c0 + c2 + 1 by omega, decide_eq_false (Int.lt_irrefl _)]
  · rintro (h | h)
    · cases h
    · unfold Ev.wrg hv at h
      simp only at h
      omega
  · rintro (h | ⟨h, -⟩)
    · have h' : st' = 3 := h
      omega
    · cases h
theorem Hi.ack2 {st st' S L c0 c2 : Int} (h : Hi st S L c0 c2) (ht : (st' = 4 ∧ 0 < c0 + c2) ∨ (st' = 1 ∧ c0 + c2 = 0 ∧ S + 1 < 10) ∨ (st' = 2 ∧ c0 + c2 = 0 ∧ S + 1 = 10)) (hn : S < 20000000000000) : (hv st' (S + 1) L c0 c2).ack 1 c0 0 (c2 + 1) true = (true, 0, hv 4 (S + 1) L c0 (c2 + 1)) ∧ Hi 4 (S + 1) L c0 (c2 + 1) := by
  obtain ⟨l, a, c, s, n, t⟩ := h
  refine ⟨?_, by constructor <;> omega⟩
  have hw : (hv st' (S + 1) L c0 c2).way 1 := ⟨by decide, by show (1 : Int) ≤ S + 1 - L - (c0 + c2); omega⟩
  have hc : cnts c0 0 (c2 + 1) := ⟨⟨by omega, by omega⟩, ⟨by omega, by omega⟩, ⟨by omega, by omega⟩⟩
  unfold Ev.ack
  rw [if_neg (fun h => h ⟨hw, hc⟩), if_neg, if_neg]
  · unfold hv
    simp only
    rw [if_pos (by decide), show c0 + (c2 + 1) = c0 + c2 + 1 by omega, decide_eq_true (show c2 < c2 + 1 by omega)]
  · rintro (h | h)
    · cases h
    · unfold Ev.wrg hv at h
      simp only at h
      omega
  · rintro (h | ⟨h, -⟩)
    · have h' : st' = 3 := h
      omega
    · cases h
theorem Hi.bad {S L c0 c2 : Int} (h : Hi 4 S L c0 c2) : (hv 4 S L c0 c2).ack 0 c0 1 c2 true = (false, 0, ⟨3, S, L, c0 + c2 + 0, c0, 0, c2⟩) ∧ (Ev.mk 3 S L (c0 + c2 + 0) c0 0 c2).ack 0 c0 0 (c2 + 1) true = (false, 0, ⟨3, S, L, c0 + c2 + 0 + 0, c0, 0, c2⟩) ∧ (Ev.mk 3 S L (c0 + c2 + 0 + 0) c0 0 c2).snt = (false, ⟨3, S, L, c0 + c2 + 0 + 0, c0, 0, c2⟩) := by
  obtain ⟨l, a, c, s, n, t⟩ := h
  refine ⟨?_, ?_, ?_⟩
  · have hw : (hv 4 S L c0 c2).way 0 := ⟨by decide, by show (0 : Int) ≤ S - L - (c0 + c2); omega⟩
    have hc : cnts c0 1 c2 := ⟨⟨by omega, by omega⟩, ⟨by omega, by omega⟩, ⟨by omega, by omega⟩⟩
    unfold Ev.ack
    rw [if_neg (fun h => h ⟨hw, hc⟩), if_neg, if_pos]
    · unfold hv
      rfl
    · right
      unfold Ev.wrg
      omega
    · rintro (h | ⟨-, h⟩)
      · have h' : (4 : Int) = 3 := h
        omega
      · cases h
  · have hw : (Ev.mk 3 S L (c0 + c2 + 0) c0 0 c2).way 0 := ⟨by decide, by show (0 : Int) ≤ S - L - (c0 + c2 + 0); omega⟩
    have hc : cnts c0 0 (c2 + 1) := ⟨⟨by omega, by omega⟩, ⟨by omega, by omega⟩, ⟨by omega, by omega⟩⟩
    unfold Ev.ack
    rw [if_neg (fun h => h ⟨hw, hc⟩), if_pos (.inl rfl)]
  · simp [Ev.snt]
end Go.Proofs.Ythfloemckhbljaa
