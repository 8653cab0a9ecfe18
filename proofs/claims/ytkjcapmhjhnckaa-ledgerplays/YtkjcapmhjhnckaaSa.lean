/- The reference's Acked: those that arrive. -/
import Derived.Test.YtkjcapmhjhnckaaJm
import Derived.Test.YtkjcapmhjhnckaaRx
namespace Go.Proofs.Ytkjcapmhjhnckaa
open Go.RowKit Go.Maps Go.Shelf
set_option linter.unusedVariables false
set_option maxRecDepth 100000

theorem ram_len (S : List (Int × Int)) (Q : List (Pk × Int)) : (ram S Q).length = Q.length := by simp [ram]
theorem ram_snoc (S : List (Int × Int)) (Q : List (Pk × Int)) (x : Pk × Int) : ram S (Q ++ [x]) = ram S Q ++ [if ra S x = true then (x.1, 1) else x] := by unfold ram; rw [List.map_append]; rfl
theorem rat_yes {S : List (Int × Int)} (Q : List (Pk × Int)) {x : Pk × Int} (h : ra S x = true) : rat S (Q ++ [x]) = rat S Q ++ [x] := by unfold rat; rw [List.filter_append, List.filter_cons_of_pos h]; rfl
theorem rat_no {S : List (Int × Int)} (Q : List (Pk × Int)) {x : Pk × Int} (h : ra S x = false) : rat S (Q ++ [x]) = rat S Q := by unfold rat; rw [List.filter_append, List.filter_cons_of_neg (by rw [h]; simp)]; simp
def amid (S : List (Int × Int)) (Q : List (Pk × Int)) (k : Nat) : List (Pk × Int) := ram S (Q.take k) ++ Q.drop k
theorem amid_len (S : List (Int × Int)) (Q : List (Pk × Int)) (k : Nat) : (amid S Q k).length = Q.length := by
  unfold amid
  rw [List.length_append, ram_len, List.length_take, List.length_drop]; omega
theorem amid_at {S : List (Int × Int)} {Q : List (Pk × Int)} {k : Nat} (h : k < Q.length) (h2 : k < (amid S Q k).length) : (amid S Q k)[k] = Q[k] := by
  have e : (ram S (Q.take k)).length = k := by rw [ram_len, List.length_take]; omega
  have h3 : (amid S Q k)[k]? = Q[k]? := by
    unfold amid
    rw [List.getElem?_append_right (by omega), List.getElem?_drop]
    congr 1
    omega
  rw [List.getElem?_eq_getElem h2, List.getElem?_eq_getElem h] at h3
  exact Option.some.inj h3
theorem amid_set {S : List (Int × Int)} {Q : List (Pk × Int)} {k : Nat} (h : k < Q.length) (h0 : ra S Q[k] = true) : (amid S Q k).set k (Q[k].1, 1) = amid S Q (k + 1) := by
  have e : (ram S (Q.take k)).length = k := by rw [ram_len, List.length_take]; omega
  unfold amid
  rw [List.set_append_right _ _ (by omega), e, Nat.sub_self, List.drop_eq_getElem_cons h, List.set_cons_zero, List.take_succ_eq_append_getElem h, ram_snoc, if_pos h0, List.append_assoc]
  rfl
theorem amid_skip {S : List (Int × Int)} {Q : List (Pk × Int)} {k : Nat} (h : k < Q.length) (h0 : ra S Q[k] = false) : amid S Q k = amid S Q (k + 1) := by
  unfold amid
  rw [List.drop_eq_getElem_cons h, List.take_succ_eq_append_getElem h, ram_snoc, if_neg (by rw [h0]; simp), List.append_assoc]
  rfl
theorem rat_len (S : List (Int × Int)) (Q : List (Pk × Int)) : (rat S Q).length ≤ Q.length := List.length_filter_le _ _
/-- The first k looked through; the result lies in B. -/
structure QaI (W : World) (A : Ra) (R : Rs) (S : List (Int × Int)) (B : Nat) (k : Nat) (o : Option Addr) (c : Nat) (X : World) : Prop where
  lg : Rl X A { R with L := amid S R.L k }
  st : Chg (fun j => A.own j ∨ j = B) W X
  rb : X.heap[B]? = some (.cells (rrv o (rat S (R.L.take k)).length c none 0 0 (-1) 0) 45 (0, 0))
  pr : Qr X o c (rat S (R.L.take k))
  new : ∀ j, Blk o j → W.heap.size ≤ j
section
variable {W X Y : World} {A : Ra} {R : Rs} {S : List (Int × Int)} {B : Nat} {k : Nat} {o : Option Addr} {c : Nat}
theorem QaI.bel (h : QaI W A R S B k o c X) (hb : Below X.heap.size X Y) : QaI W A R S B k o c Y :=
  ⟨h.lg.bel hb, h.st.below hb, (hb.block B (Array.getElem?_eq_some_iff.1 h.rb).1).trans h.rb, Rw.bel h.pr hb, h.new⟩
theorem QaI.skip (h : QaI W A R S B k o c X) (hk : k < R.L.length) (h0 : ra S R.L[k] = false) : QaI W A R S B (k + 1) o c X := by
  have e5 : rat S (R.L.take (k + 1)) = rat S (R.L.take k) := by rw [List.take_succ_eq_append_getElem hk, rat_no _ h0]
  refine ⟨?_, h.st, by rw [e5]; exact h.rb, by rw [e5]; exact h.pr, h.new⟩
  rw [← amid_skip hk h0]
  exact h.lg
/-- One that arrives: its state is set, then it is told. -/
theorem QaI.push (h : QaI W A R S B k o c X) (hlt : ∀ j, A.own j → j < W.heap.size) (hBW : B < W.heap.size) (hBA : ¬ A.own B) (hk : k < R.L.length) (hl : R.L.length ≤ 3000000000000) (h0 : ra S R.L[k] = true) {g off : Nat} (ho : A.o = some ⟨g, off, none⟩) :
    ∃ g' off' c' w3, X.cell? ⟨A.b, 0, none⟩ = some (.slice A.o R.L.length A.c) ∧ (∃ v, X.cell? ⟨g, off + k * 5 + 4, none⟩ = some v) ∧ X.frozen? ⟨g, off + k * 5 + 4, none⟩ = false ∧
      (X.setCell ⟨g, off + k * 5 + 4, none⟩ (.int .i64 1)).cell? ⟨B, 0, none⟩ = some (.slice o (rat S (R.L.take k)).length c) ∧
      (∀ j Z, X.heap[j]? = some Z → ¬ A.own j → (X.setCell ⟨g, off + k * 5 + 4, none⟩ (.int .i64 1)).heap[j]? = some Z) ∧
      (∀ ty, (Builtin.append_ #[43, 43] ty #[.slice o (rat S (R.L.take k)).length c, .slice (some ⟨(X.setCell ⟨g, off + k * 5 + 4, none⟩ (.int .i64 1)).heap.size, 0, none⟩) 1 1]).run Try.prog ((X.setCell ⟨g, off + k * 5 + 4, none⟩ (.int .i64 1)).alloc (.cells #[.int .i64 R.L[k].1.n, .int .i64 R.L[k].1.a, .int .i64 R.L[k].1.s, .bool R.L[k].1.e, .int .i64 R.L[k].2] 37)) = .ok (.slice (some ⟨g', off', none⟩) ((rat S (R.L.take k)).length + 1) c') w3) ∧
      (∃ v, w3.cell? ⟨B, 0, none⟩ = some v) ∧ w3.frozen? ⟨B, 0, none⟩ = false ∧ QaI W A R S B (k + 1) (some ⟨g', off', none⟩) c' (w3.setCell ⟨B, 0, none⟩ (.slice (some ⟨g', off', none⟩) ((rat S (R.L.take k)).length + 1) c')) ∧ ∀ j Z, X.heap[j]? = some Z → ¬ A.own j → ¬ Blk o j → j ≠ B → (w3.setCell ⟨B, 0, none⟩ (.slice (some ⟨g', off', none⟩) ((rat S (R.L.take k)).length + 1) c')).heap[j]? = some Z := by
  have hml := amid_len S R.L k
  have hrl : (rat S (R.L.take k)).length ≤ R.L.length := Nat.le_trans (rat_len _ _) (by rw [List.length_take]; omega)
  have hown : ∀ j, A.own j → ¬ Blk o j := fun j hj hb => by have := h.new j hb; have := hlt j hj; omega
  have hBo : ¬ Blk o B := fun hb => by have := h.new B hb; omega
  have hm : k < ({ R with L := amid S R.L k } : Rs).L.length := by show k < (amid S R.L k).length; omega
  obtain ⟨g1, off1, e1, -, -, -, -, q4, f4⟩ := h.lg.row.cells hm
  rw [ho] at e1
  injection e1 with e1
  injection e1 with e1 e2
  subst e1 e2
  obtain ⟨m1, m2⟩ := h.lg.mark hm ho 1
  have hat : ({ R with L := amid S R.L k } : Rs).L[k] = R.L[k] := amid_at hk _
  rw [hat] at m1
  have e3 : ({ R with L := amid S R.L k } : Rs).L.set k (R.L[k].1, 1) = amid S R.L (k + 1) := amid_set hk h0
  have m1' : Rl (X.setCell ⟨g, off + k * 5 + 4, none⟩ (.int .i64 1)) A { R with L := amid S R.L (k + 1) } := by
    have := m1
    simp only at this
    rw [show (amid S R.L k).set k (R.L[k].1, 1) = amid S R.L (k + 1) from e3] at this
    exact this
  have hc0 := h.lg.c0
  have e4 : ({ R with L := amid S R.L k } : Rs).L.length = R.L.length := hml
  rw [e4] at hc0
  generalize hY : X.setCell ⟨g, off + k * 5 + 4, none⟩ (.int .i64 1) = Y at *
  have hkeep : ∀ j Z, X.heap[j]? = some Z → ¬ A.own j → Y.heap[j]? = some Z := fun j Z hj hn => m2.chg.blk hj hn
  have rbY := hkeep B _ h.rb hBA
  have prY : Qr Y o c (rat S (R.L.take k)) := Rw.chg h.pr m2.chg fun j hj hA => hown j hA hj
  obtain ⟨g', off', c', w3, p1, p2, p3, p4⟩ := prY.push R.L[k] (by omega) (.inl rfl)
  have rb3 := p3.blk rbY hBo
  have hgnew : W.heap.size ≤ g' := by
    rcases p4 with p4 | p4
    · exact h.new _ p4
    · exact Nat.le_trans (Nat.le_trans h.st.2.2.2.1 m2.chg.2.2.2.1) p4
  have c4 : Chg (fun j => j = B) w3 (w3.setCell ⟨B, 0, none⟩ (.slice (some ⟨g', off', none⟩) ((rat S (R.L.take k)).length + 1) c')) := by
    rw [setCell_eq_setRow w3 B 0 _ 45 (0, 0) _ rb3]
    exact Chg.setRow _ _ rfl
  have e5 : rat S (R.L.take (k + 1)) = rat S (R.L.take k) ++ [R.L[k]] := by rw [List.take_succ_eq_append_getElem hk, rat_yes _ h0]
  have e6 : (rat S (R.L.take (k + 1))).length = (rat S (R.L.take k)).length + 1 := by rw [e5, List.length_append]; rfl
  refine ⟨g', off', c', w3, hc0, ⟨_, q4⟩, f4, by simp [World.cell?, rbY, rrv], hkeep, p1, ⟨_, by simp [World.cell?, rb3, rrv]; rfl⟩, by simp [World.frozen?, rb3], ⟨?_, ?_, ?_, ?_, fun j hj => by rw [hj.of]; exact hgnew⟩, fun j Z hj n1 n2 n3 => c4.blk (p3.blk (hkeep j Z hj n1) n2) n3⟩
  · refine (m1'.chg p3 hown).chg c4 fun j hj e => hBA (e ▸ hj)
  · refine ((h.st.trans (m2.chg.mono fun j _ hj => .inl hj)).andThen p3 (fun j hj hb => by have := h.new j hb; omega)).trans (c4.mono fun j _ hj => .inr hj)
  · rw [e6, setCell_eq_setRow w3 B 0 _ 45 (0, 0) _ rb3, setRow_heap w3 B _ _ 45 (0, 0) rb3]
    simp [rrv]
  · rw [e5]
    refine Rw.chg p2 c4 fun j hj e => ?_
    obtain ⟨Z, hz⟩ := Rw.ty p2 hj
    rw [e, rb3] at hz
    simp at hz
end
end Go.Proofs.Ytkjcapmhjhnckaa
