/- The reference's lose. -/
import Derived.Test.YtkjcapmhjhnckaaJl
import Derived.Test.YtkjcapmhjhnckaaRc
import Derived.Deep.Cut
import Derived.Deep.CutRange
import Derived.Deep.RegionWith
import Derived.Deep.RegionLaw
namespace Go.Proofs.Ytkjcapmhjhnckaa
open Go.RowKit Go.Maps Go.Shelf
set_option linter.unusedVariables false
set_option maxRecDepth 100000

theorem rlm_snoc (g old : Int) (Q : List (Pk × Int)) (x : Pk × Int) : rlm g old (Q ++ [x]) = rlm g old Q ++ [if il g old x = true then (x.1, 2) else x] := by unfold rlm; rw [List.map_append]; rfl
theorem rlt_yes {g old : Int} (Q : List (Pk × Int)) {x : Pk × Int} (h : il g old x = true) : rlt g old (Q ++ [x]) = rlt g old Q ++ [x] := by unfold rlt; rw [List.filter_append, List.filter_cons_of_pos h]; rfl
theorem rlt_no {g old : Int} (Q : List (Pk × Int)) {x : Pk × Int} (h : il g old x = false) : rlt g old (Q ++ [x]) = rlt g old Q := by unfold rlt; rw [List.filter_append, List.filter_cons_of_neg (by rw [h]; simp)]; simp
def lmid (g old : Int) (Q : List (Pk × Int)) (k : Nat) : List (Pk × Int) := rlm g old (Q.take k) ++ Q.drop k
theorem lmid_len (g old : Int) (Q : List (Pk × Int)) (k : Nat) : (lmid g old Q k).length = Q.length := by
  unfold lmid
  rw [List.length_append, rlm_len, List.length_take, List.length_drop]; omega
theorem lmid_at {g old : Int} {Q : List (Pk × Int)} {k : Nat} (h : k < Q.length) (h2 : k < (lmid g old Q k).length) : (lmid g old Q k)[k] = Q[k] := by
  have e : (rlm g old (Q.take k)).length = k := by rw [rlm_len, List.length_take]; omega
  have h3 : (lmid g old Q k)[k]? = Q[k]? := by
    unfold lmid
    rw [List.getElem?_append_right (by omega), List.getElem?_drop]
    congr 1
    omega
  rw [List.getElem?_eq_getElem h2, List.getElem?_eq_getElem h] at h3
  exact Option.some.inj h3
theorem lmid_set {g old : Int} {Q : List (Pk × Int)} {k : Nat} (h : k < Q.length) (h0 : il g old Q[k] = true) : (lmid g old Q k).set k (Q[k].1, 2) = lmid g old Q (k + 1) := by
  have e : (rlm g old (Q.take k)).length = k := by rw [rlm_len, List.length_take]; omega
  unfold lmid
  rw [List.set_append_right _ _ (by omega), e, Nat.sub_self, List.drop_eq_getElem_cons h, List.set_cons_zero, List.take_succ_eq_append_getElem h, rlm_snoc, if_pos h0, List.append_assoc]
  rfl
theorem lmid_skip {g old : Int} {Q : List (Pk × Int)} {k : Nat} (h : k < Q.length) (h0 : il g old Q[k] = false) : lmid g old Q k = lmid g old Q (k + 1) := by
  unfold lmid
  rw [List.drop_eq_getElem_cons h, List.take_succ_eq_append_getElem h, rlm_snoc, if_neg (by rw [h0]; simp), List.append_assoc]
  rfl
theorem rlt_len (g old : Int) (Q : List (Pk × Int)) : (rlt g old Q).length ≤ Q.length := List.length_filter_le _ _
/-- A result of the reference's, as it lies: what arrived, what is lost, sample, spread. -/
def rrv (o1 : Option Addr) (n1 c1 : Nat) (o : Option Addr) (n c : Nat) (sa sd : Int) : Array Value := #[.slice o1 n1 c1, .slice o n c, .int .i64 sa, .int .i64 sd]
/-- The first k looked through; the result lies in B. -/
structure QlI (W : World) (A : Ra) (R : Rs) (old : Int) (B : Nat) (o1 : Option Addr) (n1 c1 : Nat) (sa : Int) (k : Nat) (o : Option Addr) (c : Nat) (X : World) : Prop where
  lg : Rl X A { R with L := lmid R.g old R.L k }
  st : Chg (fun j => A.own j ∨ j = B) W X
  rb : X.heap[B]? = some (.cells (rrv o1 n1 c1 o (rlt R.g old (R.L.take k)).length c sa 0) 45 (0, 0))
  pr : Qr X o c (rlt R.g old (R.L.take k))
  new : ∀ j, Blk o j → W.heap.size ≤ j
section
variable {W X Y : World} {A : Ra} {R : Rs} {old : Int} {B : Nat} {o1 : Option Addr} {n1 c1 : Nat} {sa : Int} {k : Nat} {o : Option Addr} {c : Nat}
theorem QlI.bel (h : QlI W A R old B o1 n1 c1 sa k o c X) (hb : Below X.heap.size X Y) : QlI W A R old B o1 n1 c1 sa k o c Y :=
  ⟨h.lg.bel hb, h.st.below hb, (hb.block B (Array.getElem?_eq_some_iff.1 h.rb).1).trans h.rb, Rw.bel h.pr hb, h.new⟩
theorem QlI.skip (h : QlI W A R old B o1 n1 c1 sa k o c X) (hk : k < R.L.length) (h0 : il R.g old R.L[k] = false) : QlI W A R old B o1 n1 c1 sa (k + 1) o c X := by
  have e5 : rlt R.g old (R.L.take (k + 1)) = rlt R.g old (R.L.take k) := by rw [List.take_succ_eq_append_getElem hk, rlt_no _ h0]
  refine ⟨?_, h.st, by rw [e5]; exact h.rb, by rw [e5]; exact h.pr, h.new⟩
  rw [← lmid_skip hk h0]
  exact h.lg
/-- One that is lost: its state is set, then it is told. -/
theorem QlI.push (h : QlI W A R old B o1 n1 c1 sa k o c X) (hlt : ∀ j, A.own j → j < W.heap.size) (hBW : B < W.heap.size) (hBA : ¬ A.own B) (hk : k < R.L.length) (hl : R.L.length ≤ 3000000000000) (h0 : il R.g old R.L[k] = true) {g off : Nat} (ho : A.o = some ⟨g, off, none⟩) :
    ∃ g' off' c' w3, X.cell? ⟨A.b, 0, none⟩ = some (.slice A.o R.L.length A.c) ∧ (∃ v, X.cell? ⟨g, off + k * 5 + 4, none⟩ = some v) ∧ X.frozen? ⟨g, off + k * 5 + 4, none⟩ = false ∧
      (X.setCell ⟨g, off + k * 5 + 4, none⟩ (.int .i64 2)).cell? ⟨B, 1, none⟩ = some (.slice o (rlt R.g old (R.L.take k)).length c) ∧
      (∀ j Z, X.heap[j]? = some Z → ¬ A.own j → (X.setCell ⟨g, off + k * 5 + 4, none⟩ (.int .i64 2)).heap[j]? = some Z) ∧
      (∀ ty, (Builtin.append_ #[43, 43] ty #[.slice o (rlt R.g old (R.L.take k)).length c, .slice (some ⟨(X.setCell ⟨g, off + k * 5 + 4, none⟩ (.int .i64 2)).heap.size, 0, none⟩) 1 1]).run Try.prog ((X.setCell ⟨g, off + k * 5 + 4, none⟩ (.int .i64 2)).alloc (.cells #[.int .i64 R.L[k].1.n, .int .i64 R.L[k].1.a, .int .i64 R.L[k].1.s, .bool R.L[k].1.e, .int .i64 R.L[k].2] 37)).drew = .ok (.slice (some ⟨g', off', none⟩) ((rlt R.g old (R.L.take k)).length + 1) c') w3) ∧
      (∃ v, w3.cell? ⟨B, 1, none⟩ = some v) ∧ w3.frozen? ⟨B, 1, none⟩ = false ∧ QlI W A R old B o1 n1 c1 sa (k + 1) (some ⟨g', off', none⟩) c' (w3.setCell ⟨B, 1, none⟩ (.slice (some ⟨g', off', none⟩) ((rlt R.g old (R.L.take k)).length + 1) c')) := by
  have hml := lmid_len R.g old R.L k
  have hrl : (rlt R.g old (R.L.take k)).length ≤ R.L.length := Nat.le_trans (rlt_len _ _ _) (by rw [List.length_take]; omega)
  have hown : ∀ j, A.own j → ¬ Blk o j := fun j hj hb => by have := h.new j hb; have := hlt j hj; omega
  have hBo : ¬ Blk o B := fun hb => by have := h.new B hb; omega
  have hm : k < ({ R with L := lmid R.g old R.L k } : Rs).L.length := by show k < (lmid R.g old R.L k).length; omega
  obtain ⟨g1, off1, e1, -, -, -, -, q4, f4⟩ := h.lg.row.cells hm
  rw [ho] at e1
  injection e1 with e1
  injection e1 with e1 e2
  subst e1 e2
  obtain ⟨m1, m2⟩ := h.lg.mark hm ho 2
  have hat : ({ R with L := lmid R.g old R.L k } : Rs).L[k] = R.L[k] := lmid_at hk _
  rw [hat] at m1
  have e3 : ({ R with L := lmid R.g old R.L k } : Rs).L.set k (R.L[k].1, 2) = lmid R.g old R.L (k + 1) := lmid_set hk h0
  have m1' : Rl (X.setCell ⟨g, off + k * 5 + 4, none⟩ (.int .i64 2)) A { R with L := lmid R.g old R.L (k + 1) } := by
    have := m1
    simp only at this
    rw [show (lmid R.g old R.L k).set k (R.L[k].1, 2) = lmid R.g old R.L (k + 1) from e3] at this
    exact this
  have hc0 := h.lg.c0
  have e4 : ({ R with L := lmid R.g old R.L k } : Rs).L.length = R.L.length := hml
  rw [e4] at hc0
  generalize hY : X.setCell ⟨g, off + k * 5 + 4, none⟩ (.int .i64 2) = Y at *
  have hkeep : ∀ j Z, X.heap[j]? = some Z → ¬ A.own j → Y.heap[j]? = some Z := fun j Z hj hn => m2.chg.blk hj hn
  have rbY := hkeep B _ h.rb hBA
  have prY : Qr Y o c (rlt R.g old (R.L.take k)) := Rw.chg h.pr m2.chg fun j hj hA => hown j hA hj
  obtain ⟨g', off', c', w3, p1, p2, p3, p4⟩ := prY.push R.L[k] (by omega) (.inr rfl)
  have rb3 := p3.blk rbY hBo
  have hgnew : W.heap.size ≤ g' := by
    rcases p4 with p4 | p4
    · exact h.new _ p4
    · exact Nat.le_trans (Nat.le_trans h.st.2.2.2.1 m2.chg.2.2.2.1) p4
  have c4 : Chg (fun j => j = B) w3 (w3.setCell ⟨B, 1, none⟩ (.slice (some ⟨g', off', none⟩) ((rlt R.g old (R.L.take k)).length + 1) c')) := by
    rw [setCell_eq_setRow w3 B 1 _ 45 (0, 0) _ rb3]
    exact Chg.setRow _ _ rfl
  have e5 : rlt R.g old (R.L.take (k + 1)) = rlt R.g old (R.L.take k) ++ [R.L[k]] := by rw [List.take_succ_eq_append_getElem hk, rlt_yes _ h0]
  have e6 : (rlt R.g old (R.L.take (k + 1))).length = (rlt R.g old (R.L.take k)).length + 1 := by rw [e5, List.length_append]; rfl
  refine ⟨g', off', c', w3, hc0, ⟨_, q4⟩, f4, by simp [World.cell?, rbY, rrv], hkeep, p1, ⟨_, by simp [World.cell?, rb3, rrv]; rfl⟩, by simp [World.frozen?, rb3], ?_, ?_, ?_, ?_, fun j hj => by rw [hj.of]; exact hgnew⟩
  · refine (m1'.chg p3 hown).chg c4 fun j hj e => hBA (e ▸ hj)
  · refine ((h.st.trans (m2.chg.mono fun j _ hj => .inl hj)).andThen p3 (fun j hj hb => by have := h.new j hb; omega)).trans (c4.mono fun j _ hj => .inr hj)
  · rw [e6, setCell_eq_setRow w3 B 1 _ 45 (0, 0) _ rb3, setRow_heap w3 B _ _ 45 (0, 0) rb3]
    simp [rrv]
  · rw [e5]
    refine Rw.chg p2 c4 fun j hj e => ?_
    obtain ⟨Z, hz⟩ := Rw.ty p2 hj
    rw [e, rb3] at hz
    simp at hz
end
end Go.Proofs.Ytkjcapmhjhnckaa
