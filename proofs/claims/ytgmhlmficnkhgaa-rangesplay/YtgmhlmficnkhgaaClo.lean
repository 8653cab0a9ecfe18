/- ranges: Clone of a set that was made. -/
import Derived.Test.YtgmhlmficnkhgaaRound
namespace Go.Proofs.Ytgmhlmficnkhgaa
open Go.RowKit Go.Shelf Go.Lib
set_option linter.unusedVariables false

attribute [local go_sem] Oper.semAt_some

/-- One span behind the spans of a set, laid by its head. -/
theorem push_upd (W : World) (C cc : Nat) (oc : Option Addr) (pre : List (Int × Int)) (x y : Int) (h : Se W C oc cc pre) (hsz : pre.length ≤ 65536) :
    ∃ g c' w3, (∀ ty, (Builtin.append_ #[26, 26] ty #[.slice oc pre.length cc, .slice (some ⟨W.heap.size, 0, none⟩) 1 1]).run Try.prog (W.drew.alloc (.cells #[.int .i64 x, .int .i64 y] 50)) = .ok (.slice (some ⟨g, 0, none⟩) (pre.length + 1) c') w3) ∧
      Chg (fun k => oc = some ⟨k, 0, none⟩) W w3 ∧ w3.cell? ⟨C, 1, none⟩ = some (.slice oc pre.length cc) ∧ w3.frozen? ⟨C, 1, none⟩ = false ∧ Upd W (w3.setCell ⟨C, 1, none⟩ (.slice (some ⟨g, 0, none⟩) (pre.length + 1) c')) C oc (pre ++ [(x, y)]) := by
  have hT : At (W.drew.alloc (.cells #[.int .i64 x, .int .i64 y] 50)) W.heap.size (fl [(x, y)] ++ []) := at_alloc W.drew _
  have hC0 : Chg (fun k => oc = some ⟨k, 0, none⟩) W (W.drew.alloc (.cells #[.int .i64 x, .int .i64 y] 50)) := ((Chg.refl _ W).drew).alloc _
  obtain ⟨g, c', w3, hrun, hr, hm, hch, hg⟩ : ∃ g c' w3, (∀ ty, (Builtin.append_ #[26, 26] ty #[.slice oc pre.length cc, .slice (some ⟨W.heap.size, 0, none⟩) 1 1]).run Try.prog (W.drew.alloc (.cells #[.int .i64 x, .int .i64 y] 50)) = .ok (.slice (some ⟨g, 0, none⟩) (pre.length + 1) c') w3) ∧ Rs w3 (some ⟨g, 0, none⟩) c' (pre ++ [(x, y)]) ∧ c' ≤ maxLen ∧ Chg (fun k => oc = some ⟨k, 0, none⟩) W w3 ∧ (some ⟨g, 0, none⟩ = oc ∨ W.heap.size ≤ g) := by
    have hs : Src Try.prog 2 26 (.slice (some ⟨W.heap.size, 0, none⟩) 1 1) 1 (fl [(x, y)]) (W.drew.alloc (.cells #[.int .i64 x, .int .i64 y] 50)) := src2 _ ⟨W.heap.size, 0, none⟩ 1 [(x, y)] (At.src (A := []) hT rfl)
    by_cases hroom : pre.length + 1 ≤ cc
    · rcases h.2.1 with ⟨rfl, rfl, rfl⟩ | ⟨g, R, rfl, hA, hR⟩
      · simp at hroom
      · have hA' : At (W.drew.alloc (.cells #[.int .i64 x, .int .i64 y] 50)) g (fl pre ++ R) := At.alloc (w := W.drew) hA _
        have hrun := fun ty => run_append2_room _ ty g pre.length cc _ _ 1 [(x, y)] hA' hs hroom (by simp; omega) rfl
        refine ⟨g, cc, _, hrun, .inr ⟨g, R.drop 2, rfl, ?_, by simp; omega⟩, h.2.2, hC0.set g _ (.inl rfl), .inl rfl⟩
        have e := over_eq (X := fl pre ++ R) (P := fl pre) (Q := R.take 2) (S := R.drop 2) (M := fl [(x, y)]) (o := pre.length * 2) (by rw [List.append_assoc, List.take_append_drop]) (by simp) (by simp [fl]; omega)
        rw [e, fl_append]
        exact hA'.set _
    · have hb : (oc = none ∧ pre = []) ∨ ∃ g X, oc = some ⟨g, 0, none⟩ ∧ At (W.drew.alloc (.cells #[.int .i64 x, .int .i64 y] 50)) g (fl pre ++ X) := by
        rcases h.2.1 with ⟨h1, h2, _⟩ | ⟨g, R, h1, h2, _⟩
        · exact .inl ⟨h1, h2⟩
        · exact .inr ⟨g, R, h1, At.alloc (w := W.drew) h2 _⟩
      obtain ⟨c', hc', hrun0, hmax⟩ := run_append2_grow (W.drew.alloc (.cells #[.int .i64 x, .int .i64 y] 50)) 26 oc pre.length cc pre [(x, y)] _ 1 rfl rfl hb hs (by omega) (by omega)
      refine ⟨_, c', _, fun ty => hrun0, .inr ⟨_, zs (c' - (pre.length + 1)), rfl, ?_, by simp; omega⟩, hmax, (hC0.drew).alloc _, .inr (by simp)⟩
      rw [fl_append]
      exact at_alloc _ _
  refine ⟨g, c', w3, hrun, hch, ?_⟩
  have hS : w3.heap[C]? = some (.cells #[.bool true, .slice oc pre.length cc] 38 (0, 0)) := (hch.2.2.2.2 C h.lt (fun e => h.ne e)).trans h.1
  refine ⟨by simp [World.cell?, hS], by simp [World.frozen?, hS], some ⟨g, 0, none⟩, c', ⟨?_, ?_, hm⟩, ?_, ?_⟩
  · rw [setCell_eq_setRow w3 C 1 _ 38 (0, 0) _ hS, setRow_heap w3 C _ _ 38 (0, 0) hS]
    simp
  · rw [setCell_eq_setRow w3 C 1 _ 38 (0, 0) _ hS]
    rcases hr with ⟨h', _⟩ | ⟨q, R, hq, hA, hR⟩
    · cases h'
    · refine .inr ⟨q, R, hq, At.other hA _ ?_, hR⟩
      rintro rfl
      have := hS.symm.trans hA
      simp at this
  · rw [setCell_eq_setRow w3 C 1 _ 38 (0, 0) _ hS]
    exact (hch.mono (fun k _ hk => .inr hk)).set C _ (.inl (.inl rfl))
  · rcases hg with hg | hg
    · exact .inl hg
    · exact .inr ⟨g, rfl, hg⟩

/-- What stands between two rounds of Clone's loop: the copy C holds the spans that have come. -/
def CloI (w : World) (C Bc : Nat) (pre : List (Int × Int)) (W : World) : Prop :=
  (∃ oc cc, Se W C oc cc pre ∧ (∀ g, oc = some ⟨g, 0, none⟩ → w.heap.size ≤ g)) ∧ W.heap[Bc]? = some (.cells #[.pointer (some ⟨C, 0, none⟩)] 23 (0, 0)) ∧ Below w.heap.size w W

theorem kept_cells {A B : World} {row : Option Nat} {n k : Nat} {X : Array Value} {t : TypeId} (hk : A.heap[k]? = some (.cells X t (0, 0))) (hg : A.grownBy B row) (hr : ∀ r, row = some r → n ≤ r ∧ ∃ o : Obj, A.heap[r]? = some o ∧ o.isCells = false) : B.heap[k]? = some (.cells X t (0, 0)) := by
  refine (hg.block k (Array.getElem?_eq_some_iff.1 hk).1 ?_).trans hk
  intro e
  obtain ⟨_, o, ho, hc⟩ := hr k e.symm
  rw [hk] at ho
  cases ho
  simp [Obj.isCells] at hc
theorem Se_kept {A B : World} {row : Option Nat} {n S c : Nat} {o : Option Addr} {L : List (Int × Int)} (h : Se A S o c L) (hg : A.grownBy B row) (hr : ∀ r, row = some r → n ≤ r ∧ ∃ o : Obj, A.heap[r]? = some o ∧ o.isCells = false) : Se B S o c L := by
  refine ⟨kept_cells h.1 hg hr, ?_, h.2.2⟩
  rcases h.2.1 with h' | ⟨g, R, ho, hA, hR⟩
  · exact .inl h'
  · exact .inr ⟨g, R, ho, kept_cells hA hg hr, hR⟩
theorem below_kept {w A B : World} {row : Option Nat} {n : Nat} (h : Below w.heap.size w A) (hn : w.heap.size ≤ n) (hg : A.grownBy B row) (hr : ∀ r, row = some r → n ≤ r ∧ ∃ o : Obj, A.heap[r]? = some o ∧ o.isCells = false) : Below w.heap.size w B :=
  h.trans ⟨hg.os, hg.tape, hg.output, hg.size, fun k hk => hg.block k (Nat.lt_of_lt_of_le hk h.size) (fun e => by have := (hr k e.symm).1; omega)⟩
theorem CloI_own (w : World) (C Bc n : Nat) (hn : w.heap.size ≤ n) : OwnFrom n (CloI w C Bc) := by
  rintro s A B row ⟨⟨oc, cc, h1, h2⟩, h3, h4⟩ hg hr
  exact ⟨⟨oc, cc, Se_kept h1 hg hr, h2⟩, kept_cells h3 hg hr, below_kept h4 hn hg hr⟩

end Go.Proofs.Ytgmhlmficnkhgaa
