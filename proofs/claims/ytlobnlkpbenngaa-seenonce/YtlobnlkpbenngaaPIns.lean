/- slices.Insert over spans. -/
import Derived.Test.YtlobnlkpbenngaaPRow
import Derived.Shelf.Spec.SlicesInsert
namespace Go.Proofs.YtlobnlkpbenngaaP
open Go.RowKit Go.Shelf Go.Lib
open Go.Proofs.YtlobnlkpbenngaaR (Chg Chg.refl Chg.trans Chg.below)
set_option linter.unusedVariables false

/-- A slice of the spans L. -/
def Rs (w : World) (o : Option Addr) (c : Nat) (L : List (Int × Nat)) : Prop :=
  (o = none ∧ L = [] ∧ c = 0) ∨ ∃ g R, o = some ⟨g, 0, none⟩ ∧ At w g (fl L ++ R) ∧ R.length + L.length * 2 = c * 2
/-- What Insert and Replace answer. -/
def Out (w : World) (o : Option Addr) (L : List (Int × Nat)) (e : Ending) (w' : World) : Prop :=
  ∃ o' c', e = .returned (.slice o' L.length c') ∧ Rs w' o' c' L ∧ c' ≤ maxLen ∧ Chg (fun k => o = some ⟨k, 0, none⟩) w w' ∧ (o' = o ∨ ∃ g, o' = some ⟨g, 0, none⟩ ∧ w.heap.size ≤ g)

set_option maxRecDepth 100000 in
theorem at_alloc (w : World) (X : List Value) : At (w.alloc (.cells X.toArray 73)) w.heap.size X := World.alloc_heap_new w _
set_option maxRecDepth 100000 in
theorem At.other {w : World} {g V : Nat} {X : List Value} (h : At w V X) (Y : Array Value) (hne : V ≠ g) : At (w.setRow g Y) V X := (setRow_other w g V Y hne).trans h
set_option maxRecDepth 100000 in
theorem At.alloc {w : World} {V : Nat} {X : List Value} (h : At w V X) (o : Obj) : At (w.alloc o) V X := (Below.heap_alloc w o V h.lt).trans h
set_option maxRecDepth 100000 in
theorem At.src {w : World} {V : Nat} {M : List (Int × Nat)} {A Y : List Value} {o : Nat} (h : At w V (A ++ fl M ++ Y)) (hA : A.length = o) : ∀ j u, (fl M)[j]? = some u → w.cell? ((⟨V, o, none⟩ : Addr).add j) = some u := by
  intro j u hj
  have hlt := (List.getElem?_eq_some_iff.1 hj).1
  rw [Addr.add_lit, h.cell, List.append_assoc, List.getElem?_append_right (by omega), hA, Nat.add_sub_cancel_left, List.getElem?_append_left hlt, hj]

set_option maxRecDepth 100000 in
theorem insert_end_grow (o : Option Addr) (c V vc m n : Nat) (L M : List (Int × Nat)) (Y : List Value) (w : World) (hL : L.length = n) (hM : M.length = m) (hm : 0 < m)
    (hr : Rs w o c L) (hv : At w V (fl M ++ Y)) (hroom : c < n + m) (hsm : n + m ≤ 68719476736) :
    Calls Try.prog 58 #[.slice o n c, .int .i64 n, .slice (some ⟨V, 0, none⟩) m vc] w (Out w o (L ++ M)) := by
  have hz1 : ¬ ((m : Int) = 0) := by omega
  have hnc : n ≤ c := by
    rcases hr with ⟨_, rfl, rfl⟩ | ⟨g, R, _, _, h⟩
    · simp at hL; omega
    · omega
  have hs : Src Try.prog 2 74 (.slice (some ⟨V, 0, none⟩) m vc) m (fl M) w := hM ▸ src2 w ⟨V, 0, none⟩ vc M (At.src (A := []) hv rfl)
  have hb : (o = none ∧ L = []) ∨ ∃ g X, o = some ⟨g, 0, none⟩ ∧ At w g (fl L ++ X) := by
    rcases hr with ⟨h1, h2, _⟩ | ⟨g, R, h1, h2, _⟩
    · exact .inl ⟨h1, h2⟩
    · exact .inr ⟨g, R, h1, h2⟩
  have hx := fun ty => run_append2_grow w ty o n c L M _ m hL hM hb hs hroom hsm
  obtain ⟨c', hc', hrun0, hmax⟩ := hx 74
  have hrun : ∀ ty, (Builtin.append_ #[74, 74] ty #[.slice o n c, .slice (some ⟨V, 0, none⟩) m vc]).run Try.prog w = _ := fun ty => hrun0
  have hO : Out w o (L ++ M) (.returned (.slice (some ⟨w.heap.size, 0, none⟩) (n + m) c')) (w.drew.alloc (.cells (fl L ++ fl M ++ zs (c' - (n + m))).toArray 73)) := by
    refine ⟨_, c', by rw [List.length_append, hL, hM], .inr ⟨w.heap.size, zs (c' - (n + m)), rfl, ?_, by simp; omega⟩, hmax, ((Chg.refl _ w).drew).alloc _, .inr ⟨_, rfl, Nat.le_refl _⟩⟩
    rw [fl_append]
    exact at_alloc w.drew _
  generalize w.drew.alloc (.cells (fl L ++ fl M ++ zs (c' - (n + m))).toArray 73) = W' at hrun hO
  go_enter Try.func58, Try.ntmps58
  rcases hb with ⟨rfl, rfl⟩ | ⟨g, X, rfl, hA⟩
  all_goals
    go_wp2_with (at_builtin; refine Lib.wpList_append_run _ rfl _ _ _ _ rfl _ _ rfl rfl _ _ (hrun _) ?_)
    all_goals (go_ret; exact hO)

set_option maxRecDepth 100000 in
theorem insert_end_room (g c V vc m n : Nat) (L M : List (Int × Nat)) (R Y : List Value) (w : World) (hL : L.length = n) (hM : M.length = m) (hm : 0 < m)
    (hA : At w g (fl L ++ R)) (hR : R.length + n * 2 = c * 2) (hcm : c ≤ maxLen) (hv : At w V (fl M ++ Y)) (hroom : n + m ≤ c) :
    Calls Try.prog 58 #[.slice (some ⟨g, 0, none⟩) n c, .int .i64 n, .slice (some ⟨V, 0, none⟩) m vc] w (Out w (some ⟨g, 0, none⟩) (L ++ M)) := by
  have hz1 : ¬ ((m : Int) = 0) := by omega
  have hs : Src Try.prog 2 74 (.slice (some ⟨V, 0, none⟩) m vc) m (fl M) w := hM ▸ src2 w ⟨V, 0, none⟩ vc M (At.src (A := []) hv rfl)
  have hrun : ∀ ty, (Builtin.append_ #[74, 74] ty #[.slice (some ⟨g, 0, none⟩) n c, .slice (some ⟨V, 0, none⟩) m vc]).run Try.prog w = _ := fun ty => run_append2_room w ty g n c _ _ m M hA hs hroom (by simp; omega) hM
  have hO : Out w (some ⟨g, 0, none⟩) (L ++ M) (.returned (.slice (some ⟨g, 0, none⟩) (n + m) c)) (w.setRow g ((fl L ++ R).take (n * 2) ++ fl M ++ (fl L ++ R).drop (n * 2 + (fl M).length)).toArray) := by
    refine ⟨_, c, by rw [List.length_append, hL, hM], .inr ⟨g, R.drop (m * 2), rfl, ?_, by simp; omega⟩, hcm, (Chg.refl _ w).set g _ (.inl rfl), .inl rfl⟩
    have e := over_eq (X := fl L ++ R) (P := fl L) (Q := R.take (m * 2)) (S := R.drop (m * 2)) (M := fl M) (o := n * 2) (by rw [List.append_assoc, List.take_append_drop]) (by simp [hL]) (by simp; omega)
    rw [e, fl_append]
    exact hA.set _
  generalize w.setRow g ((fl L ++ R).take (n * 2) ++ fl M ++ (fl L ++ R).drop (n * 2 + (fl M).length)).toArray = W' at hrun hO
  go_enter Try.func58, Try.ntmps58
  go_wp2_with (at_builtin; refine Lib.wpList_append_run _ rfl _ _ _ _ rfl _ _ rfl rfl _ _ (hrun _) ?_)
  all_goals (go_ret; exact hO)

end Go.Proofs.YtlobnlkpbenngaaP
