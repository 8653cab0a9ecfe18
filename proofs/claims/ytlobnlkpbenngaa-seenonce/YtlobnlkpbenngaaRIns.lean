/- slices.Insert over spans. -/
import Derived.Test.YtlobnlkpbenngaaRRow
import Derived.Shelf.Spec.SlicesInsert
namespace Go.Proofs.YtlobnlkpbenngaaR
open Go.RowKit Go.Shelf Go.Lib
set_option linter.unusedVariables false

/-- A slice of the spans L. -/
def Rs (w : World) (o : Option Addr) (c : Nat) (L : List (Int × Int)) : Prop :=
  (o = none ∧ L = [] ∧ c = 0) ∨ ∃ g R, o = some ⟨g, 0, none⟩ ∧ At w g (fl L ++ R) ∧ R.length + L.length * 2 = c * 2
/-- Nothing but the blocks X and what is new has turned. -/
def Chg (X : Nat → Prop) (w w' : World) : Prop := w'.os = w.os ∧ w'.tape = w.tape ∧ w'.output = w.output ∧ w.heap.size ≤ w'.heap.size ∧ ∀ k, k < w.heap.size → ¬ X k → w'.heap[k]? = w.heap[k]?
set_option maxRecDepth 100000 in
theorem Chg.refl (X : Nat → Prop) (w : World) : Chg X w w := ⟨rfl, rfl, rfl, Nat.le_refl _, fun _ _ _ => rfl⟩
set_option maxRecDepth 100000 in
theorem Chg.trans {X : Nat → Prop} {a b c : World} (h : Chg X a b) (k : Chg X b c) : Chg X a c :=
  ⟨k.1.trans h.1, k.2.1.trans h.2.1, k.2.2.1.trans h.2.2.1, Nat.le_trans h.2.2.2.1 k.2.2.2.1, fun j hj hx => (k.2.2.2.2 j (Nat.lt_of_lt_of_le hj h.2.2.2.1) hx).trans (h.2.2.2.2 j hj hx)⟩
set_option maxRecDepth 100000 in
theorem Chg.mono {X Y : Nat → Prop} {a b : World} (h : Chg X a b) (hXY : ∀ k, k < a.heap.size → X k → Y k) : Chg Y a b := ⟨h.1, h.2.1, h.2.2.1, h.2.2.2.1, fun j hj hx => h.2.2.2.2 j hj (fun hX => hx (hXY j hj hX))⟩
set_option maxRecDepth 100000 in
theorem Chg.set {X : Nat → Prop} {a b : World} (h : Chg X a b) (g : Nat) (Y : Array Value) (hg : X g ∨ a.heap.size ≤ g) : Chg X a (b.setRow g Y) :=
  ⟨h.1, h.2.1, h.2.2.1, by simpa using h.2.2.2.1, fun j hj hx => (setRow_other b g j Y (by rintro rfl; rcases hg with hg | hg; exact hx hg; omega)).trans (h.2.2.2.2 j hj hx)⟩
set_option maxRecDepth 100000 in
theorem Chg.alloc {X : Nat → Prop} {a b : World} (h : Chg X a b) (o : Obj) : Chg X a (b.alloc o) :=
  ⟨h.1, h.2.1, h.2.2.1, by have := h.2.2.2.1; simp; omega, fun j hj hx => (Below.heap_alloc b o j (Nat.lt_of_lt_of_le hj h.2.2.2.1)).trans (h.2.2.2.2 j hj hx)⟩
set_option maxRecDepth 100000 in
theorem Chg.drew {X : Nat → Prop} {a b : World} (h : Chg X a b) : Chg X a b.drew := h
set_option maxRecDepth 100000 in
theorem Chg.below {X : Nat → Prop} {a b : World} (h : Below a.heap.size a b) : Chg X a b := ⟨h.os, h.tape, h.output, h.size, fun j hj _ => h.block j hj⟩

/-- What Insert and Replace answer. -/
def Out (w : World) (o : Option Addr) (L : List (Int × Int)) (e : Ending) (w' : World) : Prop :=
  ∃ o' c', e = .returned (.slice o' L.length c') ∧ Rs w' o' c' L ∧ c' ≤ maxLen ∧ Chg (fun k => o = some ⟨k, 0, none⟩) w w' ∧ (o' = o ∨ ∃ g, o' = some ⟨g, 0, none⟩ ∧ w.heap.size ≤ g)

set_option maxRecDepth 100000 in
theorem at_alloc (w : World) (X : List Value) : At (w.alloc (.cells X.toArray 53)) w.heap.size X := World.alloc_heap_new w _
set_option maxRecDepth 100000 in
theorem At.other {w : World} {g V : Nat} {X : List Value} (h : At w V X) (Y : Array Value) (hne : V ≠ g) : At (w.setRow g Y) V X := (setRow_other w g V Y hne).trans h
set_option maxRecDepth 100000 in
theorem At.alloc {w : World} {V : Nat} {X : List Value} (h : At w V X) (o : Obj) : At (w.alloc o) V X := (Below.heap_alloc w o V h.lt).trans h
set_option maxRecDepth 100000 in
theorem At.src {w : World} {V : Nat} {M : List (Int × Int)} {A Y : List Value} {o : Nat} (h : At w V (A ++ fl M ++ Y)) (hA : A.length = o) : ∀ j u, (fl M)[j]? = some u → w.cell? ((⟨V, o, none⟩ : Addr).add j) = some u := by
  intro j u hj
  have hlt := (List.getElem?_eq_some_iff.1 hj).1
  rw [Addr.add_lit, h.cell, List.append_assoc, List.getElem?_append_right (by omega), hA, Nat.add_sub_cancel_left, List.getElem?_append_left hlt, hj]

set_option maxRecDepth 100000 in
theorem insert_end_grow (o : Option Addr) (c V vc m n : Nat) (L M : List (Int × Int)) (Y : List Value) (w : World) (hL : L.length = n) (hM : M.length = m) (hm : 0 < m)
    (hr : Rs w o c L) (hv : At w V (fl M ++ Y)) (hroom : c < n + m) (hsm : n + m ≤ 70000) :
    Calls Try.prog 74 #[.slice o n c, .int .i64 n, .slice (some ⟨V, 0, none⟩) m vc] w (Out w o (L ++ M)) := by
  have hz1 : ¬ ((m : Int) = 0) := by omega
  have hnc : n ≤ c := by
    rcases hr with ⟨_, rfl, rfl⟩ | ⟨g, R, _, _, h⟩
    · simp at hL; omega
    · omega
  have hs : Src Try.prog 2 47 (.slice (some ⟨V, 0, none⟩) m vc) m (fl M) w := hM ▸ src2 w ⟨V, 0, none⟩ vc M (At.src (A := []) hv rfl)
  have hb : (o = none ∧ L = []) ∨ ∃ g X, o = some ⟨g, 0, none⟩ ∧ At w g (fl L ++ X) := by
    rcases hr with ⟨h1, h2, _⟩ | ⟨g, R, h1, h2, _⟩
    · exact .inl ⟨h1, h2⟩
    · exact .inr ⟨g, R, h1, h2⟩
  have hx := fun ty => run_append2_grow w ty o n c L M _ m hL hM hb hs hroom hsm
  obtain ⟨c', hc', hrun0, hmax⟩ := hx 47
  have hrun : ∀ ty, (Builtin.append_ #[47, 47] ty #[.slice o n c, .slice (some ⟨V, 0, none⟩) m vc]).run Try.prog w = _ := fun ty => hrun0
  have hO : Out w o (L ++ M) (.returned (.slice (some ⟨w.heap.size, 0, none⟩) (n + m) c')) (w.drew.alloc (.cells (fl L ++ fl M ++ zs (c' - (n + m))).toArray 53)) := by
    refine ⟨_, c', by rw [List.length_append, hL, hM], .inr ⟨w.heap.size, zs (c' - (n + m)), rfl, ?_, by simp; omega⟩, hmax, ((Chg.refl _ w).drew).alloc _, .inr ⟨_, rfl, Nat.le_refl _⟩⟩
    rw [fl_append]
    exact at_alloc w.drew _
  generalize w.drew.alloc (.cells (fl L ++ fl M ++ zs (c' - (n + m))).toArray 53) = W' at hrun hO
  go_enter Try.func74, Try.ntmps74
  rcases hb with ⟨rfl, rfl⟩ | ⟨g, X, rfl, hA⟩
  all_goals
    go_wp2_with (at_builtin; refine Lib.wpList_append_run _ rfl _ _ _ _ rfl _ _ rfl rfl _ _ (hrun _) ?_)
    all_goals (go_ret; exact hO)

set_option maxRecDepth 100000 in
theorem insert_end_room (g c V vc m n : Nat) (L M : List (Int × Int)) (R Y : List Value) (w : World) (hL : L.length = n) (hM : M.length = m) (hm : 0 < m)
    (hA : At w g (fl L ++ R)) (hR : R.length + n * 2 = c * 2) (hcm : c ≤ maxLen) (hv : At w V (fl M ++ Y)) (hroom : n + m ≤ c) :
    Calls Try.prog 74 #[.slice (some ⟨g, 0, none⟩) n c, .int .i64 n, .slice (some ⟨V, 0, none⟩) m vc] w (Out w (some ⟨g, 0, none⟩) (L ++ M)) := by
  have hz1 : ¬ ((m : Int) = 0) := by omega
  have hs : Src Try.prog 2 47 (.slice (some ⟨V, 0, none⟩) m vc) m (fl M) w := hM ▸ src2 w ⟨V, 0, none⟩ vc M (At.src (A := []) hv rfl)
  have hrun : ∀ ty, (Builtin.append_ #[47, 47] ty #[.slice (some ⟨g, 0, none⟩) n c, .slice (some ⟨V, 0, none⟩) m vc]).run Try.prog w = _ := fun ty => run_append2_room w ty g n c _ _ m M hA hs hroom (by simp; omega) hM
  have hO : Out w (some ⟨g, 0, none⟩) (L ++ M) (.returned (.slice (some ⟨g, 0, none⟩) (n + m) c)) (w.setRow g ((fl L ++ R).take (n * 2) ++ fl M ++ (fl L ++ R).drop (n * 2 + (fl M).length)).toArray) := by
    refine ⟨_, c, by rw [List.length_append, hL, hM], .inr ⟨g, R.drop (m * 2), rfl, ?_, by simp; omega⟩, hcm, (Chg.refl _ w).set g _ (.inl rfl), .inl rfl⟩
    have e := over_eq (X := fl L ++ R) (P := fl L) (Q := R.take (m * 2)) (S := R.drop (m * 2)) (M := fl M) (o := n * 2) (by rw [List.append_assoc, List.take_append_drop]) (by simp [hL]) (by simp; omega)
    rw [e, fl_append]
    exact hA.set _
  generalize w.setRow g ((fl L ++ R).take (n * 2) ++ fl M ++ (fl L ++ R).drop (n * 2 + (fl M).length)).toArray = W' at hrun hO
  go_enter Try.func74, Try.ntmps74
  go_wp2_with (at_builtin; refine Lib.wpList_append_run _ rfl _ _ _ _ rfl _ _ rfl rfl _ _ (hrun _) ?_)
  all_goals (go_ret; exact hO)

end Go.Proofs.YtlobnlkpbenngaaR
