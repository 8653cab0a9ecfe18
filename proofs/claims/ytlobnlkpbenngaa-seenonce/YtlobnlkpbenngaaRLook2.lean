/- ranges: Gap and Ends of a set that was made; slices.Clone over spans. -/
import Derived.Test.YtlobnlkpbenngaaRLook
namespace Go.Proofs.YtlobnlkpbenngaaR
open Go.RowKit Go.Shelf Go.Lib
set_option linter.unusedVariables false

/-- The least number from q on that is not in it, or -1. -/
def GapV (q : Int) (L : List (Int × Int)) (v : Int) : Prop := ∃ m, ((∃ p ∈ L, p.1 ≤ q ∧ q ≤ p.2 ∧ m = p.2 + 1) ∨ (¬ In q L ∧ m = q)) ∧ v = if 4611686018427387903 < m then -1 else m

/-- What Ends answers. -/
def EndV (L : List (Int × Int)) : Int × Int := match L with
  | [] => (-1, -1)
  | d :: t => (d.1, ((d :: t).getLast (by simp)).2)

set_option maxRecDepth 100000 in
theorem eql26_none (w : World) : (binOp .eql 47 (.slice none 0 0) (.slice none 0 0)).run Try.prog w = .ok (.bool true) w := by
  kernel_rfl
set_option maxRecDepth 100000 in
theorem eql26_some (a : Addr) (n c : Nat) (w : World) : (binOp .eql 47 (.slice (some a) n c) (.slice none 0 0)).run Try.prog w = .ok (.bool false) w := by
  kernel_rfl
attribute [local go_sem] eql26_none eql26_some

set_option maxRecDepth 100000 in
theorem clone_row (o : Option Addr) (c : Nat) (L : List (Int × Int)) (w : World) (hr : Rs w o c L) (hsz : L.length ≤ 65536) :
    Calls Try.prog 67 #[.slice o L.length c] w fun e w' => ∃ o' c', e = .returned (.slice o' L.length c') ∧ Rs w' o' c' L ∧ Below w.heap.size w w' ∧ (∀ g, o' = some ⟨g, 0, none⟩ → w.heap.size ≤ g) := by
  rcases hr with ⟨rfl, rfl, rfl⟩ | ⟨g, R, rfl, hA, hR⟩
  · go_enter Try.func67, Try.ntmps67
    go_wp2
    go_ret
    exact ⟨none, 0, rfl, .inl ⟨rfl, rfl, rfl⟩, Below.refl _ _, fun g h => nomatch h⟩
  · have hA0 : At (w.alloc (.cells #[] 53)) w.heap.size (fl [] ++ []) := at_alloc w []
    have hA1 : At (w.alloc (.cells #[] 53)) g (fl L ++ R) := hA.alloc _
    have hs : Src Try.prog 2 47 (.slice (some ⟨g, 0, none⟩) L.length c) L.length (fl L) (w.alloc (.cells #[] 53)) := src2 _ ⟨g, 0, none⟩ c L (At.src (A := []) hA1 rfl)
    have hb0 : Below w.heap.size w (w.alloc (.cells #[] 53)) := (Below.refl _ w).alloc (Nat.le_refl _) _
    obtain ⟨g', c', w', hrun, hr', hb', hg'⟩ : ∃ g' c' w', (∀ ty, (Builtin.append_ #[47, 47] ty #[.slice (some ⟨w.heap.size, 0, none⟩) 0 0, .slice (some ⟨g, 0, none⟩) L.length c]).run Try.prog (w.alloc (.cells #[] 53)) = .ok (.slice (some ⟨g', 0, none⟩) L.length c') w') ∧ Rs w' (some ⟨g', 0, none⟩) c' L ∧ Below w.heap.size w w' ∧ w.heap.size ≤ g' := by
      rcases Nat.eq_zero_or_pos L.length with h0 | h0
      · obtain rfl := List.length_eq_zero_iff.1 h0
        have hrun := fun ty => run_append2_room (w.alloc (.cells #[] 53)) ty w.heap.size 0 0 _ _ 0 [] hA0 hs (by simp) (by simp [fl]) rfl
        refine ⟨w.heap.size, 0, _, hrun, .inr ⟨w.heap.size, [], rfl, hA0.set _, by simp⟩, hb0.trans (hA0.sub (W := w) _ (Nat.le_refl _)), Nat.le_refl _⟩
      · obtain ⟨c', hc', hrun0, hmax⟩ := run_append2_grow (w.alloc (.cells #[] 53)) 47 (some ⟨w.heap.size, 0, none⟩) 0 0 [] L _ L.length rfl rfl (.inr ⟨_, [], rfl, hA0⟩) hs (by omega) (by omega)
        rw [Nat.zero_add] at hrun0 hc'
        refine ⟨_, c', _, fun ty => hrun0, .inr ⟨_, zs (c' - L.length), rfl, ?_, by simp; omega⟩, hb0.trans ((Below.refl _ _).drew.alloc (by simp) _), by simp⟩
        have := at_alloc (w.alloc (.cells #[] 53)).drew (fl [] ++ fl L ++ zs (c' - L.length))
        simpa [fl] using this
    have HR : Aside (Rs w' (some ⟨g', 0, none⟩) c' L) := hr'
    have HB : Aside (Below w.heap.size w w') := hb'
    clear hr' hb' hs hA hA0 hA1
    generalize hNL : L.length = N at *
    go_enter Try.func67, Try.ntmps67
    go_wp2_with (at_builtin; refine Lib.wpList_append_run _ rfl _ _ _ _ rfl _ _ rfl rfl _ _ (hrun _) ?_)
    go_ret
    exact ⟨_, c', rfl, HR.out, HB.out, fun q h => by simp at h; omega⟩

end Go.Proofs.YtlobnlkpbenngaaR
