/- ranges: Gap and Ends of a set that was made; slices.Clone over spans. -/
import Derived.Test.YtfgfomkhlhiiiaaRLook
namespace Go.Proofs.YtfgfomkhlhiiiaaR
open Go.RowKit Go.Shelf Go.Lib
set_option linter.unusedVariables false

/-- The least number from q on that is not in it, or -1. -/
def GapV (q : Int) (L : List (Int × Int)) (v : Int) : Prop := ∃ m, ((∃ p ∈ L, p.1 ≤ q ∧ q ≤ p.2 ∧ m = p.2 + 1) ∨ (¬ In q L ∧ m = q)) ∧ v = if 4611686018427387903 < m then -1 else m

/-- What Ends answers. -/
def EndV (L : List (Int × Int)) : Int × Int := match L with
  | [] => (-1, -1)
  | d :: t => (d.1, ((d :: t).getLast (by simp)).2)

set_option maxRecDepth 100000 in
set_option maxHeartbeats 2000000 in
theorem ends_c (S c : Nat) (o : Option Addr) (L : List (Int × Int)) (w : World) (h : Se w S o c L) (hsz : L.length ≤ 65536) :
    Calls Try.prog 65 #[.pointer (some ⟨S, 0, none⟩)] w fun e w' => e = .returned (.tuple #[.int .i64 (EndV L).1, .int .i64 (EndV L).2]) ∧ Below w.heap.size w w' := by
  have h0 := h.head.1
  have h1 := h.head.2
  cases L with
  | nil =>
    go_enter Try.func65, Try.ntmps65
    go_wp2_with fail
    refine (yes_none S w h0).mono ?_
    rintro e w' ⟨rfl, hx⟩
    subst w'
    go_wp2
    go_ret2
    exact ⟨rfl, Below.refl _ _⟩
  | cons d t =>
    obtain ⟨g, R, rfl, hAt, hR⟩ : ∃ g R, o = some ⟨g, 0, none⟩ ∧ At w g (fl (d :: t) ++ R) ∧ R.length + (d :: t).length * 2 = c * 2 := by
      rcases h.2.1 with ⟨_, hh, _⟩ | hh
      · simp at hh
      · exact hh
    have c0 := (cells_at hAt 0 (by simp)).1
    have c1 := (cells_at hAt ((d :: t).length - 1) (by simp)).2
    have e1 : (EndV (d :: t)).1 = d.1 := rfl
    have e2 : (EndV (d :: t)).2 = ((d :: t)[(d :: t).length - 1]).2 := by rw [← List.getLast_eq_getElem (by simp)]; rfl
    rw [e1, e2]
    have c0' : w.cell? ⟨g, 0, none⟩ = some (.int .i64 d.1) := by simpa using c0
    generalize ((d :: t)[(d :: t).length - 1]).2 = y at c1
    generalize d.1 = x at c0'
    obtain ⟨N, hN⟩ : ∃ N, (d :: t).length = N := ⟨_, rfl⟩
    rw [hN] at h1 c1 hsz
    have hN0 : 0 < N := by rw [← hN]; simp
    have hN1 : ¬ ((N : Int) = 0) := by omega
    have hw : IntKind.i64.wrap ((N : Int) - 1) = ((N - 1 : Nat) : Int) := by rw [IntKind.wrap_i64]; omega
    have hN2 : ((N - 1 : Nat) : Int) < (N : Int) := by omega
    have hN3 : N - 1 < N := by omega
    clear h hAt c0 e1 e2
    go_enter Try.func65, Try.ntmps65
    go_wp2_with fail
    refine (yes_none S w h0).mono ?_
    rintro e w' ⟨rfl, hx⟩
    subst w'
    go_wp2
    go_region
    all_goals
      go_wp2
      go_ret2
      exact ⟨rfl, (Below.refl _ w).drew⟩

set_option maxRecDepth 100000 in
theorem eql26_none (w : World) : (binOp .eql 93 (.slice none 0 0) (.slice none 0 0)).run Try.prog w = .ok (.bool true) w := by
  kernel_rfl
set_option maxRecDepth 100000 in
theorem eql26_some (a : Addr) (n c : Nat) (w : World) : (binOp .eql 93 (.slice (some a) n c) (.slice none 0 0)).run Try.prog w = .ok (.bool false) w := by
  kernel_rfl
attribute [local go_sem] eql26_none eql26_some

set_option maxRecDepth 100000 in
theorem clone_row (o : Option Addr) (c : Nat) (L : List (Int × Int)) (w : World) (hr : Rs w o c L) (hsz : L.length ≤ 65536) :
    Calls Try.prog 64 #[.slice o L.length c] w fun e w' => ∃ o' c', e = .returned (.slice o' L.length c') ∧ Rs w' o' c' L ∧ Below w.heap.size w w' ∧ (∀ g, o' = some ⟨g, 0, none⟩ → w.heap.size ≤ g) := by
  rcases hr with ⟨rfl, rfl, rfl⟩ | ⟨g, R, rfl, hA, hR⟩
  · go_enter Try.func64, Try.ntmps64
    go_wp2
    go_ret
    exact ⟨none, 0, rfl, .inl ⟨rfl, rfl, rfl⟩, Below.refl _ _, fun g h => nomatch h⟩
  · have hA0 : At (w.alloc (.cells #[] 77)) w.heap.size (fl [] ++ []) := at_alloc w []
    have hA1 : At (w.alloc (.cells #[] 77)) g (fl L ++ R) := hA.alloc _
    have hs : Src Try.prog 2 93 (.slice (some ⟨g, 0, none⟩) L.length c) L.length (fl L) (w.alloc (.cells #[] 77)) := src2 _ ⟨g, 0, none⟩ c L (At.src (A := []) hA1 rfl)
    have hb0 : Below w.heap.size w (w.alloc (.cells #[] 77)) := (Below.refl _ w).alloc (Nat.le_refl _) _
    obtain ⟨g', c', w', hrun, hr', hb', hg'⟩ : ∃ g' c' w', (∀ ty, (Builtin.append_ #[93, 93] ty #[.slice (some ⟨w.heap.size, 0, none⟩) 0 0, .slice (some ⟨g, 0, none⟩) L.length c]).run Try.prog (w.alloc (.cells #[] 77)) = .ok (.slice (some ⟨g', 0, none⟩) L.length c') w') ∧ Rs w' (some ⟨g', 0, none⟩) c' L ∧ Below w.heap.size w w' ∧ w.heap.size ≤ g' := by
      rcases Nat.eq_zero_or_pos L.length with h0 | h0
      · obtain rfl := List.length_eq_zero_iff.1 h0
        have hrun := fun ty => run_append2_room (w.alloc (.cells #[] 77)) ty w.heap.size 0 0 _ _ 0 [] hA0 hs (by simp) (by simp [fl]) rfl
        refine ⟨w.heap.size, 0, _, hrun, .inr ⟨w.heap.size, [], rfl, hA0.set _, by simp⟩, hb0.trans (hA0.sub (W := w) _ (Nat.le_refl _)), Nat.le_refl _⟩
      · obtain ⟨c', hc', hrun0, hmax⟩ := run_append2_grow (w.alloc (.cells #[] 77)) 93 (some ⟨w.heap.size, 0, none⟩) 0 0 [] L _ L.length rfl rfl (.inr ⟨_, [], rfl, hA0⟩) hs (by omega) (by omega)
        rw [Nat.zero_add] at hrun0 hc'
        refine ⟨_, c', _, fun ty => hrun0, .inr ⟨_, zs (c' - L.length), rfl, ?_, by simp; omega⟩, hb0.trans ((Below.refl _ _).drew.alloc (by simp) _), by simp⟩
        have := at_alloc (w.alloc (.cells #[] 77)).drew (fl [] ++ fl L ++ zs (c' - L.length))
        simpa [fl] using this
    have HR : Aside (Rs w' (some ⟨g', 0, none⟩) c' L) := hr'
    have HB : Aside (Below w.heap.size w w') := hb'
    clear hr' hb' hs hA hA0 hA1
    generalize hNL : L.length = N at *
    go_enter Try.func64, Try.ntmps64
    go_wp2_with (at_builtin; refine Lib.wpList_append_run _ rfl _ _ _ _ rfl _ _ rfl rfl _ _ (hrun _) ?_)
    go_ret
    exact ⟨_, c', rfl, HR.out, HB.out, fun q h => by simp at h; omega⟩

end Go.Proofs.YtfgfomkhlhiiiaaR
