/- slices.Collect of a set's spans: the walk. -/
import Derived.Test.YtlobnlkpbenngaaCol
namespace Go.Proofs.YtlobnlkpbenngaaR
open Go.RowKit Go.Shelf Go.Lib
set_option linter.unusedVariables false

attribute [local go_sem] Oper.semAt_some

theorem kept_cells {A B : World} {row : Option Nat} {n k : Nat} {X : Array Value} {t : TypeId} (hk : A.heap[k]? = some (.cells X t (0, 0))) (hg : A.grownBy B row) (hr : ∀ r, row = some r → n ≤ r ∧ ∃ o : Obj, A.heap[r]? = some o ∧ o.isCells = false) : B.heap[k]? = some (.cells X t (0, 0)) := by
  refine (hg.block k (Array.getElem?_eq_some_iff.1 hk).1 ?_).trans hk
  intro e
  obtain ⟨_, o, ho, hc⟩ := hr k e.symm
  rw [hk] at ho
  cases ho
  simp [Obj.isCells] at hc
theorem Rs_kept {A B : World} {row : Option Nat} {n c : Nat} {o : Option Addr} {L : List (Int × Int)} (h : Rs A o c L) (hg : A.grownBy B row) (hr : ∀ r, row = some r → n ≤ r ∧ ∃ o : Obj, A.heap[r]? = some o ∧ o.isCells = false) : Rs B o c L := by
  rcases h with h' | ⟨g, R, ho, hA, hR⟩
  · exact .inl h'
  · exact .inr ⟨g, R, ho, kept_cells hA hg hr, hR⟩
theorem below_kept {w A B : World} {row : Option Nat} {n : Nat} (h : Below w.heap.size w A) (hn : w.heap.size ≤ n) (hg : A.grownBy B row) (hr : ∀ r, row = some r → n ≤ r ∧ ∃ o : Obj, A.heap[r]? = some o ∧ o.isCells = false) : Below w.heap.size w B :=
  h.trans ⟨hg.os, hg.tape, hg.output, hg.size, fun k hk => hg.block k (Nat.lt_of_lt_of_le hk h.size) (fun e => by have := (hr k e.symm).1; omega)⟩

def ColI (w : World) (B : Nat) (pre : List (Int × Int)) (W : World) : Prop := Bx w W B pre ∧ Below w.heap.size w W
theorem ColI_own (w : World) (B n : Nat) (hn : w.heap.size ≤ n) : OwnFrom n (ColI w B) := by
  rintro s A C row ⟨⟨oc, cc, h1, h2, h3, h4⟩, h5⟩ hg hr
  exact ⟨⟨oc, cc, kept_cells h1 hg hr, Rs_kept h2 hg hr, h3, h4⟩, below_kept h5 hn hg hr⟩

/-- What a push pays. -/
theorem Bx.pays {w W W' : World} {B : Nat} {oc : Option Addr} {cc : Nat} {pre : List (Int × Int)} {g c' : Nat} (h1 : W.heap[B]? = some (.cells #[.slice oc pre.length cc] 47 (0, 0))) (h2 : Rs W oc cc pre) (h4 : ∀ g, oc = some ⟨g, 0, none⟩ → w.heap.size ≤ g) (hB : w.heap.size ≤ B) (hb : Below w.heap.size w W)
    (hc : Chg (fun k => k = B ∨ oc = some ⟨k, 0, none⟩) W W') (hW' : W'.cell? ⟨B, 0, none⟩ = some (.slice (some ⟨g, 0, none⟩) (pre.length + 1) c')) (hg : some ⟨g, 0, none⟩ = oc ∨ W.heap.size ≤ g) (n₀ : Nat) :
    KeepsFrom n₀ W W' ∧ Kq (fun k => k = B) ⟨B, 0, none⟩ W W' ∧ Below w.heap.size w W' := by
  have hrow : ∀ k, oc = some ⟨k, 0, none⟩ → ∃ X, W.heap[k]? = some (.cells X 53 (0, 0)) := by
    intro k hk
    rcases h2 with ⟨h', _⟩ | ⟨g, R, h', hA, _⟩
    · rw [h'] at hk; cases hk
    · rw [h'] at hk
      obtain rfl : g = k := by simpa using hk
      exact ⟨_, hA⟩
  have hBc : W.cell? ⟨B, 0, none⟩ = some (.slice oc pre.length cc) := by simp [World.cell?, h1]
  refine ⟨⟨hc.2.2.2.1, fun k o _ hk ho => ?_⟩, ⟨hc.2.2.2.1, fun k A t hk hx hn => ?_, fun k n c hk e => ?_⟩, ?_⟩
  · refine (hc.2.2.2.2 k (Array.getElem?_eq_some_iff.1 hk).1 ?_).trans hk
    rintro (rfl | e)
    · rw [h1] at hk; cases hk; simp [Obj.isCells] at ho
    · obtain ⟨X, hX⟩ := hrow k e
      rw [hX] at hk; cases hk; simp [Obj.isCells] at ho
  · refine hc.2.2.2.2 k (Array.getElem?_eq_some_iff.1 hk).1 ?_
    rintro (rfl | e)
    · exact hx rfl
    · exact hn _ _ (e ▸ hBc)
  · rw [hW'] at e
    obtain ⟨rfl, rfl, rfl⟩ : g = k ∧ pre.length + 1 = n ∧ c' = c := by simpa using e
    rcases hg with hg | hg
    · exact ⟨_, _, hg ▸ hBc⟩
    · omega
  · exact hb.trans ⟨hc.1, hc.2.1, hc.2.2.1, hc.2.2.2.1, fun k hk => hc.2.2.2.2 k (Nat.lt_of_lt_of_le hk hb.size) (fun e => by
      rcases e with e | e
      · omega
      · have := h4 k e; omega)⟩

set_option maxRecDepth 100000 in
set_option maxHeartbeats 2000000 in
theorem appendSeq_c (S c Bn : Nat) (o : Option Addr) (L : List (Int × Int)) (w : World) (h : Se w S o c L) (hsz : L.length ≤ 65536) (hBn : w.cell? ⟨Bn, 0, none⟩ = some (.pointer (some ⟨S, 0, none⟩))) :
    Calls Try.prog 65 #[.slice none 0 0, .func (.func 66) #[] #[.pointer (some ⟨Bn, 0, none⟩)]] w fun e w' => ∃ oc cc, e = .returned (.slice oc L.length cc) ∧ Rs w' oc cc L ∧ cc ≤ maxLen ∧ Below w.heap.size w w' ∧ (∀ g, oc = some ⟨g, 0, none⟩ → w.heap.size ≤ g) := by
  refine callsIn_wide.1 (callsIn_of_wp_marks (F := Fence.wide) (n := 5) Try.func65 rfl trivial ?_ rfl)
  refine wpIn_wide.2 ?_
  simp only [Try.ntmps65, List.size_toArray, List.length_cons, List.length_nil, Nat.reduceAdd, Nat.reduceSub, Array.replicate_succ, Array.replicate_zero, List.push_toArray, List.append_toArray, List.nil_append, List.cons_append]
  go_wp2
  have hb0 : Below w.heap.size w (w.alloc (.cells #[.slice none 0 0] 47)) := (Below.refl _ w).alloc (Nat.le_refl _) _
  have hC : (w.alloc (.cells #[.slice none 0 0] 47)).heap[w.heap.size]? = some (.cells #[.slice none 0 0] 47 (0, 0)) := World.alloc_heap_new w _
  have hz : (w.alloc (.cells #[.slice none 0 0] 47)).heap.size = w.heap.size + 1 := by simp
  generalize w.alloc (.cells #[.slice none 0 0] 47) = W0 at *
  have hS0 : Se W0 S o c L := h.below hb0 (Nat.le_refl _)
  have hBn0 : W0.cell? ⟨Bn, 0, none⟩ = some (.pointer (some ⟨S, 0, none⟩)) := (hb0.cell (p := ⟨Bn, 0, none⟩) (World.block_lt_of_cell? _ _ hBn)).trans hBn
  have hrow : ∀ k n c, W0.cell? ⟨w.heap.size, 0, none⟩ = some (.slice (some ⟨k, 0, none⟩) n c) → k < W0.heap.size := by
    intro k n c e; simp [World.cell?, hC] at e
  refine (wpIn_wide (n := 5)).1 ?_
  refine wpIn_rangeFunc_ownH rfl (by decide) (gf := 66) (lb := #[.pointer (some ⟨Bn, 0, none⟩)]) rfl trivial (enters_of Try.func66 (by kernel_rfl) rfl)
    (all_stops (fun k => k = w.heap.size) ⟨w.heap.size, 0, none⟩ Bn S c o L W0 hsz (fun k e => by omega) (by show w.heap.size < _; omega) hrow hBn0 hS0)
    Kq.trans (Kq.put (by show w.heap.size < _; omega)) (Below.refl _ _) (fun _ => rfl)
    (ColI w w.heap.size) (fun _ _ _ => False) (ColI_own w _ _ (by omega)) (fun _ _ _ _ _ hs _ _ => hs)
    ⟨⟨none, 0, hC, .inl ⟨rfl, rfl, rfl⟩, by unfold maxLen; omega, fun g e => nomatch e⟩, hb0⟩
    (fun x a' W => ∃ Bp Y, W.heap[Bp]? = some (.cells #[.int .i64 x.1, .int .i64 x.2] 53 (0, 0)) ∧ W.heap[w.heap.size]? = some (.cells Y 47 (0, 0)) ∧ (∀ n c, Y[0]? ≠ some (.slice (some ⟨Bp, 0, none⟩) n c)) ∧
      a' = { tmps := #[.slice none 0 0, .func (.func 66) #[] #[.pointer (some ⟨Bn, 0, none⟩)], .pointer (some ⟨w.heap.size, 0, none⟩), undef, .slice none 0 0, .pointer (some ⟨Bp, 0, none⟩), .func (.func 66) #[] #[.pointer (some ⟨Bn, 0, none⟩)], .agg #[.int .i64 x.1, .int .i64 x.2], undef, undef, undef, undef, undef], defers := [] })
    (fun x a' s A B row hs hg hr => by
      obtain ⟨Bp, Y, q1, q2, q3, q4⟩ := hs
      exact ⟨Bp, Y, kept_cells q1 hg hr, kept_cells q2 hg hr, q3, q4⟩) ?assign ?body ?done ?stop
  case assign =>
    rintro l pre x W K hi hK
    obtain ⟨⟨oc, cc, h1, h2, h3, h4⟩, hb⟩ := id hi
    have hlt : w.heap.size < W.heap.size := (Array.getElem?_eq_some_iff.1 h1).1
    have hK' := hK { tmps := #[.slice none 0 0, .func (.func 66) #[] #[.pointer (some ⟨Bn, 0, none⟩)], .pointer (some ⟨w.heap.size, 0, none⟩), undef, .slice none 0 0, .pointer (some ⟨W.heap.size, 0, none⟩), .func (.func 66) #[] #[.pointer (some ⟨Bn, 0, none⟩)], .agg #[.int .i64 x.1, .int .i64 x.2], undef, undef, undef, undef, undef], defers := [] }
      (W.alloc (.cells #[.int .i64 x.1, .int .i64 x.2] 53)) ((KeepsOthers.alloc _ _).from _)
      ⟨by simp, fun k A t hk _ _ => Below.heap_alloc W _ k (Array.getElem?_eq_some_iff.1 hk).1, fun k n c hk e => ⟨n, c, by rwa [World.cell?_alloc_lt _ _ _ hlt] at e⟩⟩
      (OwnFrom.alloc (ColI_own w _ W0.heap.size (by omega)) _ hi)
      ⟨W.heap.size, _, World.alloc_heap_new W _, (Below.heap_alloc W _ _ hlt).trans h1, fun n c e => by
        simp at e
        rcases h2 with ⟨h', _⟩ | ⟨g, R, h', hA, _⟩
        · rw [h'] at e; simp at e
        · rw [h'] at e
          have := hA.lt
          simp at e <;> omega, rfl⟩
    simp only [encS]
    gi_wp2
    exact hK'
  case body =>
    rintro l pre x a' W hl ⟨r, hr⟩ ⟨⟨oc, cc, h1, h2, h3, h4⟩, hb⟩ ⟨Bp, Y, hBp, hCY, hYn, rfl⟩ hlt
    refine wpIn_block ?_
    have hlen : pre.length ≤ 65536 := by omega
    obtain ⟨g, c', w3, hrun, hc3, hf3, hch, hB3, hbx, hcg, hgg⟩ := Bx.push (w := w) x.1 x.2 h1 h2 h3 h4 hb.size hlen
    have hW' : (w3.setCell ⟨w.heap.size, 0, none⟩ (.slice (some ⟨g, 0, none⟩) (pre.length + 1) c')).cell? ⟨w.heap.size, 0, none⟩ = some (.slice (some ⟨g, 0, none⟩) (pre.length + 1) c') := World.cell?_setCell_same' _ _ _ (by rw [hc3]; rfl)
    obtain ⟨k1, k2, k3⟩ := Bx.pays h1 h2 h4 (Nat.le_refl _) hb hcg hW' hgg W0.heap.size
    have HK : Aside (KeepsFrom W0.heap.size W (w3.setCell ⟨w.heap.size, 0, none⟩ (.slice (some ⟨g, 0, none⟩) (pre.length + 1) c')) ∧ Kq (fun k => k = w.heap.size) ⟨w.heap.size, 0, none⟩ W (w3.setCell ⟨w.heap.size, 0, none⟩ (.slice (some ⟨g, 0, none⟩) (pre.length + 1) c')) ∧ ColI w w.heap.size (pre ++ [x]) (w3.setCell ⟨w.heap.size, 0, none⟩ (.slice (some ⟨g, 0, none⟩) (pre.length + 1) c'))) := ⟨k1, k2, hbx, k3⟩
    have cB : W.cell? ⟨w.heap.size, 0, none⟩ = some (.slice oc pre.length cc) := by simp [World.cell?, h1]
    have cP0 : W.cell? ⟨Bp, 0, none⟩ = some (.int .i64 x.1) := by simp [World.cell?, hBp]
    have cP1 : W.cell? ⟨Bp, 1, none⟩ = some (.int .i64 x.2) := by simp [World.cell?, hBp]
    clear k1 k2 k3 hbx hcg hgg hW' hch hB3 h1 h2 h4 hb hBp hCY hYn hC hS0 hrow hBn0
    obtain ⟨xa, xb⟩ := x
    dsimp only at *
    generalize pre.length = N at *
    gi_wp2_with (gi_at_builtin; refine wpListIn_append_run _ rfl _ _ _ _ rfl _ _ rfl rfl _ _ (hrun _) ?_)
    exact HK.out
  case done =>
    rintro D ys W hD rfl ⟨⟨oc, cc, h1, h2, h3, h4⟩, hb⟩ hK
    have cB : W.cell? ⟨w.heap.size, 0, none⟩ = some (.slice oc ys.length cc) := by simp [World.cell?, h1]
    have HR : Aside (Rs (W.putObj D (.deferred none)) oc cc ys) := Rs_kept (n := D) h2 (grownBy_putObj' W D _) (fun r e => by cases e; exact ⟨Nat.le_refl _, _, hK, rfl⟩)
    have HB2 : Aside (Below w.heap.size w (W.putObj D (.deferred none))) := hb.trans (belowK_b (w := w) (Nat.le_refl _) W D _ _ (by omega) hK rfl rfl)
    have HO : Aside _ := h4
    clear h1 h2 hb h4
    go_wp2
    refine ⟨by simp, .inl ⟨_, _, rfl, run_takeDeferred hK, ?_⟩⟩
    exact ⟨_, results_tmp rfl _ _ _, oc, cc, rfl, HR.out, h3, HB2.out, HO.out⟩
  case stop =>
    rintro D cd pre W _ _ hF _
    exact hF.elim

set_option maxRecDepth 100000 in
theorem collect_c (S c Bn : Nat) (o : Option Addr) (L : List (Int × Int)) (w : World) (h : Se w S o c L) (hsz : L.length ≤ 65536) (hBn : w.cell? ⟨Bn, 0, none⟩ = some (.pointer (some ⟨S, 0, none⟩))) :
    Calls Try.prog 56 #[.func (.func 66) #[] #[.pointer (some ⟨Bn, 0, none⟩)]] w fun e w' => ∃ oc cc, e = .returned (.slice oc L.length cc) ∧ Rs w' oc cc L ∧ cc ≤ maxLen ∧ Below w.heap.size w w' ∧ (∀ g, oc = some ⟨g, 0, none⟩ → w.heap.size ≤ g) := by
  have hc := appendSeq_c S c Bn o L w h hsz hBn
  clear h hBn
  generalize L.length = N at *
  go_enter Try.func56, Try.ntmps56
  go_wp2_with fail
  refine hc.mono ?_
  rintro e w' ⟨oc, cc, rfl, h1, h2, h3, h4⟩
  have H : Aside _ := And.intro h1 (And.intro h2 (And.intro h3 h4))
  clear h1 h2 h3 h4
  go_wp2
  go_ret
  exact ⟨oc, cc, rfl, H.out⟩
end Go.Proofs.YtlobnlkpbenngaaR
