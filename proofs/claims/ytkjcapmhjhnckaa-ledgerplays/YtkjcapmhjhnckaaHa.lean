/- ledger: have. -/
import Derived.Test.YtkjcapmhjhnckaaSe
namespace Go.Proofs.Ytkjcapmhjhnckaa
open Go.RowKit Go.Maps Go.Shelf
set_option linter.unusedVariables false
set_option maxRecDepth 100000

/-- How many spans end below a number. -/
def bel (T : List (Int × Int)) (n : Int) : Nat := (T.takeWhile fun t => decide (t.2 < n)).length
/-- Is a span in one of the numbers' spans? -/
def hv1 (T : List (Int × Int)) (s : Int × Int) : Bool := match T[bel T s.1]? with
  | none => false
  | some t => decide (t.1 ≤ s.1) && decide (s.2 ≤ t.2)
def hvT (T : List (Int × Int)) (S : List (Int × Int)) : Bool := S.all (hv1 T)
/-- Spans that rise. -/
def Up (T : List (Int × Int)) : Prop := T.Pairwise fun x y => x.2 < y.1 ∧ x.2 < y.2
theorem bel_le (T : List (Int × Int)) (n : Int) : bel T n ≤ T.length := tw_le _ _
theorem bel_lo {T : List (Int × Int)} {n : Int} {k : Nat} (h : k < T.length) (hk : k < bel T n) : T[k].2 < n := by
  have := (tw_iff (P := fun t : Int × Int => decide (t.2 < n)) (O := T) (k := k) (by unfold bel at hk; omega) h).2 hk
  simpa using this
theorem bel_hi {T : List (Int × Int)} {n : Int} (hT : Up T) {k : Nat} (h : k < T.length) (hk : bel T n ≤ k) : n ≤ T[k].2 := by
  have h1 : bel T n < T.length := by omega
  have h2 : ¬ (T[bel T n].2 < n) := by
    intro hh
    have := (tw_iff (P := fun t : Int × Int => decide (t.2 < n)) (O := T) (k := bel T n) (Nat.le_refl _) h1).1 (by simpa using hh)
    unfold bel at this
    omega
  rcases Nat.lt_or_eq_of_le hk with h3 | h3
  · have := List.pairwise_iff_getElem.1 hT (bel T n) k h1 h h3
    omega
  · simp only [← h3]
    omega
set_option maxHeartbeats 2000000 in
theorem have_c {W : World} {o : Option Addr} {c : Nat} {T : List (Int × Int)} (h : Rw 50 2 W o T.length c (fl T)) (hsz : T.length ≤ 4000000000000) (hT : Up T)
    (la : Option Addr) (cap : Nat) (S : List (Int × Int)) (hS : Sr W la S) (hl : S.length ≤ 9223372036854775807) :
    Calls Try.prog 32 #[.slice o T.length c, .slice la S.length cap] W fun e w' => e = .returned (.bool (hvT T S)) ∧ Below W.heap.size W w' := by
  obtain ⟨N, hN⟩ : ∃ N, S.length = N := ⟨_, rfl⟩
  obtain ⟨M, hM⟩ : ∃ M, T.length = M := ⟨_, rfl⟩
  have HA : Aside _ := h
  have HS : Aside _ := hS
  have HT : Aside _ := hT
  have HN : Aside _ := hN
  have HM : Aside _ := hM
  rw [hN, hM]
  rw [hN] at hl
  rw [hM] at hsz
  clear h hS hT hN hM
  go_enter Try.func32, Try.ntmps32
  go_wp2
  go_loopg [11] N (fun kx s11 wr => ∃ k : Nat, s11 = .int .i64 (k : Int) ∧ k ≤ N ∧ N - k ≤ kx ∧ Aside (Below W.heap.size W wr ∧ (S.take k).all (hv1 T) = true))
  case atStart => exact ⟨0, rfl, by omega, by omega, Below.refl _ _, rfl⟩
  case round =>
    obtain ⟨k, rfl, hk, hg, HB⟩ := hrel
    by_cases hlt : k < N
    · have hi : k < S.length := by rw [HN.out]; exact hlt
      obtain ⟨b, off, ela, c0, c1⟩ := (Sr.bel HS.out HB.out.1) k hi
      have HD : Aside (S.take (k + 1) = S.take k ++ [S[k]]) := List.take_succ_eq_append_getElem hi
      have HMEM : Aside (S[k] ∈ S) := List.getElem_mem hi
      generalize S[k] = s at *
      obtain ⟨f, l⟩ := s
      have hb1 := bel1 wr (.cells #[.int .i64 f, .int .i64 l] 50)
      have hx1 := heap_alloc_new wr (.cells #[.int .i64 f, .int .i64 l] 50)
      have HRB := Rw.bel HA.out HB.out.1
      have HR1 := Rw.bel HRB hb1
      have hsc := search_c HR1 (bel T f) f (bel_le _ _) (by rw [HM.out]; exact hsz) (fun k h hk => bel_lo h hk) (fun k h hk => bel_hi HT.out h hk)
      rw [HM.out] at hsc
      have hiI : (k : Int) < N := by omega
      have iw : IntKind.i64.wrap ((k : Int) + 1) = (k : Int) + 1 := wrp _ (by omega) (by omega)
      have HB2 : Aside (∀ Y, Below (wr.alloc (.cells #[.int .i64 f, .int .i64 l] 50)).heap.size (wr.alloc (.cells #[.int .i64 f, .int .i64 l] 50)) Y → Below W.heap.size W Y) := fun Y hY => bel_trans HB.out.1 (bel_trans hb1 hY)
      have HX : Aside (∀ Y, Below (wr.alloc (.cells #[.int .i64 f, .int .i64 l] 50)).heap.size (wr.alloc (.cells #[.int .i64 f, .int .i64 l] 50)) Y → Y.cell? ⟨wr.heap.size, 0, none⟩ = some (.int .i64 f) ∧ Y.cell? ⟨wr.heap.size, 1, none⟩ = some (.int .i64 l)) := fun Y hY => by
        have h0 : (wr.alloc (.cells #[.int .i64 f, .int .i64 l] 50)).cell? ⟨wr.heap.size, 0, none⟩ = some (.int .i64 f) := by simp [go_sem]
        have h1 : (wr.alloc (.cells #[.int .i64 f, .int .i64 l] 50)).cell? ⟨wr.heap.size, 1, none⟩ = some (.int .i64 l) := by simp [go_sem]
        exact ⟨cell_bel h0 hY, cell_bel h1 hY⟩
      have HV : Aside (hv1 T (f, l) = match T[bel T f]? with | none => false | some t => decide (t.1 ≤ f) && decide (l ≤ t.2)) := rfl
      have hble := bel_le T f
      rw [HM.out] at hble
      by_cases hbM : bel T f < M
      · have hbT : bel T f < T.length := by rw [HM.out]; exact hbM
        have HG : Aside (∀ Y, Below (wr.alloc (.cells #[.int .i64 f, .int .i64 l] 50)).heap.size (wr.alloc (.cells #[.int .i64 f, .int .i64 l] 50)) Y → ∃ g off, o = some ⟨g, off, none⟩ ∧ Y.cell? ⟨g, off + bel T f * 2, none⟩ = some (.int .i64 T[bel T f].1) ∧ Y.cell? ⟨g, off + bel T f * 2 + 1, none⟩ = some (.int .i64 T[bel T f].2)) := fun Y hY => by
          obtain ⟨g, off, e, q0, q1, -⟩ := (Rw.bel HR1 hY).span hbT
          exact ⟨g, off, e, q0, q1⟩
        have HV2 : Aside (hv1 T (f, l) = (decide (T[bel T f].1 ≤ f) && decide (l ≤ T[bel T f].2))) := by
          show _ = _
          rw [HV.out, List.getElem?_eq_getElem hbT]
        generalize T[bel T f].1 = tf at *
        generalize T[bel T f].2 = tl at *
        generalize bel T f = bi at *
        clear hbT HRB HR1 hb1 hx1 HV
        subst ela
        go_wp2_with fail
        refine hsc.mono ?_
        rintro e Y ⟨q, rfl, hY⟩
        obtain ⟨gg, oo, eo, t0, t1⟩ := HG.out Y hY
        obtain ⟨b0, b1⟩ := HX.out Y hY
        have HBY : Aside (Below W.heap.size W Y) := HB2.out Y hY
        generalize wr.heap.size = bx at *
        clear hY hsc HG HX HB2
        subst eo
        have hne : ¬ (bi : Int) = M := by omega
        have hlt2 : (bi : Int) < M := by omega
        by_cases h1 : f < tf
        · go_wp2_with fail
          refine wp_region_held_drew (S := fun X => X.cell? ⟨bx, 0, none⟩ = some (.int .i64 f) ∧ X.cell? ⟨bx, 1, none⟩ = some (.int .i64 l) ∧ X.cell? ⟨gg, oo + bi * 2, none⟩ = some (.int .i64 tf) ∧ X.cell? ⟨gg, oo + bi * 2 + 1, none⟩ = some (.int .i64 tl)) (by kernel_rfl) ⟨b0, b1, t0, t1⟩ (fun hHeld => ?_)
          refine wpAnyH_take (i := 0) (v := .int .i64 (bi : Int)) rfl (by kernel_rfl) (by kernel_rfl) (by kernel_rfl) (fun _ _ _ h => h) (Or.inl ⟨by rfl, by intro w hs; go_simp⟩) hHeld ?_
          refine norm_any' (fun K hK => ?_)
          go_simp
          refine hK _ _ ?_
          clear hK K
          refine wpAnyH_take (i := 1) (v := .slice (some ⟨gg, oo, none⟩) M c) rfl (by kernel_rfl) (by kernel_rfl) (by kernel_rfl) (fun _ _ _ h => h) (Or.inl ⟨by rfl, by intro w hs; go_simp⟩) hHeld ?_
          refine norm_any' (fun K hK => ?_)
          go_simp
          refine hK _ _ ?_
          clear hK K
          refine wpAnyH_take (i := 2) (v := .int .i64 (M : Int)) rfl (by kernel_rfl) (by kernel_rfl) (by kernel_rfl) (fun _ _ _ h => h) (Or.inl ⟨by rfl, by intro w hs; go_simp⟩) hHeld ?_
          refine norm_any' (fun K hK => ?_)
          go_simp
          refine hK _ _ ?_
          clear hK K
          refine wpAnyH_take (i := 3) (v := .bool false) rfl (by kernel_rfl) (by kernel_rfl) (by kernel_rfl) (fun _ _ _ h => h) (Or.inl ⟨by rfl, by intro w hs; go_simp⟩) hHeld ?_
          refine norm_any' (fun K hK => ?_)
          go_simp
          refine hK _ _ ?_
          clear hK K
          refine wpAnyH_take (i := 4) (v := .bool false) rfl (by kernel_rfl) (by kernel_rfl) (by kernel_rfl) (fun _ _ _ h => h) (Or.inl ⟨by rfl, by intro w hs; go_simp⟩) hHeld ?_
          refine norm_any' (fun K hK => ?_)
          go_simp
          refine hK _ _ ?_
          clear hK K
          refine wpAnyH_take (i := 5) (v := .pointer (some ⟨bx, 0, none⟩)) rfl (by kernel_rfl) (by kernel_rfl) (by kernel_rfl) (fun _ _ _ h => h) (Or.inl ⟨by rfl, by intro w hs; go_simp⟩) hHeld ?_
          refine norm_any' (fun K hK => ?_)
          go_simp
          refine hK _ _ ?_
          clear hK K
          refine wpAnyH_take (i := 6) (v := .int .i64 f) rfl (by kernel_rfl) (by kernel_rfl) (by kernel_rfl) (fun _ _ _ h => h) (Or.inl ⟨by rfl, by rintro w ⟨s0, s1, s2, s3⟩; go_simp⟩) hHeld ?_
          refine norm_any' (fun K hK => ?_)
          go_simp
          refine hK _ _ ?_
          clear hK K
          refine wpAnyH_take (i := 7) (v := .slice (some ⟨gg, oo, none⟩) M c) rfl (by kernel_rfl) (by kernel_rfl) (by kernel_rfl) (fun _ _ _ h => h) (Or.inl ⟨by rfl, by intro w hs; go_simp⟩) hHeld ?_
          refine norm_any' (fun K hK => ?_)
          go_simp
          refine hK _ _ ?_
          clear hK K
          refine wpAnyH_take (i := 8) (v := .int .i64 (bi : Int)) rfl (by kernel_rfl) (by kernel_rfl) (by kernel_rfl) (fun _ _ _ h => h) (Or.inl ⟨by rfl, by intro w hs; go_simp⟩) hHeld ?_
          refine norm_any' (fun K hK => ?_)
          go_simp
          refine hK _ _ ?_
          clear hK K
          refine wpAnyH_take (i := 9) (v := .pointer (some ⟨gg, oo + bi * 2, none⟩)) rfl (by kernel_rfl) (by kernel_rfl) (by kernel_rfl) (fun _ _ _ h => h) (Or.inl ⟨by rfl, by intro w hs; go_simp⟩) hHeld ?_
          refine norm_any' (fun K hK => ?_)
          go_simp
          refine hK _ _ ?_
          clear hK K
          refine wpAnyH_take (i := 10) (v := .pointer (some ⟨gg, oo + bi * 2, none⟩)) rfl (by kernel_rfl) (by kernel_rfl) (by kernel_rfl) (fun _ _ _ h => h) (Or.inl ⟨by rfl, by intro w hs; go_simp⟩) hHeld ?_
          refine norm_any' (fun K hK => ?_)
          go_simp
          refine hK _ _ ?_
          clear hK K
          refine wpAnyH_take (i := 11) (v := .int .i64 tf) rfl (by kernel_rfl) (by kernel_rfl) (by kernel_rfl) (fun _ _ _ h => h) (Or.inl ⟨by rfl, by rintro w ⟨s0, s1, s2, s3⟩; go_simp⟩) hHeld ?_
          refine norm_any' (fun K hK => ?_)
          go_simp
          refine hK _ _ ?_
          clear hK K
          refine wpAnyH_take (i := 12) (v := .bool true) rfl (by kernel_rfl) (by kernel_rfl) (by kernel_rfl) (fun _ _ _ h => h) (Or.inl ⟨by rfl, by intro w hs; go_simp⟩) hHeld ?_
          refine norm_any' (fun K hK => ?_)
          go_simp
          refine hK _ _ ?_
          clear hK K
          refine wpAnyH_take (i := 13) (v := .bool true) rfl (by kernel_rfl) (by kernel_rfl) (by kernel_rfl) (fun _ _ _ h => h) (Or.inl ⟨by rfl, by intro w hs; go_simp⟩) hHeld ?_
          refine norm_any' (fun K hK => ?_)
          go_simp
          refine hK _ _ ?_
          clear hK K
          refine wpAnyH_take (i := 14) (v := .bool true) rfl (by kernel_rfl) (by kernel_rfl) (by kernel_rfl) (fun _ _ _ h => h) (Or.inl ⟨by rfl, by intro w hs; go_simp⟩) hHeld ?_
          refine norm_any' (fun K hK => ?_)
          go_simp
          refine hK _ _ ?_
          clear hK K
          refine wpAnyH_take (i := 15) (v := undef) rfl (by kernel_rfl) (by kernel_rfl) (by kernel_rfl) (fun _ _ _ h => h) (Or.inr ⟨by rfl, rfl⟩) hHeld ?_
          refine norm_any' (fun K hK => ?_)
          go_simp
          refine hK _ _ ?_
          clear hK K
          refine wpAnyH_take (i := 16) (v := undef) rfl (by kernel_rfl) (by kernel_rfl) (by kernel_rfl) (fun _ _ _ h => h) (Or.inr ⟨by rfl, rfl⟩) hHeld ?_
          refine norm_any' (fun K hK => ?_)
          go_simp
          refine hK _ _ ?_
          clear hK K
          refine wpAnyH_take (i := 17) (v := undef) rfl (by kernel_rfl) (by kernel_rfl) (by kernel_rfl) (fun _ _ _ h => h) (Or.inr ⟨by rfl, rfl⟩) hHeld ?_
          refine norm_any' (fun K hK => ?_)
          go_simp
          refine hK _ _ ?_
          clear hK K
          refine wpAnyH_take (i := 18) (v := undef) rfl (by kernel_rfl) (by kernel_rfl) (by kernel_rfl) (fun _ _ _ h => h) (Or.inr ⟨by rfl, rfl⟩) hHeld ?_
          refine norm_any' (fun K hK => ?_)
          go_simp
          refine hK _ _ ?_
          clear hK K
          refine wpAnyH_take (i := 19) (v := undef) rfl (by kernel_rfl) (by kernel_rfl) (by kernel_rfl) (fun _ _ _ h => h) (Or.inr ⟨by rfl, rfl⟩) hHeld ?_
          refine norm_any' (fun K hK => ?_)
          go_simp
          refine hK _ _ ?_
          clear hK K
          refine wpAnyH_take (i := 20) (v := undef) rfl (by kernel_rfl) (by kernel_rfl) (by kernel_rfl) (fun _ _ _ h => h) (Or.inr ⟨by rfl, rfl⟩) hHeld ?_
          refine norm_any' (fun K hK => ?_)
          go_simp
          refine hK _ _ ?_
          clear hK K
          refine wpAnyH_take (i := 21) (v := undef) rfl (by kernel_rfl) (by kernel_rfl) (by kernel_rfl) (fun _ _ _ h => h) (Or.inr ⟨by rfl, rfl⟩) hHeld ?_
          refine norm_any' (fun K hK => ?_)
          go_simp
          refine hK _ _ ?_
          clear hK K
          refine wpAnyH_take (i := 22) (v := undef) rfl (by kernel_rfl) (by kernel_rfl) (by kernel_rfl) (fun _ _ _ h => h) (Or.inr ⟨by rfl, rfl⟩) hHeld ?_
          refine norm_any' (fun K hK => ?_)
          go_simp
          refine hK _ _ ?_
          clear hK K
          refine wpAnyH_take (i := 23) (v := .bool true) rfl (by kernel_rfl) (by kernel_rfl) (by kernel_rfl) (fun _ _ _ h => h) (Or.inl ⟨by rfl, by intro w hs; go_simp⟩) hHeld ?_
          refine norm_any' (fun K hK => ?_)
          go_simp
          refine hK _ _ ?_
          clear hK K
          refine wpAnyH_done (by kernel_rfl) ?_ _
          go_wp2
          go_ret
          refine ⟨?_, HBY.out.drew⟩
          have : hv1 T (f, l) = false := by rw [HV2.out]; have : ¬ tf ≤ f := by omega
                                            simp [this]
          have h2 : hvT T S = false := by
            unfold hvT
            rw [List.all_eq_false]
            exact ⟨_, HMEM.out, by simp [this]⟩
          rw [h2]
          rfl
        · by_cases h2 : tl < l
          · go_wp2_with fail
            refine wp_region_held_drew (S := fun X => X.cell? ⟨bx, 0, none⟩ = some (.int .i64 f) ∧ X.cell? ⟨bx, 1, none⟩ = some (.int .i64 l) ∧ X.cell? ⟨gg, oo + bi * 2, none⟩ = some (.int .i64 tf) ∧ X.cell? ⟨gg, oo + bi * 2 + 1, none⟩ = some (.int .i64 tl)) (by kernel_rfl) ⟨b0, b1, t0, t1⟩ (fun hHeld => ?_)
            refine wpAnyH_take (i := 0) (v := .int .i64 (bi : Int)) rfl (by kernel_rfl) (by kernel_rfl) (by kernel_rfl) (fun _ _ _ h => h) (Or.inl ⟨by rfl, by intro w hs; go_simp⟩) hHeld ?_
            refine norm_any' (fun K hK => ?_)
            go_simp
            refine hK _ _ ?_
            clear hK K
            refine wpAnyH_take (i := 1) (v := .slice (some ⟨gg, oo, none⟩) M c) rfl (by kernel_rfl) (by kernel_rfl) (by kernel_rfl) (fun _ _ _ h => h) (Or.inl ⟨by rfl, by intro w hs; go_simp⟩) hHeld ?_
            refine norm_any' (fun K hK => ?_)
            go_simp
            refine hK _ _ ?_
            clear hK K
            refine wpAnyH_take (i := 2) (v := .int .i64 (M : Int)) rfl (by kernel_rfl) (by kernel_rfl) (by kernel_rfl) (fun _ _ _ h => h) (Or.inl ⟨by rfl, by intro w hs; go_simp⟩) hHeld ?_
            refine norm_any' (fun K hK => ?_)
            go_simp
            refine hK _ _ ?_
            clear hK K
            refine wpAnyH_take (i := 3) (v := .bool false) rfl (by kernel_rfl) (by kernel_rfl) (by kernel_rfl) (fun _ _ _ h => h) (Or.inl ⟨by rfl, by intro w hs; go_simp⟩) hHeld ?_
            refine norm_any' (fun K hK => ?_)
            go_simp
            refine hK _ _ ?_
            clear hK K
            refine wpAnyH_take (i := 4) (v := .bool false) rfl (by kernel_rfl) (by kernel_rfl) (by kernel_rfl) (fun _ _ _ h => h) (Or.inl ⟨by rfl, by intro w hs; go_simp⟩) hHeld ?_
            refine norm_any' (fun K hK => ?_)
            go_simp
            refine hK _ _ ?_
            clear hK K
            refine wpAnyH_take (i := 5) (v := .pointer (some ⟨bx, 0, none⟩)) rfl (by kernel_rfl) (by kernel_rfl) (by kernel_rfl) (fun _ _ _ h => h) (Or.inl ⟨by rfl, by intro w hs; go_simp⟩) hHeld ?_
            refine norm_any' (fun K hK => ?_)
            go_simp
            refine hK _ _ ?_
            clear hK K
            refine wpAnyH_take (i := 6) (v := .int .i64 f) rfl (by kernel_rfl) (by kernel_rfl) (by kernel_rfl) (fun _ _ _ h => h) (Or.inl ⟨by rfl, by rintro w ⟨s0, s1, s2, s3⟩; go_simp⟩) hHeld ?_
            refine norm_any' (fun K hK => ?_)
            go_simp
            refine hK _ _ ?_
            clear hK K
            refine wpAnyH_take (i := 7) (v := .slice (some ⟨gg, oo, none⟩) M c) rfl (by kernel_rfl) (by kernel_rfl) (by kernel_rfl) (fun _ _ _ h => h) (Or.inl ⟨by rfl, by intro w hs; go_simp⟩) hHeld ?_
            refine norm_any' (fun K hK => ?_)
            go_simp
            refine hK _ _ ?_
            clear hK K
            refine wpAnyH_take (i := 8) (v := .int .i64 (bi : Int)) rfl (by kernel_rfl) (by kernel_rfl) (by kernel_rfl) (fun _ _ _ h => h) (Or.inl ⟨by rfl, by intro w hs; go_simp⟩) hHeld ?_
            refine norm_any' (fun K hK => ?_)
            go_simp
            refine hK _ _ ?_
            clear hK K
            refine wpAnyH_take (i := 9) (v := .pointer (some ⟨gg, oo + bi * 2, none⟩)) rfl (by kernel_rfl) (by kernel_rfl) (by kernel_rfl) (fun _ _ _ h => h) (Or.inl ⟨by rfl, by intro w hs; go_simp⟩) hHeld ?_
            refine norm_any' (fun K hK => ?_)
            go_simp
            refine hK _ _ ?_
            clear hK K
            refine wpAnyH_take (i := 10) (v := .pointer (some ⟨gg, oo + bi * 2, none⟩)) rfl (by kernel_rfl) (by kernel_rfl) (by kernel_rfl) (fun _ _ _ h => h) (Or.inl ⟨by rfl, by intro w hs; go_simp⟩) hHeld ?_
            refine norm_any' (fun K hK => ?_)
            go_simp
            refine hK _ _ ?_
            clear hK K
            refine wpAnyH_take (i := 11) (v := .int .i64 tf) rfl (by kernel_rfl) (by kernel_rfl) (by kernel_rfl) (fun _ _ _ h => h) (Or.inl ⟨by rfl, by rintro w ⟨s0, s1, s2, s3⟩; go_simp⟩) hHeld ?_
            refine norm_any' (fun K hK => ?_)
            go_simp
            refine hK _ _ ?_
            clear hK K
            refine wpAnyH_take (i := 12) (v := .bool false) rfl (by kernel_rfl) (by kernel_rfl) (by kernel_rfl) (fun _ _ _ h => h) (Or.inl ⟨by rfl, by intro w hs; go_simp⟩) hHeld ?_
            refine norm_any' (fun K hK => ?_)
            go_simp
            refine hK _ _ ?_
            clear hK K
            refine wpAnyH_take (i := 13) (v := .bool false) rfl (by kernel_rfl) (by kernel_rfl) (by kernel_rfl) (fun _ _ _ h => h) (Or.inl ⟨by rfl, by intro w hs; go_simp⟩) hHeld ?_
            refine norm_any' (fun K hK => ?_)
            go_simp
            refine hK _ _ ?_
            clear hK K
            refine wpAnyH_take (i := 14) (v := .bool false) rfl (by kernel_rfl) (by kernel_rfl) (by kernel_rfl) (fun _ _ _ h => h) (Or.inl ⟨by rfl, by intro w hs; go_simp⟩) hHeld ?_
            refine norm_any' (fun K hK => ?_)
            go_simp
            refine hK _ _ ?_
            clear hK K
            refine wpAnyH_take (i := 15) (v := .pointer (some ⟨bx, 1, none⟩)) rfl (by kernel_rfl) (by kernel_rfl) (by kernel_rfl) (fun _ _ _ h => h) (Or.inl ⟨by rfl, by intro w hs; go_simp⟩) hHeld ?_
            refine norm_any' (fun K hK => ?_)
            go_simp
            refine hK _ _ ?_
            clear hK K
            refine wpAnyH_take (i := 16) (v := .int .i64 l) rfl (by kernel_rfl) (by kernel_rfl) (by kernel_rfl) (fun _ _ _ h => h) (Or.inl ⟨by rfl, by rintro w ⟨s0, s1, s2, s3⟩; go_simp⟩) hHeld ?_
            refine norm_any' (fun K hK => ?_)
            go_simp
            refine hK _ _ ?_
            clear hK K
            refine wpAnyH_take (i := 17) (v := .slice (some ⟨gg, oo, none⟩) M c) rfl (by kernel_rfl) (by kernel_rfl) (by kernel_rfl) (fun _ _ _ h => h) (Or.inl ⟨by rfl, by intro w hs; go_simp⟩) hHeld ?_
            refine norm_any' (fun K hK => ?_)
            go_simp
            refine hK _ _ ?_
            clear hK K
            refine wpAnyH_take (i := 18) (v := .int .i64 (bi : Int)) rfl (by kernel_rfl) (by kernel_rfl) (by kernel_rfl) (fun _ _ _ h => h) (Or.inl ⟨by rfl, by intro w hs; go_simp⟩) hHeld ?_
            refine norm_any' (fun K hK => ?_)
            go_simp
            refine hK _ _ ?_
            clear hK K
            refine wpAnyH_take (i := 19) (v := .pointer (some ⟨gg, oo + bi * 2, none⟩)) rfl (by kernel_rfl) (by kernel_rfl) (by kernel_rfl) (fun _ _ _ h => h) (Or.inl ⟨by rfl, by intro w hs; go_simp⟩) hHeld ?_
            refine norm_any' (fun K hK => ?_)
            go_simp
            refine hK _ _ ?_
            clear hK K
            refine wpAnyH_take (i := 20) (v := .pointer (some ⟨gg, oo + bi * 2 + 1, none⟩)) rfl (by kernel_rfl) (by kernel_rfl) (by kernel_rfl) (fun _ _ _ h => h) (Or.inl ⟨by rfl, by intro w hs; go_simp⟩) hHeld ?_
            refine norm_any' (fun K hK => ?_)
            go_simp
            refine hK _ _ ?_
            clear hK K
            refine wpAnyH_take (i := 21) (v := .int .i64 tl) rfl (by kernel_rfl) (by kernel_rfl) (by kernel_rfl) (fun _ _ _ h => h) (Or.inl ⟨by rfl, by rintro w ⟨s0, s1, s2, s3⟩; go_simp⟩) hHeld ?_
            refine norm_any' (fun K hK => ?_)
            go_simp
            refine hK _ _ ?_
            clear hK K
            refine wpAnyH_take (i := 22) (v := .bool true) rfl (by kernel_rfl) (by kernel_rfl) (by kernel_rfl) (fun _ _ _ h => h) (Or.inl ⟨by rfl, by intro w hs; go_simp⟩) hHeld ?_
            refine norm_any' (fun K hK => ?_)
            go_simp
            refine hK _ _ ?_
            clear hK K
            refine wpAnyH_take (i := 23) (v := .bool true) rfl (by kernel_rfl) (by kernel_rfl) (by kernel_rfl) (fun _ _ _ h => h) (Or.inl ⟨by rfl, by intro w hs; go_simp⟩) hHeld ?_
            refine norm_any' (fun K hK => ?_)
            go_simp
            refine hK _ _ ?_
            clear hK K
            refine wpAnyH_done (by kernel_rfl) ?_ _
            go_wp2
            go_ret
            refine ⟨?_, HBY.out.drew⟩
            have : hv1 T (f, l) = false := by rw [HV2.out]; have : ¬ l ≤ tl := by omega
                                              simp [this]
            have h2 : hvT T S = false := by
              unfold hvT
              rw [List.all_eq_false]
              exact ⟨_, HMEM.out, by simp [this]⟩
            rw [h2]
            rfl
          · go_wp2_with fail
            refine wp_region_held_drew (S := fun X => X.cell? ⟨bx, 0, none⟩ = some (.int .i64 f) ∧ X.cell? ⟨bx, 1, none⟩ = some (.int .i64 l) ∧ X.cell? ⟨gg, oo + bi * 2, none⟩ = some (.int .i64 tf) ∧ X.cell? ⟨gg, oo + bi * 2 + 1, none⟩ = some (.int .i64 tl)) (by kernel_rfl) ⟨b0, b1, t0, t1⟩ (fun hHeld => ?_)
            refine wpAnyH_take (i := 0) (v := .int .i64 (bi : Int)) rfl (by kernel_rfl) (by kernel_rfl) (by kernel_rfl) (fun _ _ _ h => h) (Or.inl ⟨by rfl, by intro w hs; go_simp⟩) hHeld ?_
            refine norm_any' (fun K hK => ?_)
            go_simp
            refine hK _ _ ?_
            clear hK K
            refine wpAnyH_take (i := 1) (v := .slice (some ⟨gg, oo, none⟩) M c) rfl (by kernel_rfl) (by kernel_rfl) (by kernel_rfl) (fun _ _ _ h => h) (Or.inl ⟨by rfl, by intro w hs; go_simp⟩) hHeld ?_
            refine norm_any' (fun K hK => ?_)
            go_simp
            refine hK _ _ ?_
            clear hK K
            refine wpAnyH_take (i := 2) (v := .int .i64 (M : Int)) rfl (by kernel_rfl) (by kernel_rfl) (by kernel_rfl) (fun _ _ _ h => h) (Or.inl ⟨by rfl, by intro w hs; go_simp⟩) hHeld ?_
            refine norm_any' (fun K hK => ?_)
            go_simp
            refine hK _ _ ?_
            clear hK K
            refine wpAnyH_take (i := 3) (v := .bool false) rfl (by kernel_rfl) (by kernel_rfl) (by kernel_rfl) (fun _ _ _ h => h) (Or.inl ⟨by rfl, by intro w hs; go_simp⟩) hHeld ?_
            refine norm_any' (fun K hK => ?_)
            go_simp
            refine hK _ _ ?_
            clear hK K
            refine wpAnyH_take (i := 4) (v := .bool false) rfl (by kernel_rfl) (by kernel_rfl) (by kernel_rfl) (fun _ _ _ h => h) (Or.inl ⟨by rfl, by intro w hs; go_simp⟩) hHeld ?_
            refine norm_any' (fun K hK => ?_)
            go_simp
            refine hK _ _ ?_
            clear hK K
            refine wpAnyH_take (i := 5) (v := .pointer (some ⟨bx, 0, none⟩)) rfl (by kernel_rfl) (by kernel_rfl) (by kernel_rfl) (fun _ _ _ h => h) (Or.inl ⟨by rfl, by intro w hs; go_simp⟩) hHeld ?_
            refine norm_any' (fun K hK => ?_)
            go_simp
            refine hK _ _ ?_
            clear hK K
            refine wpAnyH_take (i := 6) (v := .int .i64 f) rfl (by kernel_rfl) (by kernel_rfl) (by kernel_rfl) (fun _ _ _ h => h) (Or.inl ⟨by rfl, by rintro w ⟨s0, s1, s2, s3⟩; go_simp⟩) hHeld ?_
            refine norm_any' (fun K hK => ?_)
            go_simp
            refine hK _ _ ?_
            clear hK K
            refine wpAnyH_take (i := 7) (v := .slice (some ⟨gg, oo, none⟩) M c) rfl (by kernel_rfl) (by kernel_rfl) (by kernel_rfl) (fun _ _ _ h => h) (Or.inl ⟨by rfl, by intro w hs; go_simp⟩) hHeld ?_
            refine norm_any' (fun K hK => ?_)
            go_simp
            refine hK _ _ ?_
            clear hK K
            refine wpAnyH_take (i := 8) (v := .int .i64 (bi : Int)) rfl (by kernel_rfl) (by kernel_rfl) (by kernel_rfl) (fun _ _ _ h => h) (Or.inl ⟨by rfl, by intro w hs; go_simp⟩) hHeld ?_
            refine norm_any' (fun K hK => ?_)
            go_simp
            refine hK _ _ ?_
            clear hK K
            refine wpAnyH_take (i := 9) (v := .pointer (some ⟨gg, oo + bi * 2, none⟩)) rfl (by kernel_rfl) (by kernel_rfl) (by kernel_rfl) (fun _ _ _ h => h) (Or.inl ⟨by rfl, by intro w hs; go_simp⟩) hHeld ?_
            refine norm_any' (fun K hK => ?_)
            go_simp
            refine hK _ _ ?_
            clear hK K
            refine wpAnyH_take (i := 10) (v := .pointer (some ⟨gg, oo + bi * 2, none⟩)) rfl (by kernel_rfl) (by kernel_rfl) (by kernel_rfl) (fun _ _ _ h => h) (Or.inl ⟨by rfl, by intro w hs; go_simp⟩) hHeld ?_
            refine norm_any' (fun K hK => ?_)
            go_simp
            refine hK _ _ ?_
            clear hK K
            refine wpAnyH_take (i := 11) (v := .int .i64 tf) rfl (by kernel_rfl) (by kernel_rfl) (by kernel_rfl) (fun _ _ _ h => h) (Or.inl ⟨by rfl, by rintro w ⟨s0, s1, s2, s3⟩; go_simp⟩) hHeld ?_
            refine norm_any' (fun K hK => ?_)
            go_simp
            refine hK _ _ ?_
            clear hK K
            refine wpAnyH_take (i := 12) (v := .bool false) rfl (by kernel_rfl) (by kernel_rfl) (by kernel_rfl) (fun _ _ _ h => h) (Or.inl ⟨by rfl, by intro w hs; go_simp⟩) hHeld ?_
            refine norm_any' (fun K hK => ?_)
            go_simp
            refine hK _ _ ?_
            clear hK K
            refine wpAnyH_take (i := 13) (v := .bool false) rfl (by kernel_rfl) (by kernel_rfl) (by kernel_rfl) (fun _ _ _ h => h) (Or.inl ⟨by rfl, by intro w hs; go_simp⟩) hHeld ?_
            refine norm_any' (fun K hK => ?_)
            go_simp
            refine hK _ _ ?_
            clear hK K
            refine wpAnyH_take (i := 14) (v := .bool false) rfl (by kernel_rfl) (by kernel_rfl) (by kernel_rfl) (fun _ _ _ h => h) (Or.inl ⟨by rfl, by intro w hs; go_simp⟩) hHeld ?_
            refine norm_any' (fun K hK => ?_)
            go_simp
            refine hK _ _ ?_
            clear hK K
            refine wpAnyH_take (i := 15) (v := .pointer (some ⟨bx, 1, none⟩)) rfl (by kernel_rfl) (by kernel_rfl) (by kernel_rfl) (fun _ _ _ h => h) (Or.inl ⟨by rfl, by intro w hs; go_simp⟩) hHeld ?_
            refine norm_any' (fun K hK => ?_)
            go_simp
            refine hK _ _ ?_
            clear hK K
            refine wpAnyH_take (i := 16) (v := .int .i64 l) rfl (by kernel_rfl) (by kernel_rfl) (by kernel_rfl) (fun _ _ _ h => h) (Or.inl ⟨by rfl, by rintro w ⟨s0, s1, s2, s3⟩; go_simp⟩) hHeld ?_
            refine norm_any' (fun K hK => ?_)
            go_simp
            refine hK _ _ ?_
            clear hK K
            refine wpAnyH_take (i := 17) (v := .slice (some ⟨gg, oo, none⟩) M c) rfl (by kernel_rfl) (by kernel_rfl) (by kernel_rfl) (fun _ _ _ h => h) (Or.inl ⟨by rfl, by intro w hs; go_simp⟩) hHeld ?_
            refine norm_any' (fun K hK => ?_)
            go_simp
            refine hK _ _ ?_
            clear hK K
            refine wpAnyH_take (i := 18) (v := .int .i64 (bi : Int)) rfl (by kernel_rfl) (by kernel_rfl) (by kernel_rfl) (fun _ _ _ h => h) (Or.inl ⟨by rfl, by intro w hs; go_simp⟩) hHeld ?_
            refine norm_any' (fun K hK => ?_)
            go_simp
            refine hK _ _ ?_
            clear hK K
            refine wpAnyH_take (i := 19) (v := .pointer (some ⟨gg, oo + bi * 2, none⟩)) rfl (by kernel_rfl) (by kernel_rfl) (by kernel_rfl) (fun _ _ _ h => h) (Or.inl ⟨by rfl, by intro w hs; go_simp⟩) hHeld ?_
            refine norm_any' (fun K hK => ?_)
            go_simp
            refine hK _ _ ?_
            clear hK K
            refine wpAnyH_take (i := 20) (v := .pointer (some ⟨gg, oo + bi * 2 + 1, none⟩)) rfl (by kernel_rfl) (by kernel_rfl) (by kernel_rfl) (fun _ _ _ h => h) (Or.inl ⟨by rfl, by intro w hs; go_simp⟩) hHeld ?_
            refine norm_any' (fun K hK => ?_)
            go_simp
            refine hK _ _ ?_
            clear hK K
            refine wpAnyH_take (i := 21) (v := .int .i64 tl) rfl (by kernel_rfl) (by kernel_rfl) (by kernel_rfl) (fun _ _ _ h => h) (Or.inl ⟨by rfl, by rintro w ⟨s0, s1, s2, s3⟩; go_simp⟩) hHeld ?_
            refine norm_any' (fun K hK => ?_)
            go_simp
            refine hK _ _ ?_
            clear hK K
            refine wpAnyH_take (i := 22) (v := .bool false) rfl (by kernel_rfl) (by kernel_rfl) (by kernel_rfl) (fun _ _ _ h => h) (Or.inl ⟨by rfl, by intro w hs; go_simp⟩) hHeld ?_
            refine norm_any' (fun K hK => ?_)
            go_simp
            refine hK _ _ ?_
            clear hK K
            refine wpAnyH_take (i := 23) (v := .bool false) rfl (by kernel_rfl) (by kernel_rfl) (by kernel_rfl) (fun _ _ _ h => h) (Or.inl ⟨by rfl, by intro w hs; go_simp⟩) hHeld ?_
            refine norm_any' (fun K hK => ?_)
            go_simp
            refine hK _ _ ?_
            clear hK K
            refine wpAnyH_done (by kernel_rfl) ?_ _
            go_wp2
            go_roundg (N - (k + 1))
            case measure => omega
            case rel =>
              refine ⟨k + 1, rfl, by omega, Nat.le_refl _, HBY.out.drew, ?_⟩
              rw [HD.out, List.all_append, HB.out.2]
              have e1 : tf ≤ f := by omega
              have e2 : l ≤ tl := by omega
              simp [HV2.out, e1, e2]
      · have hbe : bel T f = M := by omega
        have HV2 : Aside (hv1 T (f, l) = false) := by
          show _ = _
          rw [HV.out, List.getElem?_eq_none (by rw [HM.out]; omega)]
        rw [hbe] at hsc
        clear HRB HR1 hb1 hx1 HV
        subst ela
        go_wp2_with fail
        refine hsc.mono ?_
        rintro e Y ⟨q, rfl, hY⟩
        have HBY : Aside (Below W.heap.size W Y) := HB2.out Y hY
        clear hY hsc HX HB2 hbe hbM
        go_wp2_with fail
        refine wp_region_held_drew (S := fun _ => True) (by kernel_rfl) trivial (fun hHeld => ?_)
        refine wpAnyH_take (i := 0) (v := .int .i64 (M : Int)) rfl (by kernel_rfl) (by kernel_rfl) (by kernel_rfl) (fun _ _ _ h => h) (Or.inl ⟨by rfl, by intro w hs; go_simp⟩) hHeld ?_
        refine norm_any' (fun K hK => ?_)
        go_simp
        refine hK _ _ ?_
        clear hK K
        refine wpAnyH_take (i := 1) (v := .slice o M c) rfl (by kernel_rfl) (by kernel_rfl) (by kernel_rfl) (fun _ _ _ h => h) (Or.inl ⟨by rfl, by intro w hs; go_simp⟩) hHeld ?_
        refine norm_any' (fun K hK => ?_)
        go_simp
        refine hK _ _ ?_
        clear hK K
        refine wpAnyH_take (i := 2) (v := .int .i64 (M : Int)) rfl (by kernel_rfl) (by kernel_rfl) (by kernel_rfl) (fun _ _ _ h => h) (Or.inl ⟨by rfl, by intro w hs; go_simp⟩) hHeld ?_
        refine norm_any' (fun K hK => ?_)
        go_simp
        refine hK _ _ ?_
        clear hK K
        refine wpAnyH_take (i := 3) (v := .bool true) rfl (by kernel_rfl) (by kernel_rfl) (by kernel_rfl) (fun _ _ _ h => h) (Or.inl ⟨by rfl, by intro w hs; go_simp⟩) hHeld ?_
        refine norm_any' (fun K hK => ?_)
        go_simp
        refine hK _ _ ?_
        clear hK K
        refine wpAnyH_take (i := 4) (v := .bool true) rfl (by kernel_rfl) (by kernel_rfl) (by kernel_rfl) (fun _ _ _ h => h) (Or.inl ⟨by rfl, by intro w hs; go_simp⟩) hHeld ?_
        refine norm_any' (fun K hK => ?_)
        go_simp
        refine hK _ _ ?_
        clear hK K
        refine wpAnyH_take (i := 5) (v := undef) rfl (by kernel_rfl) (by kernel_rfl) (by kernel_rfl) (fun _ _ _ h => h) (Or.inr ⟨by rfl, rfl⟩) hHeld ?_
        refine norm_any' (fun K hK => ?_)
        go_simp
        refine hK _ _ ?_
        clear hK K
        refine wpAnyH_take (i := 6) (v := undef) rfl (by kernel_rfl) (by kernel_rfl) (by kernel_rfl) (fun _ _ _ h => h) (Or.inr ⟨by rfl, rfl⟩) hHeld ?_
        refine norm_any' (fun K hK => ?_)
        go_simp
        refine hK _ _ ?_
        clear hK K
        refine wpAnyH_take (i := 7) (v := undef) rfl (by kernel_rfl) (by kernel_rfl) (by kernel_rfl) (fun _ _ _ h => h) (Or.inr ⟨by rfl, rfl⟩) hHeld ?_
        refine norm_any' (fun K hK => ?_)
        go_simp
        refine hK _ _ ?_
        clear hK K
        refine wpAnyH_take (i := 8) (v := undef) rfl (by kernel_rfl) (by kernel_rfl) (by kernel_rfl) (fun _ _ _ h => h) (Or.inr ⟨by rfl, rfl⟩) hHeld ?_
        refine norm_any' (fun K hK => ?_)
        go_simp
        refine hK _ _ ?_
        clear hK K
        refine wpAnyH_take (i := 9) (v := undef) rfl (by kernel_rfl) (by kernel_rfl) (by kernel_rfl) (fun _ _ _ h => h) (Or.inr ⟨by rfl, rfl⟩) hHeld ?_
        refine norm_any' (fun K hK => ?_)
        go_simp
        refine hK _ _ ?_
        clear hK K
        refine wpAnyH_take (i := 10) (v := undef) rfl (by kernel_rfl) (by kernel_rfl) (by kernel_rfl) (fun _ _ _ h => h) (Or.inr ⟨by rfl, rfl⟩) hHeld ?_
        refine norm_any' (fun K hK => ?_)
        go_simp
        refine hK _ _ ?_
        clear hK K
        refine wpAnyH_take (i := 11) (v := undef) rfl (by kernel_rfl) (by kernel_rfl) (by kernel_rfl) (fun _ _ _ h => h) (Or.inr ⟨by rfl, rfl⟩) hHeld ?_
        refine norm_any' (fun K hK => ?_)
        go_simp
        refine hK _ _ ?_
        clear hK K
        refine wpAnyH_take (i := 12) (v := undef) rfl (by kernel_rfl) (by kernel_rfl) (by kernel_rfl) (fun _ _ _ h => h) (Or.inr ⟨by rfl, rfl⟩) hHeld ?_
        refine norm_any' (fun K hK => ?_)
        go_simp
        refine hK _ _ ?_
        clear hK K
        refine wpAnyH_take (i := 13) (v := .bool true) rfl (by kernel_rfl) (by kernel_rfl) (by kernel_rfl) (fun _ _ _ h => h) (Or.inl ⟨by rfl, by intro w hs; go_simp⟩) hHeld ?_
        refine norm_any' (fun K hK => ?_)
        go_simp
        refine hK _ _ ?_
        clear hK K
        refine wpAnyH_take (i := 14) (v := .bool true) rfl (by kernel_rfl) (by kernel_rfl) (by kernel_rfl) (fun _ _ _ h => h) (Or.inl ⟨by rfl, by intro w hs; go_simp⟩) hHeld ?_
        refine norm_any' (fun K hK => ?_)
        go_simp
        refine hK _ _ ?_
        clear hK K
        refine wpAnyH_take (i := 15) (v := undef) rfl (by kernel_rfl) (by kernel_rfl) (by kernel_rfl) (fun _ _ _ h => h) (Or.inr ⟨by rfl, rfl⟩) hHeld ?_
        refine norm_any' (fun K hK => ?_)
        go_simp
        refine hK _ _ ?_
        clear hK K
        refine wpAnyH_take (i := 16) (v := undef) rfl (by kernel_rfl) (by kernel_rfl) (by kernel_rfl) (fun _ _ _ h => h) (Or.inr ⟨by rfl, rfl⟩) hHeld ?_
        refine norm_any' (fun K hK => ?_)
        go_simp
        refine hK _ _ ?_
        clear hK K
        refine wpAnyH_take (i := 17) (v := undef) rfl (by kernel_rfl) (by kernel_rfl) (by kernel_rfl) (fun _ _ _ h => h) (Or.inr ⟨by rfl, rfl⟩) hHeld ?_
        refine norm_any' (fun K hK => ?_)
        go_simp
        refine hK _ _ ?_
        clear hK K
        refine wpAnyH_take (i := 18) (v := undef) rfl (by kernel_rfl) (by kernel_rfl) (by kernel_rfl) (fun _ _ _ h => h) (Or.inr ⟨by rfl, rfl⟩) hHeld ?_
        refine norm_any' (fun K hK => ?_)
        go_simp
        refine hK _ _ ?_
        clear hK K
        refine wpAnyH_take (i := 19) (v := undef) rfl (by kernel_rfl) (by kernel_rfl) (by kernel_rfl) (fun _ _ _ h => h) (Or.inr ⟨by rfl, rfl⟩) hHeld ?_
        refine norm_any' (fun K hK => ?_)
        go_simp
        refine hK _ _ ?_
        clear hK K
        refine wpAnyH_take (i := 20) (v := undef) rfl (by kernel_rfl) (by kernel_rfl) (by kernel_rfl) (fun _ _ _ h => h) (Or.inr ⟨by rfl, rfl⟩) hHeld ?_
        refine norm_any' (fun K hK => ?_)
        go_simp
        refine hK _ _ ?_
        clear hK K
        refine wpAnyH_take (i := 21) (v := undef) rfl (by kernel_rfl) (by kernel_rfl) (by kernel_rfl) (fun _ _ _ h => h) (Or.inr ⟨by rfl, rfl⟩) hHeld ?_
        refine norm_any' (fun K hK => ?_)
        go_simp
        refine hK _ _ ?_
        clear hK K
        refine wpAnyH_take (i := 22) (v := undef) rfl (by kernel_rfl) (by kernel_rfl) (by kernel_rfl) (fun _ _ _ h => h) (Or.inr ⟨by rfl, rfl⟩) hHeld ?_
        refine norm_any' (fun K hK => ?_)
        go_simp
        refine hK _ _ ?_
        clear hK K
        refine wpAnyH_take (i := 23) (v := .bool true) rfl (by kernel_rfl) (by kernel_rfl) (by kernel_rfl) (fun _ _ _ h => h) (Or.inl ⟨by rfl, by intro w hs; go_simp⟩) hHeld ?_
        refine norm_any' (fun K hK => ?_)
        go_simp
        refine hK _ _ ?_
        clear hK K
        refine wpAnyH_done (by kernel_rfl) ?_ _
        go_wp2
        go_ret
        refine ⟨?_, HBY.out.drew⟩
        have h2 : hvT T S = false := by
          unfold hvT
          rw [List.all_eq_false]
          exact ⟨_, HMEM.out, by simp [HV2.out]⟩
        rw [h2]
        rfl
    · obtain rfl : k = N := by omega
      have hiI : ¬ (k : Int) < k := by omega
      go_wp2
      go_ret
      refine ⟨?_, HB.out.1⟩
      have : S.take k = S := by rw [← HN.out, List.take_length]
      have h2 := HB.out.2
      rw [this] at h2
      unfold hvT
      rw [h2]
      rfl
end Go.Proofs.Ytkjcapmhjhnckaa
