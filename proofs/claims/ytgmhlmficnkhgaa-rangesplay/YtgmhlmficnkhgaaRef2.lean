/- The reference of layer 5: joined. -/
import Derived.Test.YtgmhlmficnkhgaaRef
import Derived.Test.YtgmhlmficnkhgaaRefL
import Derived.Deep.QuietTactic
import Derived.BigQuiet
namespace Go.Proofs.Ytgmhlmficnkhgaa
open Go.RowKit Go.Shelf Go.Lib
set_option linter.unusedVariables false

theorem row_set {W : World} {g : Nat} {J : List (Int × Int)} {p : Int × Int} {R : List Value} (h : At W g (fl (J ++ [p]) ++ R)) (y : Int) :
    W.cell? ⟨g, J.length * 2 + 1, none⟩ = some (.int .i64 p.2) ∧ W.frozen? ⟨g, J.length * 2 + 1, none⟩ = false ∧ At (W.setCell ⟨g, J.length * 2 + 1, none⟩ (.int .i64 y)) g (fl (J ++ [(p.1, y)]) ++ R) ∧ W.setCell ⟨g, J.length * 2 + 1, none⟩ (.int .i64 y) = W.setRow g (fl (J ++ [(p.1, y)]) ++ R).toArray := by
  have hs : W.setCell ⟨g, J.length * 2 + 1, none⟩ (.int .i64 y) = W.setRow g (fl (J ++ [(p.1, y)]) ++ R).toArray := by
    rw [setCell_eq_setRow W g (J.length * 2 + 1) _ 50 (0, 0) _ h]
    congr 1
    apply Array.ext'
    simp [fl_append, fl]
  refine ⟨?_, ?_, ?_, hs⟩
  · have := cells_at h J.length (by simp)
    simpa using this.2
  · simp [World.frozen?, show W.heap[g]? = _ from h]
  · rw [hs]; exact h.set _
theorem jn_bound {L : List (Int × Int)} (h : ∀ p ∈ L, 0 ≤ p.1 ∧ p.1 ≤ p.2 ∧ p.2 ≤ 4611686018427387903) : ∀ p ∈ jn L, p.2 ≤ 4611686018427387903 := by
  have : ∀ (L out : List (Int × Int)), (∀ p ∈ L, p.2 ≤ 4611686018427387903) → (∀ p ∈ out, p.2 ≤ 4611686018427387903) → ∀ p ∈ L.foldl jnS out, p.2 ≤ 4611686018427387903 := by
    intro L
    induction L with
    | nil => intro out _ h; exact h
    | cons x t ih =>
      intro out hL ho
      refine ih _ (fun p hp => hL p (List.mem_cons_of_mem _ hp)) ?_
      have hx := hL x List.mem_cons_self
      intro p hp
      unfold jnS at hp
      split at hp
      · rename_i q hq
        split at hp
        · rcases List.mem_append.1 hp with hp | hp
          · exact ho p (List.dropLast_subset _ hp)
          · simp only [List.mem_singleton] at hp; subst hp; exact hx
        · rcases List.mem_append.1 hp with hp | hp
          · exact ho p hp
          · simp only [List.mem_singleton] at hp; subst hp; exact hx
      · rcases List.mem_append.1 hp with hp | hp
        · exact ho p hp
        · simp only [List.mem_singleton] at hp; subst hp; exact hx
  exact this L [] (fun p hp => (h p hp).2.2) (fun p hp => nomatch hp)

set_option maxRecDepth 100000 in
set_option maxHeartbeats 2000000 in
theorem joined_c (lo : Option Addr) (lc : Nat) (L : List (Int × Int)) (W : World) (hL : Rs W lo lc L) (hn : L.length ≤ 65538) (hO : Wk L) :
    Calls Try.prog 26 #[.slice lo L.length lc] W fun e w' => ∃ o c, e = .returned (.slice o (jn L).length c) ∧ Mk W.heap.size w' o c (jn L) ∧ Below W.heap.size W w' := by
  obtain ⟨N, hN⟩ : ∃ N, L.length = N := ⟨_, rfl⟩
  rw [hN] at hn ⊢
  have HLR : Aside _ := hL
  have HWK : Aside _ := hO
  clear hL hO
  go_enter Try.func26, Try.ntmps26
  go_wp2
  go_loopg [3, 4] N (fun kx s3 s4 wr => ∃ (k : Nat) (o : Option Addr) (c n : Nat), s4 = .int .i64 k ∧ s3 = .slice o n c ∧ k ≤ N ∧ N - k ≤ kx ∧ n = (jn (L.take k)).length ∧ Aside (Mk W.heap.size wr o c (jn (L.take k))) ∧ Aside (Below W.heap.size W wr))
  case atStart => exact ⟨0, none, 0, 0, rfl, rfl, Nat.zero_le _, by omega, rfl, Mk_nil _ _, Below.refl _ _⟩
  case round =>
    obtain ⟨k, o, c, n, rfl, rfl, hk, hg, hnl, HM, HB⟩ := hrel
    by_cases hlt : k < N
    · have hkL : k < L.length := by omega
      obtain ⟨g, rfl, c0, c1⟩ := row_cells HLR.out k hkL
      have lg : g < W.heap.size := World.block_lt_of_cell? _ _ c0
      have d0 := (HB.out.cell (p := ⟨g, k * 2, none⟩) lg).trans c0
      have d1 := (HB.out.cell (p := ⟨g, k * 2 + 1, none⟩) lg).trans c1
      have hwl := jn_len (L.take k)
      have hn2 : n ≤ 65538 := by rw [List.length_take] at hwl; omega
      have HT : Aside _ := jn_take hkL
      have hbx := (HWK.out.2 L[k] (List.getElem_mem hkL))
      have hbj : ∀ p ∈ jn (L.take k), p.2 ≤ 4611686018427387903 ∧ True := fun p hp => ⟨jn_bound (fun q hq => HWK.out.2 q (List.mem_of_mem_take hq)) p hp, trivial⟩
      have hok : Ok (jn (L.take k)) := by
        refine (jn_ok ⟨?_, fun q hq => HWK.out.2 q (List.mem_of_mem_take hq)⟩).1
        exact List.Pairwise.sublist (List.take_sublist _ _) HWK.out.1
      generalize hx : L[k] = x at d0 d1 HT hbx
      obtain ⟨x1, x2⟩ := x
      dsimp only at d0 d1 hbx
      have hz1 : W.heap.size ≤ wr.heap.size := HB.out.size
      clear c0 c1
      have i1 : (k : Int) < (N : Int) := by omega
      have happ : ∀ W0, Below wr.heap.size wr W0 → ∀ J, J = jn (L.take k) → jnS J (x1, x2) = J ++ [(x1, x2)] → ∃ g2 c2 w3, (∀ ty, (Builtin.append_ #[26, 26] ty #[.slice o n c, .slice (some ⟨W0.heap.size, 0, none⟩) 1 1]).run Try.prog (W0.alloc (.cells #[.int .i64 x1, .int .i64 x2] 50)) = .ok (.slice (some ⟨g2, 0, none⟩) (n + 1) c2) w3) ∧ Mk W.heap.size w3 (some ⟨g2, 0, none⟩) c2 (jn (L.take (k + 1))) ∧ Below W.heap.size W w3 ∧ n + 1 = (jn (L.take (k + 1))).length := by
        intro W0 hb0 J hJ hj
        obtain ⟨g2, c2, w3, hrun, hM3, hB3, -⟩ := push_row W.heap.size W0 o c _ x1 x2 (HM.out.below hb0) (by omega) (Nat.le_trans hz1 hb0.size)
        rw [← hnl] at hrun
        refine ⟨g2, c2, w3, hrun, ?_, (HB.out.trans (hb0.mono hz1)).trans hB3, ?_⟩
        · rw [HT.out, ← hJ, hj, hJ]; exact hM3
        · rw [HT.out, ← hJ, hj, hJ, List.length_append, ← hnl]; rfl
      have HAPP : Aside _ := happ
      clear happ
      cases hl : (jn (L.take k)).getLast? with
      | none =>
        have hJ : jn (L.take k) = [] := by simpa using hl
        obtain rfl : n = 0 := by rw [hnl, hJ]; rfl
        have HJ : Aside _ := hJ
        clear hnl hwl hJ hl HM hbj hok
        go_wp2_with fail
        go_quiet (fail)
        have hb0 : Below wr.heap.size wr (wr.drewN nq) := ⟨rfl, rfl, rfl, Nat.le_refl _, fun _ _ => rfl⟩
        generalize wr.drewN nq = W0 at hb0 ⊢
        obtain ⟨g2, c2, w3, hrun, hM3, hB3, hl3⟩ := HAPP.out W0 hb0 [] HJ.out.symm rfl
        have HM3 : Aside _ := hM3
        have HB3 : Aside _ := hB3
        have HL3 : Aside _ := hl3
        have e0 := (hb0.cell (p := ⟨g, k * 2, none⟩) (by show g < wr.heap.size; omega)).trans d0
        have e1 := (hb0.cell (p := ⟨g, k * 2 + 1, none⟩) (by show g < wr.heap.size; omega)).trans d1
        clear hM3 hB3 hl3 HAPP
        go_wp2_with (at_builtin; refine wpList_append_run rfl (.tmp 41) (.tmp 46) 26 26 rfl (.slice o 0 c) (.slice (some ⟨W0.heap.size, 0, none⟩) 1 1) rfl rfl (hrun _) ?_)
        go_roundg (N - (k + 1))
        case measure => omega
        case rel => exact ⟨k + 1, _, c2, 0 + 1, by simp, rfl, by omega, Nat.le_refl _, HL3.out, HM3.out, HB3.out⟩
      | some p =>
        have hJ := snoc_of_last hl
        have hpb := (hbj p (by rw [hJ]; simp)).1
        have hp0 := hok.2 p (by rw [hJ]; simp)
        generalize hD : (jn (L.take k)).dropLast = D at hJ
        obtain ⟨m, hm⟩ : ∃ m, D.length = m := ⟨_, rfl⟩
        obtain rfl : n = m + 1 := by rw [hnl, hJ, List.length_append, hm]; rfl
        have hMo := HM.out.1
        rw [hJ] at hMo
        obtain ⟨g1, R1, rfl, hA1, hR1⟩ : ∃ g1 R1, o = some ⟨g1, 0, none⟩ ∧ At wr g1 (fl (D ++ [p]) ++ R1) ∧ R1.length + (D ++ [p]).length * 2 = c * 2 := by
          rcases hMo with ⟨_, h2, _⟩ | h
          · simp at h2
          · exact h
        have s1 := (row_set hA1 x2).1
        have HRS : Aside _ := row_set hA1 x2
        rw [hm] at s1
        have hown1 : W.heap.size ≤ g1 := HM.out.2.2 g1 rfl
        have hcm := HM.out.2.1
        have HJ : Aside _ := hJ
        have HD : Aside _ := hm
        have HRl : Aside _ := hR1
        have HA1 : Aside _ := hA1
        obtain ⟨p1, p2⟩ := p
        dsimp only at s1 hpb hp0
        have w1 : IntKind.i64.wrap (p2 + 1) = p2 + 1 := by rw [IntKind.wrap_i64]; omega
        have i2 : (m : Int) < ((m + 1 : Nat) : Int) := by omega
        have l1 : g1 < wr.heap.size := hA1.lt
        clear hnl hwl hJ hl hbj hok hMo hR1 hA1 hD
        by_cases he : p2 + 1 = x1
        · have ed : decide (p2 + 1 = x1) = true := by simp [he]
          go_wp2_with fail
          go_quiet (fail)
          have hb0 : Below wr.heap.size wr (wr.drewN nq) := ⟨rfl, rfl, rfl, Nat.le_refl _, fun _ _ => rfl⟩
          generalize wr.drewN nq = W0 at hb0 ⊢
          have hA0 : At W0 g1 (fl (D ++ [(p1, p2)]) ++ R1) := At.below HA1.out hb0 l1
          obtain ⟨r1, r2, r3, r4⟩ := row_set hA0 x2
          rw [HD.out] at r1 r2 r3 r4
          have hj : jnS (D ++ [(p1, p2)]) (x1, x2) = D ++ [(p1, x2)] := by unfold jnS; simp [he]
          have HM3 : Aside (Mk W.heap.size (W0.setCell ⟨g1, m * 2 + 1, none⟩ (.int .i64 x2)) (some ⟨g1, 0, none⟩) c (jn (L.take (k + 1)))) := by
            refine ⟨.inr ⟨g1, R1, rfl, ?_, ?_⟩, hcm, fun q hq => ?_⟩
            · rw [HT.out, HJ.out, hj]; exact r3
            · rw [HT.out, HJ.out, hj]
              have := HRl.out
              simp only [List.length_append, List.length_singleton] at this ⊢
              omega
            · injection hq with hq; injection hq with hq; omega
          have HB3 : Aside (Below W.heap.size W (W0.setCell ⟨g1, m * 2 + 1, none⟩ (.int .i64 x2))) := by
            rw [r4]
            exact (HB.out.trans (hb0.mono hz1)).trans ⟨rfl, rfl, rfl, by simp, fun q hq => setRow_other W0 g1 q _ (by omega)⟩
          have HL3 : Aside (m + 1 = (jn (L.take (k + 1))).length) := by rw [HT.out, HJ.out, hj, List.length_append, HD.out]; rfl
          have e0 := (hb0.cell (p := ⟨g, k * 2, none⟩) (by show g < wr.heap.size; omega)).trans d0
          have e1 := (hb0.cell (p := ⟨g, k * 2 + 1, none⟩) (by show g < wr.heap.size; omega)).trans d1
          clear HAPP r3 r4 hA0 hj
          go_wp2
          go_roundg (N - (k + 1))
          case measure => omega
          case rel => exact ⟨k + 1, _, c, m + 1, by simp, rfl, by omega, Nat.le_refl _, HL3.out, HM3.out, HB3.out⟩
        · have ed : decide (p2 + 1 = x1) = false := by simp [he]
          go_wp2_with fail
          go_quiet (fail)
          have hb0 : Below wr.heap.size wr (wr.drewN nq) := ⟨rfl, rfl, rfl, Nat.le_refl _, fun _ _ => rfl⟩
          generalize wr.drewN nq = W0 at hb0 ⊢
          obtain ⟨g2, c2, w3, hrun, hM3, hB3, hl3⟩ := HAPP.out W0 hb0 _ HJ.out.symm (by unfold jnS; simp [he])
          have HM3 : Aside _ := hM3
          have HB3 : Aside _ := hB3
          have HL3 : Aside _ := hl3
          have e0 := (hb0.cell (p := ⟨g, k * 2, none⟩) (by show g < wr.heap.size; omega)).trans d0
          have e1 := (hb0.cell (p := ⟨g, k * 2 + 1, none⟩) (by show g < wr.heap.size; omega)).trans d1
          clear hM3 hB3 hl3 HAPP
          go_wp2_with (at_builtin; refine wpList_append_run rfl (.tmp 41) (.tmp 46) 26 26 rfl (.slice (some ⟨g1, 0, none⟩) (m + 1) c) (.slice (some ⟨W0.heap.size, 0, none⟩) 1 1) rfl rfl (hrun _) ?_)
          go_roundg (N - (k + 1))
          case measure => omega
          case rel => exact ⟨k + 1, _, c2, m + 1 + 1, by simp, rfl, by omega, Nat.le_refl _, HL3.out, HM3.out, HB3.out⟩
    · obtain rfl : k = N := by omega
      have eL : L.take k = L := by rw [← hN]; exact List.take_length
      rw [eL] at HM hnl
      subst hnl
      go_wp2
      go_ret
      exact ⟨o, c, rfl, HM.out, HB.out⟩
end Go.Proofs.Ytgmhlmficnkhgaa
