/- ledger: sample, wrong, pass. -/
import Derived.Test.YtkjcapmhjhnckaaArW
namespace Go.Proofs.Ytkjcapmhjhnckaa
open Go.RowKit Go.Maps Go.Shelf
set_option linter.unusedVariables false
set_option maxRecDepth 100000

theorem eg48 : ∀ args w, (callFunc 48 args).run Try.prog w = .ok (.enter 48 args) w := enters_of Try.func48 (by kernel_rfl) rfl
theorem elicits_c (n a s : Int) (e : Bool) (w : World) : Calls Try.prog 48 #[.agg #[.int .i64 n, .int .i64 a, .int .i64 s, .bool e]] w fun r w' => r = .returned (.bool e) ∧ Below w.heap.size w w' := by
  go_enter Try.func48, Try.ntmps48
  go_wp2
  go_ret
  exact ⟨rfl, bel1 w _⟩
/-- IndexFunc's number: below 0 where none is eliciting. -/
def IxR (W : World) (ps : List Pk) (r : Ending) (w' : World) : Prop := ∃ v : Int, r = .returned (.int .i64 v) ∧ decide (0 ≤ v) = ps.any (fun p => p.e) ∧ Below W.heap.size W w'
set_option maxHeartbeats 1000000 in
theorem pindex_c {W : World} {o : Option Addr} {c : Nat} {ps : List Pk} (h : Pr W o c ps) (hl : ps.length ≤ 4000000000000) : Calls Try.prog 55 #[.slice o ps.length c, .func (.func 48) #[] #[]] W (IxR W ps) := by
  have HP : Aside _ := h
  obtain ⟨N, hN⟩ : ∃ N, ps.length = N := ⟨_, rfl⟩
  have HN : Aside _ := hN
  rw [hN]
  rw [hN] at hl
  have HR : Aside (∀ (v : Int) (w' : World), decide (0 ≤ v) = ps.any (fun p => p.e) → Below W.heap.size W w' → IxR W ps (.returned (.int .i64 v)) w') := fun v w' h1 h2 => ⟨v, rfl, h1, h2⟩
  generalize IxR W ps = RR at *
  clear h hN
  have eg := eg48
  go_enter Try.func55, Try.ntmps55
  go_wp2
  go_loopg [8] N (fun kx s8 wr => ∃ k : Nat, s8 = .int .i64 (k : Int) ∧ k ≤ N ∧ N - k ≤ kx ∧ Aside (Below W.heap.size W wr ∧ (ps.take k).any (fun p => p.e) = false))
  case atStart => exact ⟨0, rfl, by omega, by omega, Below.refl _ _, rfl⟩
  case round =>
    obtain ⟨k, rfl, hk, hg, HB⟩ := hrel
    by_cases hlt : k < N
    · have hi : k < ps.length := by rw [HN.out]; exact hlt
      obtain ⟨g, off, ho, c0, c1, c2, c3⟩ := (Pr.bel HP.out HB.out.1).cells hi
      have HT : Aside (ps.take (k + 1) = ps.take k ++ [ps[k]]) := List.take_succ_eq_append_getElem hi
      have HM : Aside (ps[k] ∈ ps) := List.getElem_mem hi
      generalize ps[k] = x at *
      obtain ⟨xn, xa, xs, xe⟩ := x
      simp only at c0 c1 c2 c3
      subst ho
      have hc := elicits_c xn xa xs xe wr
      have i1 : (k : Int) < N := by omega
      have iw : IntKind.i64.wrap ((k : Int) + 1) = (k : Int) + 1 := wrp _ (by omega) (by omega)
      cases xe with
      | true =>
        go_wp2_with (go_at_fn 48; refine hc.mono ?_; rintro e w' ⟨rfl, hbw⟩; have HBW : Aside _ := hbw; clear hbw)
        refine HR.out _ _ ?_ (bel_trans HB.out.1 HBW.out)
        have : ps.any (fun p => p.e) = true := List.any_eq_true.2 ⟨_, HM.out, rfl⟩
        rw [this]
        simp
      | false =>
        go_wp2_with (go_at_fn 48; refine hc.mono ?_; rintro e w' ⟨rfl, hbw⟩; have HBW : Aside _ := hbw; clear hbw)
        go_roundg (N - (k + 1))
        case measure => omega
        case rel => exact ⟨k + 1, rfl, by omega, Nat.le_refl _, bel_trans HB.out.1 HBW.out, by rw [HT.out, List.any_append, HB.out.2]; simp⟩
    · obtain rfl : k = N := by omega
      have i1 : ¬ (k : Int) < k := by omega
      go_wp2
      refine HR.out _ _ ?_ HB.out.1
      have h2 := HB.out.2
      rw [show ps.take k = ps by rw [← HN.out, List.take_length]] at h2
      rw [h2]
      rfl
theorem contains_c {W : World} {o : Option Addr} {c : Nat} {ps : List Pk} (h : Pr W o c ps) (hl : ps.length ≤ 4000000000000) : Calls Try.prog 47 #[.slice o ps.length c, .func (.func 48) #[] #[]] W fun r w' => r = .returned (.bool (ps.any fun p => p.e)) ∧ Below W.heap.size W w' := by
  have hp := pindex_c h hl
  obtain ⟨N, hN⟩ : ∃ N, ps.length = N := ⟨_, rfl⟩
  rw [hN] at hp ⊢
  go_enter Try.func47, Try.ntmps47
  go_wp2_with fail
  refine hp.mono ?_
  rintro e w' ⟨v, rfl, h1, h2⟩
  by_cases hv : 0 ≤ v
  · go_wp2
    go_ret
    exact ⟨by rw [← h1]; simp [hv], h2⟩
  · go_wp2
    go_ret
    exact ⟨by rw [← h1]; simp, h2⟩
/-- How long the greatest took. -/
def smp (ps : List Pk) (g now : Int) : Int := match ps.getLast? with
  | none => -1
  | some p => if p.n ≠ g ∨ (ps.any fun p => p.e) = false then -1 else now - p.a
set_option maxHeartbeats 1000000 in
theorem sample_c {W : World} {o : Option Addr} {c : Nat} {ps : List Pk} (h : Pr W o c ps) (hl : ps.length ≤ 4000000000000) (hok : ∀ p ∈ ps, p.ok) (g now : Int) (h0 : 0 ≤ now) (h1 : now ≤ 1125899906842624) :
    Calls Try.prog 35 #[.slice o ps.length c, .int .i64 g, .int .i64 now] W fun r w' => r = .returned (.int .i64 (smp ps g now)) ∧ Below W.heap.size W w' := by
  obtain ⟨N, hN⟩ : ∃ N, ps.length = N := ⟨_, rfl⟩
  rcases N with _ | N
  · have e : ps = [] := List.length_eq_zero_iff.1 hN
    subst e
    go_enter Try.func35, Try.ntmps35
    go_wp2
    go_ret
    exact ⟨rfl, Below.refl _ _⟩
  · have hi : N < ps.length := by omega
    have hlast : ps.getLast? = some ps[N] := by rw [List.getLast?_eq_getElem?, hN]; exact List.getElem?_eq_getElem hi
    obtain ⟨gb, off, rfl, c0, c1, c2, c3⟩ := h.cells hi
    have hcn := contains_c h hl
    have hpk := hok _ (List.getElem_mem hi)
    have HS : Aside (smp ps g now = if ps[N].n ≠ g ∨ (ps.any fun p => p.e) = false then -1 else now - ps[N].a) := by
      show smp ps g now = _
      unfold smp; rw [hlast]
    rw [hN] at hcn ⊢
    rw [hN] at hl
    have C0 := c0
    have C1 := c1
    generalize ps[N] = x at *
    obtain ⟨xn, xa, xs, xe⟩ := x
    obtain ⟨_, _, a0, a1, _, _⟩ := hpk
    simp only at c0 c1 a0 a1
    generalize smp ps g now = R at *
    generalize (ps.any fun p => p.e) = any at *
    have i1 : IntKind.i64.wrap ((N : Int) + 1 - 1) = N := by rw [wrp _ (by omega) (by omega)]; omega
    have i2 : (N : Int) < (N : Int) + 1 := by omega
    have i3 : ¬ (N : Int) < 0 := by omega
    have i4 : IntKind.i64.wrap (now - xa) = now - xa := wrp _ (by omega) (by omega)
    have HCA : Aside (∀ w', Below W.heap.size W w' → w'.cell? ⟨gb, off + N * 4 + 1, none⟩ = some (.int .i64 xa)) := fun w' hw => cell_bel c1 hw
    clear h hok hi hlast c2 c3 hN C0 C1
    by_cases hg : xn = g
    · subst hg
      cases any with
      | true =>
        have HR : Aside (R = now - xa) := by
            show R = _
            rw [HS.out]; simp
        clear HS
        go_enter Try.func35, Try.ntmps35
        go_wp2_with fail
        refine hcn.mono ?_
        rintro e w' ⟨rfl, hbw⟩
        have c1' := HCA.out w' hbw
        have HBW : Aside _ := hbw
        clear hbw hcn c0 c1 HCA
        go_wp2
        go_ret
        exact ⟨by rw [HR.out]; rfl, HBW.out⟩
      | false =>
        have HR : Aside (R = -1) := by
            show R = _
            rw [HS.out]; simp
        clear HS
        go_enter Try.func35, Try.ntmps35
        go_wp2_with fail
        refine hcn.mono ?_
        rintro e w' ⟨rfl, hbw⟩
        have HBW : Aside _ := hbw
        clear hbw hcn c0 c1 HCA
        go_wp2
        go_ret
        exact ⟨by rw [HR.out]; rfl, HBW.out⟩
    · have HR : Aside (R = -1) := by
            show R = _
            rw [HS.out]; simp [hg]
      clear HS
      go_enter Try.func35, Try.ntmps35
      go_wp2
      go_ret
      exact ⟨by rw [HR.out]; rfl, Below.refl _ _⟩
/-- What is wrong with a call at a time. -/
def wrg (L : Ls) (now late : Int) (formed : Bool) : Int := if ¬ (0 ≤ now ∧ now ≤ 1125899906842624) ∨ ¬ (0 ≤ late ∧ late ≤ 1125899906842624) ∨ formed = false then 2 else if now < L.t then 42 else 0
set_option maxHeartbeats 1000000 in
theorem wrong_c {W : World} {A : Ad} {L : Ls} (h : Lg W A L) (now late : Int) (formed : Bool) : Calls Try.prog 30 #[.pointer (some ⟨A.b, 0, none⟩), .int .i64 now, .int .i64 late, .bool formed] W fun r w' => r = .returned (.int .i64 (wrg L now late formed)) ∧ w' = W := by
  have hn := none_c h
  have c4 := h.c4
  have h1 := isTime_c now W
  have h2 := isTime_c late W
  have HW : Aside (wrg L now late formed = if ¬ (0 ≤ now ∧ now ≤ 1125899906842624) ∨ ¬ (0 ≤ late ∧ late ≤ 1125899906842624) ∨ formed = false then 2 else if now < L.t then 42 else 0) := rfl
  generalize wrg L now late formed = R at *
  clear h
  by_cases p1 : 0 ≤ now ∧ now ≤ 1125899906842624
  · rw [decide_eq_true p1] at h1
    by_cases p2 : 0 ≤ late ∧ late ≤ 1125899906842624
    · rw [decide_eq_true p2] at h2
      cases formed with
      | true =>
        by_cases p3 : now < L.t
        · have HR : Aside (R = 42) := by
            show R = _
            rw [HW.out]; simp [p1, p2, p3]
          clear HW p1 p2
          go_enter Try.func30, Try.ntmps30
          go_wp2_with fail
          refine hn.mono ?_
          rintro e u ⟨rfl, hu⟩
          subst u
          go_wp2_with fail
          refine h1.mono ?_
          rintro e u ⟨rfl, hu⟩
          subst u
          go_wp2_with fail
          refine h2.mono ?_
          rintro e u ⟨rfl, hu⟩
          subst u
          go_wp2
          go_ret
          exact ⟨by rw [HR.out]; rfl, rfl⟩
        · have HR : Aside (R = 0) := by
            show R = _
            rw [HW.out]; simp [p1, p2, p3]
          clear HW p1 p2
          go_enter Try.func30, Try.ntmps30
          go_wp2_with fail
          refine hn.mono ?_
          rintro e u ⟨rfl, hu⟩
          subst u
          go_wp2_with fail
          refine h1.mono ?_
          rintro e u ⟨rfl, hu⟩
          subst u
          go_wp2_with fail
          refine h2.mono ?_
          rintro e u ⟨rfl, hu⟩
          subst u
          go_wp2
          go_ret
          exact ⟨by rw [HR.out]; rfl, rfl⟩
      | false =>
        have HR : Aside (R = 2) := by
            show R = _
            rw [HW.out]; simp
        clear HW p1 p2
        go_enter Try.func30, Try.ntmps30
        go_wp2_with fail
        refine hn.mono ?_
        rintro e u ⟨rfl, hu⟩
        subst u
        go_wp2_with fail
        refine h1.mono ?_
        rintro e u ⟨rfl, hu⟩
        subst u
        go_wp2_with fail
        refine h2.mono ?_
        rintro e u ⟨rfl, hu⟩
        subst u
        go_wp2
        go_ret
        exact ⟨by rw [HR.out]; rfl, rfl⟩
    · rw [decide_eq_false p2] at h2
      have HR : Aside (R = 2) := by
            show R = _
            rw [HW.out]; simp [p2]
      clear HW p1 p2
      go_enter Try.func30, Try.ntmps30
      go_wp2_with fail
      refine hn.mono ?_
      rintro e u ⟨rfl, hu⟩
      subst u
      go_wp2_with fail
      refine h1.mono ?_
      rintro e u ⟨rfl, hu⟩
      subst u
      go_wp2_with fail
      refine h2.mono ?_
      rintro e u ⟨rfl, hu⟩
      subst u
      go_wp2
      go_ret
      exact ⟨by rw [HR.out]; rfl, rfl⟩
  · rw [decide_eq_false p1] at h1
    have HR : Aside (R = 2) := by
            show R = _
            rw [HW.out]; simp [p1]
    clear HW p1
    go_enter Try.func30, Try.ntmps30
    go_wp2_with fail
    refine hn.mono ?_
    rintro e u ⟨rfl, hu⟩
    subst u
    go_wp2_with fail
    refine h1.mono ?_
    rintro e u ⟨rfl, hu⟩
    subst u
    go_wp2
    go_ret
    exact ⟨by rw [HR.out]; rfl, rfl⟩
end Go.Proofs.Ytkjcapmhjhnckaa
