/- ranges: which spans are reached, and replace. -/
import Derived.Test.YtlobnlkpbenngaaRSea
import Derived.WalkMore
namespace Go.Proofs.YtlobnlkpbenngaaR
open Go.RowKit Go.Shelf Go.Lib
set_option linter.unusedVariables false

set_option maxHeartbeats 2000000 in
set_option maxRecDepth 100000 in
theorem reached_idx (S c I J : Nat) (o : Option Addr) (f l : Int) (L : List (Int × Int)) (w : World) (h : Se w S o c L) (hIJ : I ≤ J) (hJ : J ≤ L.length) (hsz : L.length ≤ 70000)
    (hlo : ∀ k (h : k < L.length), k < I → L[k].2 < f) (hhi : ∀ k (h : k < L.length), I ≤ k → f ≤ L[k].2)
    (hin : ∀ k (h : k < L.length), I ≤ k → k < J → L[k].1 ≤ l ∧ (k + 1 < J → L[k].2 < l)) (hout : ∀ k (h : k < L.length), J ≤ k → l < L[k].1) :
    Calls Try.prog 54 #[.pointer (some ⟨S, 0, none⟩), .int .i64 f, .int .i64 l] w fun e w' => e = .returned (.tuple #[.int .i64 I, .int .i64 J]) ∧ Below w.heap.size w w' := by
  have hp := place_c S c I o f L w h (by omega) hsz hlo hhi
  have HS : Aside _ := h
  have HIN : Aside _ := hin
  have HOUT : Aside _ := hout
  clear h hlo hhi hin hout
  obtain ⟨N, hN⟩ : ∃ N, L.length = N := ⟨_, rfl⟩
  go_enter Try.func54, Try.ntmps54
  go_wp2
  go_step3
  go_wp2_with fail
  refine hp.mono ?_
  clear hp
  rintro e w0 ⟨rfl, hb0⟩
  have HB0 : Aside _ := hb0
  clear hb0
  go_wp2
  go_step3
  go_wp2
  go_loopg [7] N (fun kx s7 wr => ∃ t : Nat, s7 = .int .i64 t ∧ I ≤ t ∧ t ≤ J ∧ N - t ≤ kx ∧ Aside (Below w.heap.size w wr))
  case atStart => exact ⟨I, rfl, Nat.le_refl _, hIJ, by omega, HB0.out⟩
  case round =>
    obtain ⟨t, rfl, h1, h2, hg, HB⟩ := hrel
    have hSr : Se wr S o c L := Se.below HS.out HB.out (Nat.le_refl _)
    have hc1 := hSr.head.2
    rw [hN] at hc1
    by_cases ht : t < N
    · have hk : t < L.length := by omega
      rcases hSr.2.1 with ⟨_, hnil, _⟩ | ⟨g, R, rfl, hA, hR⟩
      · rw [hnil] at hk; simp at hk
      obtain ⟨cm, cm'⟩ := cells_at hA t hk
      have HI : Aside (I ≤ t → t < J → L[t].1 ≤ l ∧ (t + 1 < J → L[t].2 < l)) := HIN.out t hk
      have HO : Aside (J ≤ t → l < L[t].1) := HOUT.out t hk
      clear hSr hA
      generalize L[t] = y at cm cm' HI HO
      obtain ⟨ya, yb⟩ := y
      by_cases htJ : t < J
      · have g1 := (HI.out h1 htJ).1
        have g2 := (HI.out h1 htJ).2
        have g1' : ¬ l < ya := by simpa using g1
        by_cases hl : l ≤ yb
        · have e1 : J = t + 1 := by
            by_cases h : t + 1 < J
            · have := g2 h; simp at this; omega
            · omega
          clear g1 g2
          subst e1
          go_wp2
          try rw [Exit.noGoto_ret]
          go_ret2
          exact ⟨by simp, HB.out.trans ((Below.refl _ wr).alloc HB.out.size _)⟩
        · clear g1 g2
          go_wp2
          go_roundg (N - (t + 1))
          case measure => omega
          case rel => exact ⟨t + 1, by simp, by omega, by omega, Nat.le_refl _, HB.out.trans ((Below.refl _ wr).alloc HB.out.size _)⟩
      · obtain rfl : t = J := by omega
        have g1 := HO.out (Nat.le_refl _)
        have g1' : l < ya := by simpa using g1
        clear g1
        go_wp2
        try rw [Exit.noGoto_ret]
        go_ret2
        exact ⟨rfl, HB.out.trans ((Below.refl _ wr).alloc HB.out.size _)⟩
    · obtain rfl : t = N := by omega
      obtain rfl : t = J := by omega
      go_wp2
      try rw [Exit.noGoto_ret]
      go_ret2
      exact ⟨rfl, HB.out⟩

end Go.Proofs.YtlobnlkpbenngaaR
