/- ledger: searches; have. -/
import Derived.Test.YtkjcapmhjhnckaaNu
namespace Go.Proofs.Ytkjcapmhjhnckaa
open Go.RowKit Go.Maps Go.Shelf
set_option linter.unusedVariables false
set_option maxRecDepth 100000

def cmpI (x y : Int) : Int := if x < y then -1 else if y < x then 1 else 0
theorem nan_c (x : Int) (w : World) : Calls Try.prog 51 #[.int .i64 x] w fun e w' => e = .returned (.bool false) ∧ w' = w := by
  go_enter Try.func51, Try.ntmps51
  go_wp2
  go_ret
  exact ⟨rfl, rfl⟩
theorem nan2_c (x : Int) (w : World) : Calls Try.prog 54 #[.int .i64 x] w fun e w' => e = .returned (.bool false) ∧ w' = w := by
  go_enter Try.func54, Try.ntmps54
  go_wp2
  go_ret
  exact ⟨rfl, rfl⟩
theorem compare_c (x y : Int) (w : World) : Calls Try.prog 42 #[.int .i64 x, .int .i64 y] w fun e w' => e = .returned (.int .i64 (cmpI x y)) ∧ w' = w := by
  rcases Int.lt_trichotomy x y with h | h | h
  · have e : cmpI x y = -1 := by simp [cmpI, h]
    rw [e]
    go_enter Try.func42, Try.ntmps42
    go_wp2_with (go_at_call 51; refine (nan_c _ _).mono ?_; rintro e w' ⟨rfl, rfl⟩)
    all_goals (go_ret; exact ⟨by simp_all, rfl⟩)
  · subst h
    have e : cmpI x x = 0 := by simp [cmpI]
    rw [e]
    go_enter Try.func42, Try.ntmps42
    go_wp2_with (go_at_call 51; refine (nan_c _ _).mono ?_; rintro e w' ⟨rfl, rfl⟩)
    all_goals (go_ret; exact ⟨by simp_all, rfl⟩)
  · have e : cmpI x y = 1 := by simp [cmpI, h]; omega
    have h2 : ¬ x < y := by omega
    rw [e]
    go_enter Try.func42, Try.ntmps42
    go_wp2_with (go_at_call 51; refine (nan_c _ _).mono ?_; rintro e w' ⟨rfl, rfl⟩)
    all_goals (go_ret; exact ⟨by simp_all, rfl⟩)
theorem less_c (x y : Int) (w : World) : Calls Try.prog 53 #[.int .i64 x, .int .i64 y] w fun e w' => e = .returned (.bool (decide (x < y))) ∧ w' = w := by
  by_cases h : x < y
  · go_enter Try.func53, Try.ntmps53
    go_wp2_with (go_at_call 51; refine (nan_c _ _).mono ?_; rintro e w' ⟨rfl, rfl⟩)
    all_goals (go_ret; exact ⟨by simp_all, rfl⟩)
  · go_enter Try.func53, Try.ntmps53
    go_wp2_with (go_at_call 51; refine (nan_c _ _).mono ?_; rintro e w' ⟨rfl, rfl⟩)
    all_goals (go_ret; exact ⟨by simp_all, rfl⟩)
theorem clo41_c (a b n : Int) (w : World) : Calls Try.prog 41 #[.agg #[.int .i64 a, .int .i64 b], .int .i64 n] w fun e w' => e = .returned (.int .i64 (cmpI b n)) ∧ Below w.heap.size w w' := by
  go_enter Try.func41, Try.ntmps41
  go_wp2_with fail
  refine (compare_c _ _ _).mono ?_
  rintro e w' ⟨rfl, rfl⟩
  go_wp2
  go_ret
  exact ⟨rfl, bel1 w _⟩
theorem eg41 : ∀ args w, (callFunc 41 args).run Try.prog w = .ok (.enter 41 args) w := enters_of Try.func41 (by kernel_rfl) rfl

set_option maxHeartbeats 2000000 in
theorem search_c {w : World} {o : Option Addr} {c : Nat} {T : List (Int × Int)} (h : Rw 50 2 w o T.length c (fl T)) (i : Nat) (n : Int) (hi : i ≤ T.length) (hsz : T.length ≤ 4000000000000)
    (hlo : ∀ k (h : k < T.length), k < i → T[k].2 < n) (hhi : ∀ k (h : k < T.length), i ≤ k → n ≤ T[k].2) :
    Calls Try.prog 40 #[.slice o T.length c, .int .i64 n, .func (.func 41) #[] #[]] w fun e w' => ∃ b, e = .returned (.tuple #[.int .i64 i, .bool b]) ∧ Below w.heap.size w w' := by
  have HA : Aside _ := h
  have HLO : Aside _ := hlo
  have HHI : Aside _ := hhi
  have eg := eg41
  clear h hlo hhi
  obtain ⟨N, hN⟩ : ∃ N, T.length = N := ⟨_, rfl⟩
  rw [hN]
  rw [hN] at hi hsz
  go_enter Try.func40, Try.ntmps40
  go_wp2
  go_loopg [9, 10] N (fun kx s9 s10 wr => ∃ lo hh : Nat, s9 = .int .i64 lo ∧ s10 = .int .i64 hh ∧ lo ≤ i ∧ i ≤ hh ∧ hh ≤ N ∧ hh - lo ≤ kx ∧ Aside (Below w.heap.size w wr))
  case atStart => exact ⟨0, N, rfl, rfl, Nat.zero_le _, hi, Nat.le_refl _, by omega, Below.refl _ _⟩
  case round =>
    obtain ⟨lo, hh, rfl, rfl, h1, h2, h3, hg, HB⟩ := hrel
    by_cases hlt : lo < hh
    · have hk : (lo + hh) / 2 < T.length := by omega
      obtain ⟨g, off, ho, cm, cm', -⟩ := (Rw.bel HA.out HB.out).span hk
      have HLT : Aside ((lo + hh) / 2 < i → T[(lo + hh) / 2].2 < n) := HLO.out _ hk
      have HGE : Aside (i ≤ (lo + hh) / 2 → n ≤ T[(lo + hh) / 2].2) := HHI.out _ hk
      subst ho
      generalize T[(lo + hh) / 2] = y at cm cm' HLT HGE
      obtain ⟨ya, yb⟩ := y
      have hc := clo41_c ya yb n wr
      by_cases hyx : (lo + hh) / 2 < i
      · have e1 : cmpI yb n = -1 := by unfold cmpI; rw [if_pos (HLT.out hyx)]
        rw [e1] at hc
        go_wp2_with (go_at_fn 41; refine hc.mono ?_; rintro e w' ⟨rfl, hbw⟩)
        go_roundg (hh - ((lo + hh) / 2 + 1))
        case measure => omega
        case rel => exact ⟨(lo + hh) / 2 + 1, hh, by rw [show ((lo : Int) + (hh : Int)) / 2 + 1 = (((lo + hh) / 2 + 1 : Nat) : Int) by omega], rfl, by omega, h2, h3, Nat.le_refl _, HB.out.trans (hbw.mono HB.out.size)⟩
      · have e1 : ¬ cmpI yb n < 0 := by
          have := HGE.out (by omega)
          unfold cmpI
          rw [if_neg (by omega)]
          split <;> omega
        generalize cmpI yb n = q at hc e1
        go_wp2_with (go_at_fn 41; refine hc.mono ?_; rintro e w' ⟨rfl, hbw⟩)
        go_roundg ((lo + hh) / 2 - lo)
        case measure => omega
        case rel => exact ⟨lo, (lo + hh) / 2, rfl, by rw [show ((lo : Int) + (hh : Int)) / 2 = (((lo + hh) / 2 : Nat) : Int) by omega], h1, by omega, by omega, Nat.le_refl _, HB.out.trans (hbw.mono HB.out.size)⟩
    · obtain rfl : lo = i := by omega
      obtain rfl : hh = lo := by omega
      by_cases hn : hh < N
      · have hk : hh < T.length := by omega
        obtain ⟨g, off, ho, cm, cm', -⟩ := (Rw.bel HA.out HB.out).span hk
        subst ho
        generalize T[hh] = y at cm cm'
        obtain ⟨ya, yb⟩ := y
        have hc := clo41_c ya yb n wr
        generalize cmpI yb n = q at hc
        by_cases hq : q = 0
        · go_wp2_with (go_at_fn 41; refine hc.mono ?_; rintro e w' ⟨rfl, hbw⟩)
          go_ret2
          exact ⟨_, rfl, HB.out.trans (hbw.mono HB.out.size)⟩
        · go_wp2_with (go_at_fn 41; refine hc.mono ?_; rintro e w' ⟨rfl, hbw⟩)
          go_ret2
          exact ⟨_, rfl, HB.out.trans (hbw.mono HB.out.size)⟩
      · go_wp2
        go_ret2
        exact ⟨_, rfl, HB.out⟩
set_option maxHeartbeats 2000000 in
/-- slices.BinarySearch in a row of ints. -/
theorem isearch_c {w : World} {o : Option Addr} {c : Nat} {T : List Int} (h : Rw 3 1 w o T.length c (T.map fun x => .int .i64 x)) (i : Nat) (n : Int) (hi : i ≤ T.length) (hsz : T.length ≤ 4000000000000)
    (hlo : ∀ k (h : k < T.length), k < i → T[k] < n) (hhi : ∀ k (h : k < T.length), i ≤ k → n ≤ T[k]) :
    Calls Try.prog 44 #[.slice o T.length c, .int .i64 n] w fun e w' => ∃ b, e = .returned (.tuple #[.int .i64 i, .bool b]) ∧ w' = w := by
  have HA : Aside (∀ k (h : k < T.length), ∃ g off, o = some ⟨g, off, none⟩ ∧ w.cell? ⟨g, off + k, none⟩ = some (.int .i64 T[k])) := fun k hk => by
    obtain ⟨g, off, e, hc, -⟩ := h.cell (j := k) (v := .int .i64 T[k]) (by simp [hk])
    exact ⟨g, off, e, hc⟩
  have HLO : Aside _ := hlo
  have HHI : Aside _ := hhi
  clear h hlo hhi
  obtain ⟨N, hN⟩ : ∃ N, T.length = N := ⟨_, rfl⟩
  rw [hN]
  rw [hN] at hi hsz
  go_enter Try.func44, Try.ntmps44
  go_wp2
  go_loopg [7, 8] N (fun kx s7 s8 wr => ∃ lo hh : Nat, s7 = .int .i64 lo ∧ s8 = .int .i64 hh ∧ lo ≤ i ∧ i ≤ hh ∧ hh ≤ N ∧ hh - lo ≤ kx ∧ wr = w)
  case atStart => exact ⟨0, N, rfl, rfl, Nat.zero_le _, hi, Nat.le_refl _, by omega, rfl⟩
  case round =>
    obtain ⟨lo, hh, rfl, rfl, h1, h2, h3, hg, rfl⟩ := hrel
    by_cases hlt : lo < hh
    · have hk : (lo + hh) / 2 < T.length := by omega
      obtain ⟨g, off, ho, cm⟩ := HA.out _ hk
      have HLT : Aside ((lo + hh) / 2 < i → T[(lo + hh) / 2] < n) := HLO.out _ hk
      have HGE : Aside (i ≤ (lo + hh) / 2 → n ≤ T[(lo + hh) / 2]) := HHI.out _ hk
      subst ho
      generalize T[(lo + hh) / 2] = y at cm HLT HGE
      have hc := less_c y n wr
      by_cases hyx : (lo + hh) / 2 < i
      · have e1 : decide (y < n) = true := decide_eq_true (HLT.out hyx)
        rw [e1] at hc
        go_wp2_with (go_at_call 53; refine hc.mono ?_; rintro e w' ⟨rfl, hbw⟩; subst w')
        go_roundg (hh - ((lo + hh) / 2 + 1))
        case measure => omega
        case rel => exact ⟨(lo + hh) / 2 + 1, hh, by rw [show ((lo : Int) + (hh : Int)) / 2 + 1 = (((lo + hh) / 2 + 1 : Nat) : Int) by omega], rfl, by omega, h2, h3, Nat.le_refl _, rfl⟩
      · have e1 : decide (y < n) = false := decide_eq_false (by have := HGE.out (by omega); omega)
        rw [e1] at hc
        go_wp2_with (go_at_call 53; refine hc.mono ?_; rintro e w' ⟨rfl, hbw⟩; subst w')
        go_roundg ((lo + hh) / 2 - lo)
        case measure => omega
        case rel => exact ⟨lo, (lo + hh) / 2, rfl, by rw [show ((lo : Int) + (hh : Int)) / 2 = (((lo + hh) / 2 : Nat) : Int) by omega], h1, by omega, by omega, Nat.le_refl _, rfl⟩
    · obtain rfl : lo = i := by omega
      obtain rfl : hh = lo := by omega
      by_cases hn : hh < N
      · have hk : hh < T.length := by omega
        obtain ⟨g, off, ho, cm⟩ := HA.out _ hk
        subst ho
        generalize T[hh] = y at cm
        by_cases hq : y = n
        · go_wp2
          go_ret2
          exact ⟨_, rfl, rfl⟩
        · go_wp2_with (go_at_call 54; refine (nan2_c _ _).mono ?_; rintro e w' ⟨rfl, hbw⟩; subst w')
          go_ret2
          exact ⟨_, rfl, rfl⟩
      · go_wp2
        go_ret2
        exact ⟨_, rfl, rfl⟩
end Go.Proofs.Ytkjcapmhjhnckaa
