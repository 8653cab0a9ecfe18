/- seen: the search for the part that a number belongs to. -/
import Derived.Test.YtlobnlkpbenngaaPIns2
import Derived.Test.YtlobnlkpbenngaaRSea
import Derived.Deep.LoopGhost
import Derived.LoopTactic
namespace Go.Proofs.YtlobnlkpbenngaaP
open Go.RowKit Go.Shelf Go.Lib
open Go.Proofs.YtlobnlkpbenngaaR (Chg Chg.refl Chg.trans Chg.below cmpI compare_any)
set_option linter.unusedVariables false

set_option maxRecDepth 100000 in
theorem closure_any (a n : Int) (b : Nat) (w : World) : Calls Try.prog 49 #[.agg #[.int .i64 a, .pointer (some ⟨b, 0, none⟩)], .int .i64 n] w fun e w' => e = .returned (.int .i64 (cmpI a n)) ∧ Below w.heap.size w w' := by
  go_enter Try.func49, Try.ntmps49
  go_wp2_with fail
  refine (compare_any _ _ _).mono ?_
  rintro e w' ⟨rfl, h⟩
  go_wp2
  go_ret
  exact ⟨rfl, ((Below.refl _ w).alloc (Nat.le_refl _) _).trans (h.mono (by simp))⟩

theorem cells_at {w : World} {g : Nat} {L : List (Int × Nat)} {R : List Value} (h : At w g (fl L ++ R)) (k : Nat) (hk : k < L.length) :
    w.cell? ⟨g, k * 2, none⟩ = some (.int .i64 L[k].1) ∧ w.cell? ⟨g, k * 2 + 1, none⟩ = some (.pointer (some ⟨L[k].2, 0, none⟩)) := by
  have := fl_get L k hk
  rw [h.cell, h.cell, List.getElem?_append_left (by simp; omega), List.getElem?_append_left (by simp; omega)]
  exact this

theorem At.below {w W : World} {g : Nat} {X : List Value} {B : Nat} (h : At w g X) (hb : Below B w W) (hB : g < B) : At W g X := (hb.block g hB).trans h

/-- The answer b says whether the part that stands at i begins with n. -/
def EqAt (L : List (Int × Nat)) (i : Nat) (n : Int) (b : Bool) : Prop := b = true ↔ ∃ h : i < L.length, L[i].1 = n
theorem eg49 : ∀ args w, (callFunc 49 args).run Try.prog w = .ok (.enter 49 args) w := enters_of Try.func49 (by kernel_rfl) rfl

set_option maxRecDepth 100000 in
set_option maxHeartbeats 2000000 in
theorem search_some (g c i : Nat) (n : Int) (L : List (Int × Nat)) (R : List Value) (w : World) (hA : At w g (fl L ++ R)) (hi : i ≤ L.length) (hsz : L.length ≤ 68719476736)
    (hlo : ∀ k (h : k < L.length), k < i → L[k].1 < n) (hhi : ∀ k (h : k < L.length), i ≤ k → n ≤ L[k].1) :
    Calls Try.prog 48 #[.slice (some ⟨g, 0, none⟩) L.length c, .int .i64 n, .func (.func 49) #[] #[]] w fun e w' => ∃ b, e = .returned (.tuple #[.int .i64 i, .bool b]) ∧ EqAt L i n b ∧ Below w.heap.size w w' := by
  have HA : Aside _ := hA
  have HLO : Aside _ := hlo
  have HHI : Aside _ := hhi
  have hgl := hA.lt
  have eg := eg49
  clear hA hlo hhi
  obtain ⟨N, hN⟩ : ∃ N, L.length = N := ⟨_, rfl⟩
  rw [hN]
  rw [hN] at hi hsz
  go_enter Try.func48, Try.ntmps48
  go_wp2
  go_loopg [9, 10] N (fun kx s9 s10 wr => ∃ lo hh : Nat, s9 = .int .i64 lo ∧ s10 = .int .i64 hh ∧ lo ≤ i ∧ i ≤ hh ∧ hh ≤ N ∧ hh - lo ≤ kx ∧ Aside (Below w.heap.size w wr))
  case atStart => exact ⟨0, N, rfl, rfl, Nat.zero_le _, hi, Nat.le_refl _, by omega, Below.refl _ _⟩
  case round =>
    obtain ⟨lo, hh, rfl, rfl, h1, h2, h3, hg, HB⟩ := hrel
    have hAr : At wr g (fl L ++ R) := At.below HA.out HB.out hgl
    by_cases hlt : lo < hh
    · have hk : (lo + hh) / 2 < L.length := by omega
      obtain ⟨cm, cm'⟩ := cells_at hAr ((lo + hh) / 2) hk
      have HLT : Aside ((lo + hh) / 2 < i → L[(lo + hh) / 2].1 < n) := HLO.out _ hk
      have HGE : Aside (i ≤ (lo + hh) / 2 → n ≤ L[(lo + hh) / 2].1) := HHI.out _ hk
      clear hAr
      generalize L[(lo + hh) / 2] = y at cm cm' HLT HGE
      obtain ⟨ya, yb⟩ := y
      have hc := closure_any ya n yb wr
      by_cases hyx : (lo + hh) / 2 < i
      · have e1 : cmpI ya n = -1 := by unfold cmpI; rw [if_pos (HLT.out hyx)]
        rw [e1] at hc
        go_wp2_with (go_at_fn 49; refine hc.mono ?_; rintro e w' ⟨rfl, hbw⟩)
        go_roundg (hh - ((lo + hh) / 2 + 1))
        case measure => omega
        case rel => exact ⟨(lo + hh) / 2 + 1, hh, by rw [show ((lo : Int) + (hh : Int)) / 2 + 1 = (((lo + hh) / 2 + 1 : Nat) : Int) by omega], rfl, by omega, h2, h3, Nat.le_refl _, HB.out.trans (hbw.mono HB.out.size)⟩
      · have e1 : ¬ cmpI ya n < 0 := by
          have := HGE.out (by omega)
          unfold cmpI
          rw [if_neg (by omega)]
          split <;> omega
        generalize cmpI ya n = q at hc e1
        go_wp2_with (go_at_fn 49; refine hc.mono ?_; rintro e w' ⟨rfl, hbw⟩)
        go_roundg ((lo + hh) / 2 - lo)
        case measure => omega
        case rel => exact ⟨lo, (lo + hh) / 2, rfl, by rw [show ((lo : Int) + (hh : Int)) / 2 = (((lo + hh) / 2 : Nat) : Int) by omega], h1, by omega, by omega, Nat.le_refl _, HB.out.trans (hbw.mono HB.out.size)⟩
    · obtain rfl : lo = i := by omega
      obtain rfl : hh = lo := by omega
      by_cases hn : hh < N
      · have hk : hh < L.length := by omega
        obtain ⟨cm, cm'⟩ := cells_at hAr hh hk
        have HE : Aside (∀ q : Int, (q = 0 ↔ cmpI L[hh].1 n = 0) → EqAt L hh n (q == 0)) := by
          intro q hq
          have : cmpI L[hh].1 n = 0 ↔ L[hh].1 = n := by unfold cmpI; split <;> (try split) <;> omega
          unfold EqAt
          simp only [beq_iff_eq, hq, this]
          exact ⟨fun h => ⟨hk, h⟩, fun ⟨_, h⟩ => h⟩
        clear hAr
        have HQ : Aside (cmpI L[hh].1 n = cmpI L[hh].1 n) := rfl
        obtain ⟨ya, yb, hy⟩ : ∃ ya yb, L[hh] = (ya, yb) := ⟨_, _, rfl⟩
        rw [hy] at cm cm' HE
        clear hy HQ
        have hc := closure_any ya n yb wr
        obtain ⟨q, hq0⟩ : ∃ q, cmpI ya n = q := ⟨_, rfl⟩
        rw [hq0] at hc
        have HF : Aside _ := HE.out q (by rw [← hq0])
        clear HE hq0
        by_cases hq : q = 0
        · go_wp2_with (go_at_fn 49; refine hc.mono ?_; rintro e w' ⟨rfl, hbw⟩)
          go_ret2
          refine ⟨_, rfl, ?_, HB.out.trans (hbw.mono HB.out.size)⟩
          exact (show (q == 0) = true by simp [hq]) ▸ HF.out
        · go_wp2_with (go_at_fn 49; refine hc.mono ?_; rintro e w' ⟨rfl, hbw⟩)
          go_ret2
          refine ⟨_, rfl, ?_, HB.out.trans (hbw.mono HB.out.size)⟩
          exact HF.out
      · go_wp2
        go_ret2
        exact ⟨_, rfl, by unfold EqAt; simp; omega, HB.out⟩

end Go.Proofs.YtlobnlkpbenngaaP
