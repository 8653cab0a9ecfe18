/- RangesClone: the walk. -/
import Derived.Test.YtgmhlmficnkhgaaSet
import Derived.Deep.RegionWith
namespace Go.Proofs.Ytgmhlmficnkhgaa
open Go.RowKit Go.Shelf Go.Lib
set_option linter.unusedVariables false

/-- Spans that came in. -/
def Ar (w : World) (la : Option Addr) (l : List (Int × Int)) : Prop := ∀ i (h : i < l.length), ∃ b off, la = some ⟨b, off, none⟩ ∧ w.cell? ⟨b, off + i * 2, none⟩ = some (.int .i64 l[i].1) ∧ w.cell? ⟨b, off + i * 2 + 1, none⟩ = some (.int .i64 l[i].2)

set_option maxRecDepth 100000 in
set_option maxHeartbeats 4000000 in
theorem clone_walk (la : Option Addr) (cap : Nat) (l : List (Int × Int)) (x y : Int) (w : World) (hl : Ar w la l) (hsz : l.length ≤ 9223372036854775807) :
    Calls Try.prog 7 #[.slice la l.length cap, .agg #[.int .i64 x, .int .i64 y]] w fun e w' => e = .returned (.bool true) ∧ Below w.heap.size w w' := by
  have HL : Aside (Ar w la l) := hl
  clear hl
  obtain ⟨N, hN⟩ : ∃ N, l.length = N := ⟨_, rfl⟩
  rw [hN] at hsz ⊢
  have hn1 := new_c (w.alloc (.cells #[.int .i64 x, .int .i64 y] 50))
  go_enter Try.func7, Try.ntmps7
  go_wp2_with fail
  refine hn1.mono ?_
  clear hn1
  rintro e w1 ⟨rfl, hw1⟩
  have hb0 : Below w.heap.size w (w.alloc (.cells #[.int .i64 x, .int .i64 y] 50)) := (Below.refl _ w).alloc (Nat.le_refl _) _
  have hb1 : Below w.heap.size w w1 := by rw [hw1]; exact hb0.alloc (by simp) _
  have hk1 : w1.heap[w.heap.size]? = some (.cells #[.int .i64 x, .int .i64 y] 50 (0, 0)) := by
    rw [hw1, Below.heap_alloc _ _ _ (by simp)]; exact World.alloc_heap_new w _
  have hm1 : My (w.heap.size + 1) w1 (w.heap.size + 1) none [] := by
    have := new_my (w.heap.size + 1) (w.alloc (.cells #[.int .i64 x, .int .i64 y] 50)) (by simp)
    rw [← hw1, World.size_alloc] at this
    exact this
  have hz1 : w.heap.size + 1 ≤ w1.heap.size := by have := hm1.lt.1; omega
  rw [World.size_alloc]
  clear hw1 hb0
  generalize hSn : w.heap.size + 1 = S at *
  have ha := add12_my S S none w1 hm1 hz1
  go_wp2_with fail
  refine ha.mono ?_
  clear ha
  rintro e w2 ⟨rfl, o2, ht2⟩
  have hB2 : Below S w1 w2 := ht2.below hm1 (Below.refl S w1)
  have hr := rem12_my S S o2 w2 ht2.1 (Nat.le_trans hz1 hB2.size)
  have hT2 : Aside _ := ht2.1
  clear ht2 hm1
  go_wp2_with fail
  refine hr.mono ?_
  clear hr
  rintro e w3 ⟨rfl, o3, ht3⟩
  have HM3 : Aside (My S w3 S o3 []) := ht3.1
  have HB3 : Aside (Below S w1 w3) := ht3.below hT2.out hB2
  have HB1 : Aside (Below w.heap.size w w1) := hb1
  clear ht3 hT2 hB2 hb1
  go_wp2
  go_loopg [6] N (fun kx s6 wr => ∃ (k : Nat) (o : Option Addr) (L : List (Int × Int)), s6 = .int .i64 k ∧ k ≤ N ∧ N - k ≤ kx ∧ Aside (My S wr S o L) ∧ Aside (Below S w1 wr))
  case atStart => exact ⟨0, o3, [], rfl, Nat.zero_le _, by omega, HM3.out, HB3.out⟩
  case round =>
    obtain ⟨k, o, L, rfl, hk, hg, HM, HB⟩ := hrel
    by_cases hlt : k < N
    · obtain ⟨b, off, rfl, q0, q1⟩ := HL.out k (by omega)
      generalize (l[k]'(by omega)).1 = f at q0
      generalize (l[k]'(by omega)).2 = g at q1
      have lb : b < w.heap.size := World.block_lt_of_cell? _ _ q0
      have r0 := (HB.out.cell (p := ⟨b, off + k * 2, none⟩) (by show b < S; omega)).trans ((HB1.out.cell (p := ⟨b, off + k * 2, none⟩) lb).trans q0)
      have r1 := (HB.out.cell (p := ⟨b, off + k * 2 + 1, none⟩) (by show b < S; omega)).trans ((HB1.out.cell (p := ⟨b, off + k * 2 + 1, none⟩) lb).trans q1)
      have hA := add_my S S o f g L wr.drew HM.out (Nat.le_trans hz1 HB.out.size)
      have HA : Aside _ := hA
      clear hA q0 q1
      go_wp2
      go_region_with (go_at_call 10; refine Calls.mono HA.out ?_; rintro e w4 ⟨r, o4, L4, rfl, ht4, -⟩; have HT4 : Aside _ := ht4; clear ht4)
      all_goals
        go_wp2
        go_roundg (N - (k + 1))
        case measure => omega
        case rel => exact ⟨k + 1, o4, L4, by simp, by omega, Nat.le_refl _, HT4.out.1, Turn.below (w := wr.drew) HM.out HT4.out HB.out.drew⟩
    · obtain rfl : k = N := by omega
      obtain ⟨⟨c, hSe⟩, hO, hlen, hSS, hrw⟩ := id HM.out
      have hcl := clone_c S c o L wr hSe hlen
      have hkr : wr.heap[w.heap.size]? = some (.cells #[.int .i64 x, .int .i64 y] 50 (0, 0)) := (HB.out.block _ (by omega)).trans hk1
      have lK : w.heap.size < wr.heap.size := (Array.getElem?_eq_some_iff.1 hkr).1
      have lS := HM.out.lt
      clear hk1 HL
      go_wp2_with fail
      refine hcl.mono ?_
      clear hcl
      rintro e w4 ⟨C, oc, cc, rfl, hC4, hb4, hCl, hcr⟩
      have hM4 : My S w4 S o L := HM.out.below hb4
      have hMC4 : My wr.heap.size w4 C oc L := ⟨⟨cc, hC4⟩, hO, hlen, hCl, hcr⟩
      have hs4 : Below S w1 w4 := HB.out.trans (hb4.mono (by have := lS.1; omega))
      have hk4 : w4.heap[w.heap.size]? = some (.cells #[.int .i64 x, .int .i64 y] 50 (0, 0)) := (hb4.block _ lK).trans hkr
      have z4 : wr.heap.size ≤ w4.heap.size := hb4.size
      clear hSe hb4 hkr hC4
      generalize hLn : L.length = n at hlen
      have hsp : ∀ W, My S W S o L → Calls Try.prog 18 #[.pointer (some ⟨S, 0, none⟩)] W fun e w' => e = .returned (.int .i64 n) ∧ w' = W := by
        rintro W ⟨⟨c, h⟩, _⟩
        have := spans_c S c o L W h
        rwa [hLn] at this
      have hspC : ∀ W, My wr.heap.size W C oc L → Calls Try.prog 18 #[.pointer (some ⟨C, 0, none⟩)] W fun e w' => e = .returned (.int .i64 n) ∧ w' = W := by
        rintro W ⟨⟨c, h⟩, _⟩
        have := spans_c C c oc L W h
        rwa [hLn] at this
      go_wp2_with fail
      refine (hsp w4 hM4).mono ?_
      rintro e w' ⟨rfl, hh⟩
      subst w'
      go_wp2_with fail
      refine (hspC w4 hMC4).mono ?_
      rintro e w' ⟨rfl, hh⟩
      subst w'
      have ck0 : w4.cell? ⟨w.heap.size, 0, none⟩ = some (.int .i64 x) := by simp [World.cell?, hk4]
      have ck1 : w4.cell? ⟨w.heap.size, 1, none⟩ = some (.int .i64 y) := by simp [World.cell?, hk4]
      have hhas : ∀ W, My S W S o L → Calls Try.prog 17 #[.pointer (some ⟨S, 0, none⟩), .int .i64 x] W fun e w' => ∃ b, e = .returned (.bool b) ∧ (b = true ↔ In x L) ∧ Below W.heap.size W w' := by
        rintro W ⟨⟨c, h⟩, h2, h3, _⟩
        exact has_c S c o x L W h h2 h3
      go_wp2_with fail
      refine (hhas w4 hM4).mono ?_
      rintro e w5 ⟨b, rfl, hb, hb5⟩
      have hM5 := hM4.below hb5
      have hMC5 := hMC4.below hb5
      have hk5 := (hb5.block w.heap.size (by omega)).trans hk4
      have hs5 : Below S w1 w5 := hs4.trans (hb5.mono (by have := lS.1; omega))
      have ck0 : w5.cell? ⟨w.heap.size, 0, none⟩ = some (.int .i64 x) := by simp [World.cell?, hk5]
      have ck1 : w5.cell? ⟨w.heap.size, 1, none⟩ = some (.int .i64 y) := by simp [World.cell?, hk5]
      have z5 : wr.heap.size ≤ w5.heap.size := Nat.le_trans z4 hb5.size
      have hA := add_my wr.heap.size C oc x y L w5 hMC5 z5
      clear hM4 hMC4 hb5 hk4 hs4
      go_wp2_with fail
      refine hA.mono ?_
      clear hA
      rintro e w6 ⟨r, o6, L6, rfl, ht6, hcase⟩
      have hM6 : My S w6 S o L := hM5.chg ht6.2.1 (by
        rintro (e | e)
        · have := lS.1; omega
        · have := hcr S e; have := lS.1; omega) (fun g hg => by
        rintro (e | e)
        · have := lS.2 g hg; omega
        · have := lS.2 g hg; have := hcr g e; omega)
      have hMC6 := ht6.1
      have hs6 : Below S w1 w6 := hs5.trans ((ht6.below hMC5 (Below.refl wr.heap.size w5)).mono (by have := lS.1; omega))
      have hk6 : w6.heap[w.heap.size]? = some (.cells #[.int .i64 x, .int .i64 y] 50 (0, 0)) := ((ht6.below hMC5 (Below.refl wr.heap.size w5)).block _ lK).trans hk5
      have z6 : wr.heap.size ≤ w6.heap.size := Nat.le_trans z5 ht6.2.1.2.2.2.1
      have hin : r = 0 → In x L6 := by
        rintro rfl
        rcases hcase with ⟨_, hf, hm⟩ | ⟨h, _⟩ | ⟨h, _⟩
        · exact (hm x).2 (.inr ⟨Int.le_refl _, hf.2.1⟩)
        · omega
        · omega
      have hO6 : o6 = oc ∨ ∃ g, o6 = some ⟨g, 0, none⟩ ∧ w5.heap.size ≤ g := ht6.2.2
      have hr6 : ∀ g, o6 = some ⟨g, 0, none⟩ → wr.heap.size ≤ g := hMC6.2.2.2.2
      clear hcase ht6 hM5 hMC5 hk5 hs5 hO6
      have HIN : Aside _ := hin
      clear hin
      go_wp2_with fail
      refine (hsp w6 hM6).mono ?_
      rintro e w' ⟨rfl, hh⟩
      subst w'
      have ck0 : w6.cell? ⟨w.heap.size, 0, none⟩ = some (.int .i64 x) := by simp [World.cell?, hk6]
      go_wp2_with fail
      refine (hhas w6 hM6).mono ?_
      rintro e w7 ⟨b', rfl, hb', hb7⟩
      obtain rfl : b' = b := by
        have : b' = true ↔ b = true := hb'.trans hb.symm
        cases b <;> cases b' <;> simp_all
      have hM7 := hM6.below hb7
      have hMC7 := hMC6.below hb7
      have hk7 := (hb7.block w.heap.size (by omega)).trans hk6
      have hs7 : Below S w1 w7 := hs6.trans (hb7.mono (by have := lS.1; omega))
      have ck0 : w7.cell? ⟨w.heap.size, 0, none⟩ = some (.int .i64 x) := by simp [World.cell?, hk7]
      have z7 : wr.heap.size ≤ w7.heap.size := Nat.le_trans z6 hb7.size
      clear hM6 hMC6 hk6 hs6 hb7
      by_cases hr0 : r = 0
      · subst hr0
        have hhC : Calls Try.prog 17 #[.pointer (some ⟨C, 0, none⟩), .int .i64 x] w7 fun e w' => ∃ b, e = .returned (.bool b) ∧ (b = true ↔ In x L6) ∧ Below w7.heap.size w7 w' := by
          obtain ⟨⟨c, h⟩, h2, h3, _⟩ := hMC7
          exact has_c C c o6 x L6 w7 h h2 h3
        go_wp2_with fail
        refine hhC.mono ?_
        clear hhC
        rintro e w8 ⟨b8, rfl, hb8, hbw⟩
        obtain rfl : b8 = true := hb8.2 (HIN.out (by simp))
        have hMW := hM7.below hbw
        have hMCW := hMC7.below hbw
        have hsW : Below S w1 w8 := hs7.trans (hbw.mono (by have := lS.1; omega))
        clear hM7 hMC7 hs7 hbw hk7
        -- k := o.Spans(); s.Remove(0, api.MaxVar)
        have hspC8 : ∀ W, My wr.heap.size W C o6 L6 → Calls Try.prog 18 #[.pointer (some ⟨C, 0, none⟩)] W fun e w' => e = .returned (.int .i64 L6.length) ∧ w' = W := by
          rintro W ⟨⟨c, h⟩, _⟩
          exact spans_c C c o6 L6 W h
        generalize L6.length = n6 at hspC8
        have hrm := remall_my S S o L w8 hMW (Nat.le_trans hz1 hsW.size)
        go_wp2_with fail
        refine (hspC8 w8 hMCW).mono ?_
        rintro e w' ⟨rfl, hh⟩
        subst w'
        go_wp2_with fail
        refine hrm.mono ?_
        clear hrm
        rintro e w9 ⟨rfl, o9, ht9⟩
        have hM9 := ht9.1
        have hMC9 : My wr.heap.size w9 C o6 L6 := hMCW.chg ht9.2.1 (by
          rintro (e | e)
          · have := lS.1; omega
          · have := lS.2 C e; omega) (fun g hg => by
          rintro (e | e)
          · have := lS.1; have := hr6 g hg; omega
          · have := lS.2 g e; have := hr6 g hg; omega)
        have hs9 : Below S w1 w9 := ht9.below hMW hsW
        have hsp9 : Calls Try.prog 18 #[.pointer (some ⟨S, 0, none⟩)] w9 fun e w' => e = .returned (.int .i64 (([] : List (Int × Int)).length : Nat)) ∧ w' = w9 := by
          obtain ⟨⟨c, h⟩, _⟩ := hM9
          exact spans_c S c o9 [] w9 h
        clear ht9 hM9 hMW hsW
        go_wp2_with fail
        refine hsp9.mono ?_
        clear hsp9
        rintro e w' ⟨rfl, hh⟩
        subst w'
        go_wp2_with fail
        refine (hspC8 w9 hMC9).mono ?_
        rintro e w' ⟨rfl, hh⟩
        subst w'
        go_wp2
        go_ret
        exact ⟨by simp, HB1.out.trans (hs9.mono (by omega))⟩
      · have hMW := hM7
        have hMCW := hMC7
        have hsW := hs7
        clear hM7 hMC7 hs7 hk7
        -- k := o.Spans(); s.Remove(0, api.MaxVar)
        have hspC8 : ∀ W, My wr.heap.size W C o6 L6 → Calls Try.prog 18 #[.pointer (some ⟨C, 0, none⟩)] W fun e w' => e = .returned (.int .i64 L6.length) ∧ w' = W := by
          rintro W ⟨⟨c, h⟩, _⟩
          exact spans_c C c o6 L6 W h
        generalize L6.length = n6 at hspC8
        have hrm := remall_my S S o L w7 hMW (Nat.le_trans hz1 hsW.size)
        go_wp2_with fail
        refine (hspC8 w7 hMCW).mono ?_
        rintro e w' ⟨rfl, hh⟩
        subst w'
        go_wp2_with fail
        refine hrm.mono ?_
        clear hrm
        rintro e w9 ⟨rfl, o9, ht9⟩
        have hM9 := ht9.1
        have hMC9 : My wr.heap.size w9 C o6 L6 := hMCW.chg ht9.2.1 (by
          rintro (e | e)
          · have := lS.1; omega
          · have := lS.2 C e; omega) (fun g hg => by
          rintro (e | e)
          · have := lS.1; have := hr6 g hg; omega
          · have := lS.2 g e; have := hr6 g hg; omega)
        have hs9 : Below S w1 w9 := ht9.below hMW hsW
        have hsp9 : Calls Try.prog 18 #[.pointer (some ⟨S, 0, none⟩)] w9 fun e w' => e = .returned (.int .i64 (([] : List (Int × Int)).length : Nat)) ∧ w' = w9 := by
          obtain ⟨⟨c, h⟩, _⟩ := hM9
          exact spans_c S c o9 [] w9 h
        clear ht9 hM9 hMW hsW
        go_wp2_with fail
        refine hsp9.mono ?_
        clear hsp9
        rintro e w' ⟨rfl, hh⟩
        subst w'
        go_wp2_with fail
        refine (hspC8 w9 hMC9).mono ?_
        rintro e w' ⟨rfl, hh⟩
        subst w'
        go_wp2
        go_ret
        exact ⟨by simp, HB1.out.trans (hs9.mono (by omega))⟩

end Go.Proofs.Ytgmhlmficnkhgaa
