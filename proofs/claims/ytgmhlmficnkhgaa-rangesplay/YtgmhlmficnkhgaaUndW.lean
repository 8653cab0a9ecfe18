/- RangesUndo: the walk. -/
import Derived.Test.YtgmhlmficnkhgaaCloW
import Derived.Test.YtgmhlmficnkhgaaWo
import Derived.Deep.RegionHeld
import Derived.Deep.CutRange
namespace Go.Proofs.Ytgmhlmficnkhgaa
open Go.RowKit Go.Shelf Go.Lib
set_option linter.unusedVariables false

/-- Two sets that share nothing. -/
def Apart (S C : Nat) (o oc : Option Addr) : Prop := S ≠ C ∧ o ≠ some ⟨C, 0, none⟩ ∧ oc ≠ some ⟨S, 0, none⟩ ∧ ∀ g, o = some ⟨g, 0, none⟩ → oc ≠ some ⟨g, 0, none⟩

/-- The law's store: the set, its clone, and x's box. -/
structure Pk (K S n C : Nat) (x y : Int) (w1 : World) (o oc : Option Addr) (L L0 : List (Int × Int)) (W : World) : Prop where
  s : My S W S o L
  c : My n W C oc L0
  ap : Apart S C o oc
  bel : Below S w1 W
  box : W.heap[K]? = some (.cells #[.int .i64 x, .int .i64 y] 50 (0, 0))
  k : K < S
  sz : S ≤ W.heap.size
theorem Pk.lt {K S n C : Nat} {x y : Int} {w1 : World} {o oc : Option Addr} {L L0 : List (Int × Int)} {W : World} (h : Pk K S n C x y w1 o oc L L0 W) : K < W.heap.size := (Array.getElem?_eq_some_iff.1 h.box).1
theorem Pk.c0 {K S n C : Nat} {x y : Int} {w1 : World} {o oc : Option Addr} {L L0 : List (Int × Int)} {W : World} (h : Pk K S n C x y w1 o oc L L0 W) : W.cell? ⟨K, 0, none⟩ = some (.int .i64 x) := by simp [World.cell?, h.box]
theorem Pk.c1 {K S n C : Nat} {x y : Int} {w1 : World} {o oc : Option Addr} {L L0 : List (Int × Int)} {W : World} (h : Pk K S n C x y w1 o oc L L0 W) : W.cell? ⟨K, 1, none⟩ = some (.int .i64 y) := by simp [World.cell?, h.box]
theorem Pk.below {K S n C : Nat} {x y : Int} {w1 : World} {o oc : Option Addr} {L L0 : List (Int × Int)} {W W' : World} (h : Pk K S n C x y w1 o oc L L0 W) (hb : Below W.heap.size W W') : Pk K S n C x y w1 o oc L L0 W' :=
  ⟨h.s.below hb, h.c.below hb, h.ap, h.bel.trans (hb.mono h.sz), (hb.block K h.lt).trans h.box, h.k, Nat.le_trans h.sz hb.size⟩
theorem Pk.turn {K S n C : Nat} {x y : Int} {w1 : World} {o oc o' : Option Addr} {L L0 L' : List (Int × Int)} {W W' : World} (h : Pk K S n C x y w1 o oc L L0 W) (ht : Turn S W W' S o o' L') : Pk K S n C x y w1 o' oc L' L0 W' := by
  have hcl := h.c.lt
  refine ⟨ht.1, h.c.chg ht.2.1 ?_ ?_, ?_, ht.below h.s h.bel, ?_, h.k, Nat.le_trans h.sz ht.2.1.2.2.2.1⟩
  · rintro (e | e)
    · exact h.ap.1 e.symm
    · exact h.ap.2.1 e
  · rintro g hg (e | e)
    · subst e; exact h.ap.2.2.1 hg
    · exact h.ap.2.2.2 g e hg
  · rcases ht.2.2 with e | ⟨g, e, hg⟩
    · rw [e]; exact h.ap
    · subst e
      refine ⟨h.ap.1, fun e => ?_, h.ap.2.2.1, fun q e hq => ?_⟩
      · injection e with e; injection e with e; have := hcl.1; omega
      · injection e with e; injection e with e; have := hcl.2 q hq; omega
  · refine (ht.2.1.2.2.2.2 K h.lt ?_).trans h.box
    rintro (e | e)
    · have := h.k; omega
    · have := h.s.2.2.2.2 K e; have := h.k; omega
theorem has_my {n S : Nat} {o : Option Addr} {L : List (Int × Int)} {W : World} (h : My n W S o L) (q : Int) : Calls Try.prog 17 #[.pointer (some ⟨S, 0, none⟩), .int .i64 q] W fun e w' => ∃ b, e = .returned (.bool b) ∧ (b = true ↔ In q L) ∧ Below W.heap.size W w' := by
  obtain ⟨⟨c, h⟩, h2, h3, _⟩ := h
  exact has_c S c o q L W h h2 h3
theorem spans_my {n S : Nat} {o : Option Addr} {L : List (Int × Int)} {W : World} (h : My n W S o L) : Calls Try.prog 18 #[.pointer (some ⟨S, 0, none⟩)] W fun e w' => e = .returned (.int .i64 L.length) ∧ w' = W := by
  obtain ⟨⟨c, h⟩, _⟩ := h
  exact spans_c S c o L W h
theorem gap_my {n S : Nat} {o : Option Addr} {L : List (Int × Int)} {W : World} (h : My n W S o L) (q : Int) : Calls Try.prog 19 #[.pointer (some ⟨S, 0, none⟩), .int .i64 q] W fun e w' => ∃ v, e = .returned (.int .i64 v) ∧ GapV (max q 0) L v ∧ Below W.heap.size W w' := by
  obtain ⟨⟨c, h⟩, h2, h3, _⟩ := h
  exact gap_c S c o q L W h h2 h3
theorem ends_my {n S : Nat} {o : Option Addr} {L : List (Int × Int)} {W : World} (h : My n W S o L) : Calls Try.prog 16 #[.pointer (some ⟨S, 0, none⟩)] W fun e w' => e = .returned (.tuple #[.int .i64 (EndV L).1, .int .i64 (EndV L).2]) ∧ Below W.heap.size W w' := by
  obtain ⟨⟨c, h⟩, h2, h3, _⟩ := h
  exact ends_c S c o L W h h3
set_option maxRecDepth 100000 in
set_option maxHeartbeats 4000000 in
theorem undo_walk (la : Option Addr) (cap : Nat) (l : List (Int × Int)) (x y : Int) (w : World) (hl : Ar w la l) (hsz : l.length ≤ 9223372036854775807) :
    Calls Try.prog 6 #[.slice la l.length cap, .agg #[.int .i64 x, .int .i64 y]] w fun e w' => e = .returned (.bool true) ∧ Below w.heap.size w w' := by
  have HL : Aside (Ar w la l) := hl
  clear hl
  obtain ⟨N, hN⟩ : ∃ N, l.length = N := ⟨_, rfl⟩
  rw [hN] at hsz ⊢
  have hn1 := new_c (w.alloc (.cells #[.int .i64 x, .int .i64 y] 50))
  go_enter Try.func6, Try.ntmps6
  go_wp2_with fail
  refine hn1.mono ?_
  clear hn1
  rintro e w1 ⟨rfl, hw1⟩
  have hb0 : Below w.heap.size w (w.alloc (.cells #[.int .i64 x, .int .i64 y] 50)) := (Below.refl _ w).alloc (Nat.le_refl _) _
  have hb1 : Below w.heap.size w w1 := by rw [hw1]; exact hb0.alloc (by simp) _
  have hk1 : w1.heap[w.heap.size]? = some (.cells #[.int .i64 x, .int .i64 y] 50 (0, 0)) := by
    rw [hw1, Below.heap_alloc _ _ _ (by simp)]; exact World.alloc_heap_new w _
  have hm1 : My (w.heap.size + 1) w1 (w.heap.size + 1) none [] := by
    have := new_my (w.heap.size + 1) (w.alloc (.cells #[.int .i64 x, .int .i64 y] 50)) (by simp)
    rw [← hw1, World.size_alloc] at this
    exact this
  have hz1 : w.heap.size + 1 ≤ w1.heap.size := by have := hm1.lt.1; omega
  rw [World.size_alloc]
  clear hw1 hb0
  generalize hSn : w.heap.size + 1 = S at *
  have ha := add12_my S S none w1 hm1 hz1
  go_wp2_with fail
  refine ha.mono ?_
  clear ha
  rintro e w2 ⟨rfl, o2, ht2⟩
  have hB2 : Below S w1 w2 := ht2.below hm1 (Below.refl S w1)
  have hr := rem12_my S S o2 w2 ht2.1 (Nat.le_trans hz1 hB2.size)
  have hT2 : Aside _ := ht2.1
  have hs2 := spans_my ht2.1
  clear ht2 hm1
  go_wp2_with fail
  refine hs2.mono ?_
  clear hs2
  rintro e w' ⟨rfl, hh⟩
  subst w'
  go_wp2_with fail
  refine hr.mono ?_
  clear hr
  rintro e w3 ⟨rfl, o3, ht3⟩
  have HM3 : Aside (My S w3 S o3 []) := ht3.1
  have HB3 : Aside (Below S w1 w3) := ht3.below hT2.out hB2
  have HB1 : Aside (Below w.heap.size w w1) := hb1
  clear ht3 hT2 hB2 hb1
  go_wp2
  go_loopg [6] N (fun kx s6 wr => ∃ (k : Nat) (o : Option Addr) (L : List (Int × Int)), s6 = .int .i64 k ∧ k ≤ N ∧ N - k ≤ kx ∧ Aside (My S wr S o L) ∧ Aside (Below S w1 wr))
  case atStart => exact ⟨0, o3, [], rfl, Nat.zero_le _, by omega, HM3.out, HB3.out⟩
  case round =>
    obtain ⟨k, o, L, rfl, hk, hg, HM, HB⟩ := hrel
    by_cases hlt : k < N
    · obtain ⟨b, off, rfl, q0, q1⟩ := HL.out k (by omega)
      generalize (l[k]'(by omega)).1 = f at q0
      generalize (l[k]'(by omega)).2 = g at q1
      have lb : b < w.heap.size := World.block_lt_of_cell? _ _ q0
      have r0 := (HB.out.cell (p := ⟨b, off + k * 2, none⟩) (by show b < S; omega)).trans ((HB1.out.cell (p := ⟨b, off + k * 2, none⟩) lb).trans q0)
      have r1 := (HB.out.cell (p := ⟨b, off + k * 2 + 1, none⟩) (by show b < S; omega)).trans ((HB1.out.cell (p := ⟨b, off + k * 2 + 1, none⟩) lb).trans q1)
      have hA := add_my S S o f g L wr.drew HM.out (Nat.le_trans hz1 HB.out.size)
      have HA : Aside _ := hA
      clear hA q0 q1
      go_wp2
      go_region_with (go_at_call 10; refine Calls.mono HA.out ?_; rintro e w4 ⟨r, o4, L4, rfl, ht4, -⟩; have HT4 : Aside _ := ht4; clear ht4)
      all_goals
        go_wp2
        go_roundg (N - (k + 1))
        case measure => omega
        case rel => exact ⟨k + 1, o4, L4, by simp, by omega, Nat.le_refl _, HT4.out.1, Turn.below (w := wr.drew) HM.out HT4.out HB.out.drew⟩
    · obtain rfl : k = N := by omega
      have hkr : wr.heap[w.heap.size]? = some (.cells #[.int .i64 x, .int .i64 y] 50 (0, 0)) := (HB.out.block _ (by omega)).trans hk1
      have ck0 : wr.cell? ⟨w.heap.size, 0, none⟩ = some (.int .i64 x) := by simp [World.cell?, hkr]
      have ck1 : wr.cell? ⟨w.heap.size, 1, none⟩ = some (.int .i64 y) := by simp [World.cell?, hkr]
      have hOk := HM.out.2.1
      have hA := rem_my S S o x y L wr HM.out (Nat.le_trans hz1 HB.out.size)
      clear hk1 HL HM3 HB3
      go_wp2_with fail
      refine hA.mono ?_
      clear hA
      rintro e w3 ⟨r, o3, L3, rfl, ht3, hcase⟩
      have hb3 : Below S w1 w3 := ht3.below HM.out HB.out
      have lK : w.heap.size < wr.heap.size := (Array.getElem?_eq_some_iff.1 hkr).1
      have hk3 : w3.heap[w.heap.size]? = some (.cells #[.int .i64 x, .int .i64 y] 50 (0, 0)) := (ht3.2.1.2.2.2.2 _ lK (by
        rintro (e | e)
        · omega
        · have := HM.out.2.2.2.2 _ e; omega)).trans hkr
      have ck0 : w3.cell? ⟨w.heap.size, 0, none⟩ = some (.int .i64 x) := by simp [World.cell?, hk3]
      have ck1 : w3.cell? ⟨w.heap.size, 1, none⟩ = some (.int .i64 y) := by simp [World.cell?, hk3]
      have hsp := spans_my ht3.1
      have hm3 := ht3.1
      have hz3 : S ≤ w3.heap.size := Nat.le_trans hz1 hb3.size
      clear ht3 HM HB hkr lK
      rcases hcase with ⟨rfl, hf, hin3⟩ | ⟨rfl, hf, rfl⟩ | ⟨rfl, hf, rfl, M, hOM, hMl, hMi⟩
      · obtain ⟨f1, f2, f3⟩ := id hf
        have hcl : Calls Try.prog 14 #[.pointer (some ⟨S, 0, none⟩)] w3 fun e w' => ∃ C oc, e = .returned (.pointer (some ⟨C, 0, none⟩)) ∧ Pk w.heap.size S w3.heap.size C x y w1 o3 oc L3 L3 w' := by
          obtain ⟨⟨c, hSe⟩, hO3, hl3, _⟩ := id hm3
          refine (clone_c S c o3 L3 w3 hSe hl3).mono ?_
          rintro e w' ⟨C, oc, cc, rfl, hC, hb, hCl, hcr⟩
          have hlt := hm3.lt
          refine ⟨C, oc, rfl, hm3.below hb, ⟨⟨cc, hC⟩, hO3, hl3, hCl, hcr⟩, ⟨by omega, fun e => ?_, fun e => ?_, fun g e e' => ?_⟩, hb3.trans (hb.mono hz3), (hb.block _ (Array.getElem?_eq_some_iff.1 hk3).1).trans hk3, by omega, Nat.le_trans hz3 hb.size⟩
          · have := hlt.2 C e; omega
          · have := hcr S e; omega
          · have := hlt.2 g e; have := hcr g e'; omega
        have hO3 := hm3.2.1
        have hno : ∀ n, x ≤ n → n ≤ y → ¬ In n L3 := fun n h1 h2 h => ((hin3 n).1 h).2 ⟨h1, h2⟩
        have HNO : Aside _ := hno
        clear hsp hm3 hk3 hin3 hOk hno
        go_wp2_with fail
        refine hcl.mono ?_
        clear hcl ck0 ck1
        rintro e w4 ⟨C, oc, rfl, hP4⟩
        have HP4 : Aside (Pk w.heap.size S w3.heap.size C x y w1 o3 oc L3 L3 w4.drew) := hP4.below (Below.refl _ _).drew
        have ck0 := hP4.c0
        have ck1 := hP4.c1
        have ck0' : w4.drew.cell? ⟨w.heap.size, 0, none⟩ = some (.int .i64 x) := hP4.c0
        have ck1' : w4.drew.cell? ⟨w.heap.size, 1, none⟩ = some (.int .i64 y) := hP4.c1
        clear hP4
        have hhx : ∀ W q, Pk w.heap.size S w3.heap.size C x y w1 o3 oc L3 L3 W → x ≤ q → q ≤ y → Calls Try.prog 17 #[.pointer (some ⟨S, 0, none⟩), .int .i64 q] W fun e w' => e = .returned (.bool false) ∧ Pk w.heap.size S w3.heap.size C x y w1 o3 oc L3 L3 w' := by
          intro W q h h1 h2
          refine (has_my h.s q).mono ?_
          rintro e w' ⟨b, rfl, hb, hbel⟩
          refine ⟨?_, h.below hbel⟩
          cases b
          · rfl
          · exact absurd (hb.1 rfl) (HNO.out q h1 h2)
        have hgp : ∀ W, Pk w.heap.size S w3.heap.size C x y w1 o3 oc L3 L3 W → Calls Try.prog 19 #[.pointer (some ⟨S, 0, none⟩), .int .i64 x] W fun e w' => e = .returned (.int .i64 x) ∧ Pk w.heap.size S w3.heap.size C x y w1 o3 oc L3 L3 w' := by
          intro W h
          refine (gap_my h.s x).mono ?_
          rintro e w' ⟨v, rfl, ⟨m, hm, hv⟩, hbel⟩
          refine ⟨?_, h.below hbel⟩
          have e0 : max x 0 = x := by omega
          rw [e0] at hm
          rcases hm with ⟨p, hp, h1, h2, _⟩ | ⟨_, rfl⟩
          · exact absurd ⟨p, hp, h1, h2⟩ (HNO.out x (Int.le_refl _) f2)
          · rw [hv, if_neg (by omega)]
        have HHX : Aside _ := hhx
        have HGP : Aside _ := hgp
        clear hhx hgp
        go_wp2
        go_cut [99] from 77 to 98 (fun v wx => v = .bool false ∧ Aside (Pk w.heap.size S w3.heap.size C x y w1 o3 oc L3 L3 wx))
        case first =>
          go_region_held (fun w' => w'.cell? ⟨w.heap.size, 0, none⟩ = some (.int .i64 x) ∧ w'.cell? ⟨w.heap.size, 1, none⟩ = some (.int .i64 y) ∧ Aside (Pk w.heap.size S w3.heap.size C x y w1 o3 oc L3 L3 w')) (first | exact ⟨HP7.out.c0, HP7.out.c1, HP7⟩ | exact ⟨HP6.out.c0, HP6.out.c1, HP6⟩ | exact ⟨HP5.out.c0, HP5.out.c1, HP5⟩ | exact ⟨HP4.out.c0, HP4.out.c1, HP4⟩) (first
            | (go_at_call 19; refine Calls.mono (HGP.out _ HP6.out) ?_; rintro e w7 ⟨rfl, hp⟩; have HP7 : Aside _ := hp; clear hp)
            | (go_at_call 17; have HQ := HP5; refine Calls.mono (HHX.out _ y HQ.out f2 (Int.le_refl _)) ?_; rintro e w6 ⟨rfl, hp⟩; have HP6 : Aside _ := hp; clear hp)
            | (go_at_call 17; have HQ := HP4; refine Calls.mono (HHX.out _ x HQ.out (Int.le_refl _) f2) ?_; rintro e w5 ⟨rfl, hp⟩; have HP5 : Aside _ := hp; clear hp))
          all_goals
            go_wp2_with fail
            go_meet
            exact ⟨rfl, HP7⟩
        case rest =>
        obtain ⟨rfl, HPc⟩ := hcut
        have ck0 := HPc.out.c0
        have ck1 := HPc.out.c1
        clear HP4 ck0' ck1' HHX HGP hf
        have hA := add_my S S o3 x y L3 wc HPc.out.s HPc.out.sz
        go_wp2_with fail
        refine hA.mono ?_
        clear hA
        rintro e w5 ⟨r, o5, L5, rfl, ht5, hcase⟩
        have hP5 := HPc.out.turn ht5
        rcases hcase with ⟨rfl, _, hin5⟩ | ⟨rfl, hnf, _⟩ | ⟨rfl, _, rfl, M, hOM, hMl, hMi⟩
        · have HP5 : Aside _ := hP5
          have hO5 := ht5.1.2.1
          have HB : Aside (∀ M, Ok M → (∀ n, In n M ↔ In n L5 ∧ ¬ (x ≤ n ∧ n ≤ y)) → M = L3) := by
            intro M hM hm
            refine Ok_ext hM hO3 (fun n => ?_)
            rw [hm n, hin5 n]
            constructor
            · rintro ⟨h | h, h2⟩
              · exact h
              · exact absurd h h2
            · intro h
              exact ⟨.inl h, fun h2 => HNO.out n h2.1 h2.2 h⟩
          have hhx : ∀ W q, Pk w.heap.size S w3.heap.size C x y w1 o5 oc L5 L3 W → x ≤ q → q ≤ y → Calls Try.prog 17 #[.pointer (some ⟨S, 0, none⟩), .int .i64 q] W fun e w' => e = .returned (.bool true) ∧ Pk w.heap.size S w3.heap.size C x y w1 o5 oc L5 L3 w' := by
            intro W q h h1 h2
            refine (has_my h.s q).mono ?_
            rintro e w' ⟨b, rfl, hb, hbel⟩
            obtain rfl : b = true := hb.2 ((hin5 q).2 (.inr ⟨h1, h2⟩))
            exact ⟨rfl, h.below hbel⟩
          have hrm : ∀ W, Pk w.heap.size S w3.heap.size C x y w1 o5 oc L5 L3 W → Calls Try.prog 12 #[.pointer (some ⟨S, 0, none⟩), .int .i64 x, .int .i64 y] W fun e w' => e = .returned (.int .i64 0) ∧ ∃ o', Pk w.heap.size S w3.heap.size C x y w1 o' oc L3 L3 w' := by
            intro W h
            refine (rem_my S S o5 x y L5 W h.s h.sz).mono ?_
            rintro e w' ⟨r, o', L', rfl, ht, ⟨rfl, _, hm⟩ | ⟨_, hx, _⟩ | ⟨_, _, _, M, k1, k2, k3⟩⟩
            · obtain rfl := HB.out L' ht.1.2.1 hm
              exact ⟨rfl, o', h.turn ht⟩
            · exact absurd ⟨f1, f2, f3⟩ hx
            · have := HB.out M k1 k3
              subst this
              have := h.c.2.2.1
              omega
          have HHX : Aside _ := hhx
          have HRM : Aside _ := hrm
          have ck0 := hP5.c0
          have ck1 := hP5.c1
          clear hhx hrm hin5 hP5 HPc ht5 hO5 hO3 HNO
          go_wp2_with fail
          refine Calls.mono (HHX.out _ x HP5.out (Int.le_refl _) f2) ?_
          rintro e w6 ⟨rfl, hp⟩
          have HP6 : Aside _ := hp
          have ck0 := hp.c0
          have ck1 := hp.c1
          clear hp HP5
          go_wp2_with fail
          refine Calls.mono (HHX.out _ y HP6.out f2 (Int.le_refl _)) ?_
          rintro e w7 ⟨rfl, hp⟩
          have HP7 : Aside _ := hp
          have ck0 := hp.c0
          have ck1 := hp.c1
          clear hp HP6
          go_wp2_with fail
          refine Calls.mono (HRM.out _ HP7.out) ?_
          rintro e w8 ⟨rfl, o8, hp⟩
          have HP8 : Aside _ := hp
          have hs1 := spans_my hp.s
          have hs2 := spans_my hp.c
          generalize L3.length = n3 at hs1 hs2
          clear hp HP7
          go_wp2_with fail
          refine hs1.mono ?_
          rintro e w' ⟨rfl, hh⟩
          subst w'
          go_wp2_with fail
          refine hs2.mono ?_
          rintro e w' ⟨rfl, hh⟩
          subst w'
          have he := ends_my HP8.out.s
          generalize hE1 : (EndV L3).1 = E1 at he
          generalize hE2 : (EndV L3).2 = E2 at he
          clear hs1 hs2
          go_wp2_with fail
          refine he.mono ?_
          clear he
          rintro e w9 ⟨rfl, hb9⟩
          have HP9 : Aside _ := HP8.out.below hb9
          have he := ends_my HP9.out.c
          rw [hE1, hE2] at he
          clear hb9 HP8
          go_wp2_with fail
          refine he.mono ?_
          clear he
          rintro e w10 ⟨rfl, hb10⟩
          have HP10 : Aside _ := HP9.out.below hb10
          clear hb10 HP9
          go_wp2
          go_ret
          exact ⟨by simp, HB1.out.trans (HP10.out.bel.mono (by omega))⟩
        · exact absurd ⟨f1, f2, f3⟩ hnf
        · have hlen : 65536 ≤ L5.length := by have := add_len f1 f2 f3 hO3 hOM hMi; omega
          have hsp := spans_my hP5.s
          clear hOM hMl hMi
          generalize L5.length = n3 at hsp hlen
          have HBE : Aside _ := hP5.bel
          clear hP5 ht5 HPc
          go_wp2_with fail
          refine hsp.mono ?_
          rintro e w' ⟨rfl, hh⟩
          subst w'
          go_wp2
          go_ret
          exact ⟨by simp; omega, HB1.out.trans (HBE.out.mono (by omega))⟩
      · -- a span that may not be
        by_cases h1 : x < 0
        · go_wp2
          go_ret
          exact ⟨rfl, HB1.out.trans (hb3.mono (by omega))⟩
        · by_cases h2 : 4611686018427387903 < y
          · go_wp2
            go_ret
            exact ⟨rfl, HB1.out.trans (hb3.mono (by omega))⟩
          · have h3 : y < x := by unfold Fit at hf; omega
            go_wp2
            go_ret
            exact ⟨rfl, HB1.out.trans (hb3.mono (by omega))⟩
      · -- too many
        have hlen : 65536 ≤ L3.length := by have := rem_len hf.2.1 hOk hOM hMi; omega
        obtain ⟨f1, f2, f3⟩ := hf
        clear hOM hMl hMi
        generalize L3.length = n3 at hsp hlen
        go_wp2_with fail
        refine hsp.mono ?_
        rintro e w' ⟨rfl, hh⟩
        subst w'
        go_wp2
        go_ret
        exact ⟨by simp; omega, HB1.out.trans (hb3.mono (by omega))⟩
end Go.Proofs.Ytgmhlmficnkhgaa
