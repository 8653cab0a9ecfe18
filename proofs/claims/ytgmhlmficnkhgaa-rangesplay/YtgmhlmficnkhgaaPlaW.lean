/- RangesPlay: the walk. -/
import Derived.Test.YtgmhlmficnkhgaaPla
namespace Go.Proofs.Ytgmhlmficnkhgaa
open Go.RowKit Go.Shelf Go.Lib
set_option linter.unusedVariables false

theorem Pl.rebox {n₀ : Nat} {w : World} {K K' : Nat → Array Value → Prop} {S r : Nat} {o oR : Option Addr} {cR : Nat} {Ls Lr : List (Int × Int)} {W : World} (h : Pl n₀ w K S r o oR cR Ls Lr W) (hk : ∀ A X, K' A X → W.heap[A]? = some (.cells X 31 (0, 0))) : Pl n₀ w K' S r o oR cR Ls Lr W :=
  ⟨h.s, h.rh, h.rm, h.rn, h.sep, h.bel, h.sz, hk⟩
theorem Pl.stands {n₀ : Nat} {w : World} {K : Nat → Array Value → Prop} {S r : Nat} {o oR : Option Addr} {cR : Nat} {L : List (Int × Int)} {W : World} (h : Pl n₀ w K S r o oR cR L L W) (q : Int) :
    Calls Try.prog 15 #[.pointer (some ⟨S, 0, none⟩), .pointer (some ⟨r, 0, none⟩), .int .i64 q] W fun e w' => e = .returned (.bool true) ∧ Pl n₀ w K S r o oR cR L L w' :=
  (stands_c n₀ S r (Kd W oR) o q L W h.s h.rf).mono (by rintro e w' ⟨rfl, hb⟩; exact ⟨rfl, h.below hb⟩)

set_option maxRecDepth 100000 in
set_option maxHeartbeats 4000000 in
theorem play_walk (la : Option Addr) (cap : Nat) (l : List (Int × Int × Int × Int)) (w : World) (hl : Ac w la l) (hsz : l.length ≤ 9223372036854775807) :
    Calls Try.prog 3 #[.slice la l.length cap] w fun e w' => e = .returned (.bool true) ∧ Below w.heap.size w w' := by
  have HL : Aside (Ac w la l) := hl
  clear hl
  obtain ⟨N, hN⟩ : ∃ N, l.length = N := ⟨_, rfl⟩
  rw [hN] at hsz ⊢
  have hn1 := new_c w
  go_enter Try.func3, Try.ntmps3
  go_wp2_with fail
  refine hn1.mono ?_
  clear hn1
  rintro e w1 ⟨rfl, hw1⟩
  have HW1 : Aside (w1 = _) := hw1
  clear hw1
  obtain ⟨w2, hw2⟩ : ∃ w2, w1.alloc (.cells #[.slice none 0 0] 28) = w2 := ⟨_, rfl⟩
  have HP0 : Aside (Pl w.heap.size w (fun _ _ => False) w.heap.size (w.heap.size + 1) none none 0 [] [] w2) := by
    have hz1 : w1.heap.size = w.heap.size + 1 := by rw [HW1.out]; simp
    have a1 : My w.heap.size w1 w.heap.size none [] := by
      have := new_my w.heap.size w (Nat.le_refl _)
      rw [← HW1.out] at this
      exact this
    have hb2 : Below w1.heap.size w1 w2 := by rw [← hw2]; exact (Below.refl _ w1).alloc (Nat.le_refl _) _
    have hrh : w2.heap[w.heap.size + 1]? = some (.cells #[.slice none 0 0] 28 (0, 0)) := by
      rw [← hw2, ← hz1]; exact World.alloc_heap_new w1 _
    have hbw : Below w.heap.size w w2 := by
      have : Below w.heap.size w w1 := by rw [HW1.out]; exact (Below.refl _ w).alloc (Nat.le_refl _) _
      exact this.trans (hb2.mono (by omega))
    exact ⟨a1.below hb2, hrh, Mk_nil _ _, by omega, (fun g e => nomatch e), hbw, hbw.size, (fun A X h => h.elim)⟩
  have HZ1 : Aside (w1.heap.size = w.heap.size + 1) := by show _ = _; rw [HW1.out]; simp
  go_wp2_with fail
  rw [HZ1.out]
  refine (names_c w2).mono ?_
  rintro e w' ⟨rfl, hh⟩
  subst w'
  clear hw2 HW1 HZ1
  go_wp2
  go_loopg [3, 5] N (fun kx s3 s5 wr => ∃ (k S : Nat) (o oR : Option Addr) (cR : Nat) (L : List (Int × Int)), s5 = .int .i64 k ∧ s3 = .pointer (some ⟨S, 0, none⟩) ∧ k ≤ N ∧ N - k ≤ kx ∧ Aside (Pl w.heap.size w (fun _ _ => False) S (w.heap.size + 1) o oR cR L L wr))
  case atStart => exact ⟨0, w.heap.size, none, none, 0, [], rfl, rfl, Nat.zero_le _, by omega, HP0.out⟩
  case round =>
    obtain ⟨k, S, o, oR, cR, L, rfl, rfl, hk, hg, HP⟩ := hrel
    clear HP0
    by_cases hlt : k < N
    · obtain ⟨b, off, hla, q0, q1, q2, q3⟩ := HL.out k (by omega)
      subst hla
      generalize (l[k]'(by omega)) = act at q0 q1 q2 q3
      obtain ⟨kd, x, y, q⟩ := act
      dsimp only at q0 q1 q2 q3
      have lb : b < w.heap.size := World.block_lt_of_cell? _ _ q0
      have r0 := (HP.out.bel.cell (p := ⟨b, off + k * 4, none⟩) lb).trans q0
      have r1 := (HP.out.bel.cell (p := ⟨b, off + k * 4 + 1, none⟩) lb).trans q1
      have r2 := (HP.out.bel.cell (p := ⟨b, off + k * 4 + 2, none⟩) lb).trans q2
      have r3 := (HP.out.bel.cell (p := ⟨b, off + k * 4 + 3, none⟩) lb).trans q3
      have i1 : (k : Int) < (N : Int) := by omega
      clear q0 q1 q2 q3
      have hpx : Pl w.heap.size w (fun A X => A = wr.heap.size ∧ X = #[.int .i64 kd, .int .i64 x, .int .i64 y, .int .i64 q]) S (w.heap.size + 1) o oR cR L L (wr.alloc (.cells #[.int .i64 kd, .int .i64 x, .int .i64 y, .int .i64 q] 31)) := by
        refine Pl.rebox (HP.out.below ((Below.refl _ _).alloc (Nat.le_refl _) _)) ?_
        rintro A X ⟨rfl, rfl⟩
        exact World.alloc_heap_new wr _
      have HPX : Aside _ := hpx
      clear hpx
      by_cases h0 : kd = 0
      · subst h0
        go_wp2_with fail
        generalize wr.alloc (.cells #[.int .i64 0, .int .i64 x, .int .i64 y, .int .i64 q] 31) = wx at HPX ⊢
        generalize wr.heap.size = A at HPX ⊢
        have HC : Aside (∀ S' o' oR' cR' Ls Lr X, Pl w.heap.size w (fun A' X => A' = A ∧ X = #[.int .i64 0, .int .i64 x, .int .i64 y, .int .i64 q]) S' (w.heap.size + 1) o' oR' cR' Ls Lr X → X.cell? ⟨A, 1, none⟩ = some (.int .i64 x) ∧ X.cell? ⟨A, 2, none⟩ = some (.int .i64 y) ∧ X.cell? ⟨A, 3, none⟩ = some (.int .i64 q)) := by
          intro S' o' oR' cR' Ls Lr X h
          have hb := h.kb A _ ⟨rfl, rfl⟩
          simp [World.cell?, hb]
        have HPd := show Aside _ from Pl.below HPX.out (W' := wx.drew) (Below.refl _ _).drew
        go_region_held3 (fun w' => w'.cell? ⟨A, 1, none⟩ = some (.int .i64 x) ∧ w'.cell? ⟨A, 2, none⟩ = some (.int .i64 y)) (first | exact ⟨(HC.out _ _ _ _ _ _ _ HP5.out).1, (HC.out _ _ _ _ _ _ _ HP5.out).2.1⟩ | exact ⟨(HC.out _ _ _ _ _ _ _ HP4.out).1, (HC.out _ _ _ _ _ _ _ HP4.out).2.1⟩ | exact ⟨(HC.out _ _ _ _ _ _ _ HPd.out).1, (HC.out _ _ _ _ _ _ _ HPd.out).2.1⟩) (first
          | (go_at_call 11; refine Calls.mono HR2.out ?_; rintro e w5 ⟨rfl, oR5, cR5, hp⟩; have HP5 : Aside _ := hp; clear hp)
          | (go_at_call 10; refine Calls.mono (both_add HPd.out x y) ?_; rintro e w4 ⟨q4, o4, L4, rfl, hp, hr⟩; have HP4 : Aside _ := hp; have HR2 : Aside _ := hr; clear hp hr))
        have a3 := (HC.out _ _ _ _ _ _ _ HP5.out).2.2
        have a2 := (HC.out _ _ _ _ _ _ _ HP5.out).2.1
        have st1 := Pl.stands HP5.out q
        go_wp2_with fail
        refine st1.mono ?_
        clear st1 a2 a3
        rintro e w7 ⟨rfl, hp7⟩
        have HP7 : Aside _ := hp7
        have a2 := (HC.out _ _ _ _ _ _ _ HP7.out).2.1
        have st2 := Pl.stands HP7.out y
        clear hp7
        go_wp2_with fail
        refine st2.mono ?_
        clear st2 a2
        rintro e w8 ⟨rfl, hp8⟩
        have HP8 : Aside _ := hp8
        clear hp8 HP7
        go_wp2
        go_roundg (N - (k + 1))
        case measure => omega
        case rel => exact ⟨k + 1, S, o4, oR5, cR5, L4, by simp, rfl, by omega, Nat.le_refl _, Pl.rebox HP8.out (fun A X h => h.elim)⟩
      · by_cases h1 : kd = 1
        · subst h1
          go_wp2_with fail
          generalize wr.alloc (.cells #[.int .i64 1, .int .i64 x, .int .i64 y, .int .i64 q] 31) = wx at HPX ⊢
          generalize wr.heap.size = A at HPX ⊢
          have HC : Aside (∀ S' o' oR' cR' Ls Lr X, Pl w.heap.size w (fun A' X => A' = A ∧ X = #[.int .i64 1, .int .i64 x, .int .i64 y, .int .i64 q]) S' (w.heap.size + 1) o' oR' cR' Ls Lr X → X.cell? ⟨A, 1, none⟩ = some (.int .i64 x) ∧ X.cell? ⟨A, 2, none⟩ = some (.int .i64 y) ∧ X.cell? ⟨A, 3, none⟩ = some (.int .i64 q)) := by
            intro S' o' oR' cR' Ls Lr X h
            have hb := h.kb A _ ⟨rfl, rfl⟩
            simp [World.cell?, hb]
          have HPd := show Aside _ from Pl.below HPX.out (W' := wx.drew) (Below.refl _ _).drew
          go_region_held3 (fun w' => w'.cell? ⟨A, 1, none⟩ = some (.int .i64 x) ∧ w'.cell? ⟨A, 2, none⟩ = some (.int .i64 y)) (first | exact ⟨(HC.out _ _ _ _ _ _ _ HP5.out).1, (HC.out _ _ _ _ _ _ _ HP5.out).2.1⟩ | exact ⟨(HC.out _ _ _ _ _ _ _ HP4.out).1, (HC.out _ _ _ _ _ _ _ HP4.out).2.1⟩ | exact ⟨(HC.out _ _ _ _ _ _ _ HPd.out).1, (HC.out _ _ _ _ _ _ _ HPd.out).2.1⟩) (first
            | (go_at_call 13; refine Calls.mono HR2.out ?_; rintro e w5 ⟨rfl, oR5, cR5, hp⟩; have HP5 : Aside _ := hp; clear hp)
            | (go_at_call 12; refine Calls.mono (both_rem HPd.out x y) ?_; rintro e w4 ⟨q4, o4, L4, rfl, hp, hr⟩; have HP4 : Aside _ := hp; have HR2 : Aside _ := hr; clear hp hr))
          have a3 := (HC.out _ _ _ _ _ _ _ HP5.out).2.2
          have a2 := (HC.out _ _ _ _ _ _ _ HP5.out).2.1
          have st1 := Pl.stands HP5.out q
          go_wp2_with fail
          refine st1.mono ?_
          clear st1 a2 a3
          rintro e w7 ⟨rfl, hp7⟩
          have HP7 : Aside _ := hp7
          have a2 := (HC.out _ _ _ _ _ _ _ HP7.out).2.1
          have st2 := Pl.stands HP7.out y
          clear hp7
          go_wp2_with fail
          refine st2.mono ?_
          clear st2 a2
          rintro e w8 ⟨rfl, hp8⟩
          have HP8 : Aside _ := hp8
          clear hp8 HP7
          go_wp2
          go_roundg (N - (k + 1))
          case measure => omega
          case rel => exact ⟨k + 1, S, o4, oR5, cR5, L4, by simp, rfl, by omega, Nat.le_refl _, Pl.rebox HP8.out (fun A X h => h.elim)⟩
        · by_cases h2 : kd = 2
          · subst h2
            go_wp2_with fail
            generalize wr.alloc (.cells #[.int .i64 2, .int .i64 x, .int .i64 y, .int .i64 q] 31) = wx at HPX ⊢
            generalize wr.heap.size = A at HPX ⊢
            have HC : Aside (∀ S' o' oR' cR' Ls Lr X, Pl w.heap.size w (fun A' X => A' = A ∧ X = #[.int .i64 2, .int .i64 x, .int .i64 y, .int .i64 q]) S' (w.heap.size + 1) o' oR' cR' Ls Lr X → X.cell? ⟨A, 1, none⟩ = some (.int .i64 x) ∧ X.cell? ⟨A, 2, none⟩ = some (.int .i64 y) ∧ X.cell? ⟨A, 3, none⟩ = some (.int .i64 q)) := by
              intro S' o' oR' cR' Ls Lr X h
              have hb := h.kb A _ ⟨rfl, rfl⟩
              simp [World.cell?, hb]
            have hcl := both_clone HPX.out x y
            refine hcl.mono ?_
            clear hcl
            rintro e w3 ⟨C, oc, rfl, hp3, hc3⟩
            have b1 := (HC.out _ _ _ _ _ _ _ hp3).1
            have b2 := (HC.out _ _ _ _ _ _ _ hp3).2.1
            clear hp3
            go_wp2_with fail
            refine hc3.mono ?_
            clear hc3 b1 b2
            rintro e w5 ⟨q5, rfl, hp5⟩
            have HP5 : Aside _ := hp5
            clear hp5
            have a3 := (HC.out _ _ _ _ _ _ _ HP5.out).2.2
            have a2 := (HC.out _ _ _ _ _ _ _ HP5.out).2.1
            have st1 := Pl.stands HP5.out q
            go_wp2_with fail
            refine st1.mono ?_
            clear st1 a2 a3
            rintro e w7 ⟨rfl, hp7⟩
            have HP7 : Aside _ := hp7
            have a2 := (HC.out _ _ _ _ _ _ _ HP7.out).2.1
            have st2 := Pl.stands HP7.out y
            clear hp7
            go_wp2_with fail
            refine st2.mono ?_
            clear st2 a2
            rintro e w8 ⟨rfl, hp8⟩
            have HP8 : Aside _ := hp8
            clear hp8 HP7
            go_wp2
            go_roundg (N - (k + 1))
            case measure => omega
            case rel => exact ⟨k + 1, C, oc, oR, cR, L, by simp, rfl, by omega, Nat.le_refl _, Pl.rebox HP8.out (fun A X h => h.elim)⟩
          · have d0 : (kd == 0) = false := by simp [h0]
            have d1 : (kd == 1) = false := by simp [h1]
            have d2 : (kd == 2) = false := by simp [h2]
            go_wp2_with fail
            generalize wr.alloc (.cells #[.int .i64 kd, .int .i64 x, .int .i64 y, .int .i64 q] 31) = wx at HPX ⊢
            generalize wr.heap.size = A at HPX ⊢
            have HC : Aside (∀ S' o' oR' cR' Ls Lr X, Pl w.heap.size w (fun A' X => A' = A ∧ X = #[.int .i64 kd, .int .i64 x, .int .i64 y, .int .i64 q]) S' (w.heap.size + 1) o' oR' cR' Ls Lr X → X.cell? ⟨A, 1, none⟩ = some (.int .i64 x) ∧ X.cell? ⟨A, 2, none⟩ = some (.int .i64 y) ∧ X.cell? ⟨A, 3, none⟩ = some (.int .i64 q)) := by
              intro S' o' oR' cR' Ls Lr X h
              have hb := h.kb A _ ⟨rfl, rfl⟩
              simp [World.cell?, hb]
            have a3 := (HC.out _ _ _ _ _ _ _ HPX.out).2.2
            have a2 := (HC.out _ _ _ _ _ _ _ HPX.out).2.1
            have st1 := Pl.stands HPX.out q
            go_wp2_with fail
            refine st1.mono ?_
            clear st1 a2 a3
            rintro e w7 ⟨rfl, hp7⟩
            have HP7 : Aside _ := hp7
            have a2 := (HC.out _ _ _ _ _ _ _ HP7.out).2.1
            have st2 := Pl.stands HP7.out y
            clear hp7
            go_wp2_with fail
            refine st2.mono ?_
            clear st2 a2
            rintro e w8 ⟨rfl, hp8⟩
            have HP8 : Aside _ := hp8
            clear hp8 HP7
            go_wp2
            go_roundg (N - (k + 1))
            case measure => omega
            case rel => exact ⟨k + 1, S, o, oR, cR, L, by simp, rfl, by omega, Nat.le_refl _, Pl.rebox HP8.out (fun A X h => h.elim)⟩
    · obtain rfl : k = N := by omega
      have st := Pl.stands HP.out 0
      go_wp2_with fail
      refine st.mono ?_
      rintro e w' ⟨rfl, hp⟩
      have HB : Aside (Below w.heap.size w w') := hp.bel
      clear hp st
      go_wp2
      go_ret
      exact ⟨rfl, HB.out⟩
end Go.Proofs.Ytgmhlmficnkhgaa
