/- EcnHonest: the walk. -/
import Derived.Test.YthfloemckhbljaaHl
namespace Go.Proofs.Ythfloemckhbljaa
open Go.RowKit
set_option linter.unusedVariables false

theorem tm3 (n : Int) : n.tmod 3 = 0 ∨ n.tmod 3 = 1 ∨ n.tmod 3 = -1 ∨ n.tmod 3 = 2 ∨ n.tmod 3 = -2 := by
  by_cases h : 0 ≤ n
  · rw [Int.tmod_eq_emod_of_nonneg h]; omega
  · have e : n = -(-n) := by omega
    rw [e, Int.neg_tmod, Int.tmod_eq_emod_of_nonneg (by omega)]; omega
theorem hv_ok {st S L c0 c2 : Int} (h : Hi st S L c0 c2) : (hv st S L c0 c2).ok := by
  obtain ⟨l, a, c, s, n, t⟩ := h
  unfold hv
  constructor <;> simp only <;> omega
theorem Hs.new {w W : World} (h : Below w.heap.size w W) {s : Nat} (hs : s < W.heap.size) (hs0 : w.heap.size ≤ s) (hr : Rt 43 W s ev0) : Hs w s W.heap.size 0 0 ev0 (W.alloc (.cells #[.int .i64 0, .int .i64 0, .int .i64 0] 28)) :=
  ⟨hr.below (bel1 _ _), ev0_ok, heap_alloc_new _ _, by omega, hs0, h.size, h.trans ((bel1 _ _).mono h.size)⟩

set_option maxRecDepth 100000 in
set_option maxHeartbeats 2000000 in
theorem honest_walk (la : Option Addr) (n c : Nat) (Z : Nat → Int) (w : World) (hZ : ∀ i, i < n → ∃ ad, la = some ad ∧ w.cell? (ad.add i) = some (.int .i64 (Z i))) (hn : n ≤ 20000000000000) :
    Calls Try.prog 5 #[.slice la n c] w fun e w' => e = .returned (.bool true) ∧ Below w.heap.size w w' := by
  have HZ : Aside (∀ i, i < n → ∃ ad, la = some ad ∧ w.cell? (ad.add i) = some (.int .i64 (Z i))) := hZ
  clear hZ
  have hnew := new_c w
  go_enter Try.func5, Try.ntmps5
  go_wp2_with fail
  refine hnew.mono ?_
  rintro e w1 ⟨rfl, hr1, hb1⟩
  have h1 := state_c _ _ _ hr1 ev0_ok
  have HH : Aside (Hs w w.heap.size w1.heap.size 0 0 ev0 (w1.alloc (.cells #[.int .i64 0, .int .i64 0, .int .i64 0] 28))) := Hs.new hb1 hr1.lt (Nat.le_refl _) hr1
  rw [show ev0.s = 1 from rfl] at h1
  clear hnew hr1 hb1
  generalize hs : w.heap.size = s at *
  have h1' : Calls Try.prog 9 #[.pointer (some ⟨s, 0, none⟩)] w1 fun e w' => e = .returned (.int .i64 1) ∧ w' = w1 := h1
  go_wp2_with fail
  refine h1.mono ?_
  rintro e w2 ⟨rfl, hw2⟩
  subst w2
  clear h1 h1'
  obtain ⟨W0, hW0⟩ : ∃ W0, w1.alloc (.cells #[.int .i64 0, .int .i64 0, .int .i64 0] 28) = W0 := ⟨_, rfl⟩
  rw [hW0] at HH
  generalize hA : w1.heap.size = A at *
  go_wp2
  go_loopg [5, 6, 7] (n + 1) (fun kx s5 s6 s7 wr => ∃ (i : Nat) (st S L c0 c2 : Int), s5 = .int .i64 S ∧ s6 = .int .i64 L ∧ s7 = .int .i64 (i : Int) ∧ i ≤ n ∧ S ≤ (i : Int) ∧ n + 1 - i ≤ kx ∧ Aside (Hi st S L c0 c2) ∧ Aside (Hs w s A c0 c2 (hv st S L c0 c2) wr))
  case atStart => exact ⟨0, 1, 0, 0, 0, 0, rfl, rfl, rfl, by omega, by omega, by omega, ⟨by omega, by omega, by omega, by omega, by omega, .inr (.inl ⟨rfl, by omega, by omega⟩)⟩, HH.out⟩
  case round =>
    obtain ⟨i, st, S, L, c0, c2, rfl, rfl, rfl, hi, hSi, hk, HI, HQ⟩ := hrel
    clear HH hW0 hA W0
    have h1 := HQ.out.state
    dsimp only [hv] at h1
    by_cases hlt : i < n
    rotate_left
    · obtain rfl : i = n := by omega
      by_cases k4 : st = 4
      · subst k4
        obtain ⟨b1, b2, b3⟩ := HI.out.bad
        have h2 := HQ.out.acked 0 c0 1 c2 true
        rw [b1] at h2
        dsimp only at h2
        obtain ⟨x0, x1, x2, x3, x4⟩ := HQ.out.cells
        have HN : Aside ((Ev.mk 3 S L (c0 + c2 + 0 + 0) c0 0 c2).n < 4611686018427387904) := by have := HI.out.n; show S < _; omega
        have HA2 : Aside (∀ X, Hs w s A c0 c2 ⟨3, S, L, c0 + c2 + 0, c0, 0, c2⟩ X → Calls Try.prog 15 #[.pointer (some ⟨s, 0, none⟩), .int .i64 0, .agg #[.int .i64 c0, .int .i64 0, .int .i64 (c2 + 1)], .bool true] X fun e w' => e = .returned (.tuple #[.bool false, .int .i64 0]) ∧ Hs w s A c0 c2 ⟨3, S, L, c0 + c2 + 0 + 0, c0, 0, c2⟩ w') := fun X h => by
          have := h.acked 0 c0 0 (c2 + 1) true
          rwa [b2] at this
        have i1 : IntKind.i64.wrap (c2 + 1) = c2 + 1 := wrp _ (by have := HI.out.c; omega) (by have := HI.out.n; have := HI.out.s; have := HI.out.a; have := HI.out.l; omega)
        clear b1 b2 HQ hSi hi hk
        go_wp2_with fail
        refine h1.mono ?_
        rintro e w2 ⟨rfl, hw2⟩
        subst w2
        clear h1
        go_wp2_with fail
        refine h2.mono ?_
        rintro e w2 ⟨rfl, h3⟩
        have h4 := HA2.out _ h3
        clear x0 x1 x2 x3 x4
        obtain ⟨x0, x1, x2, x3, x4⟩ := h3.cells
        clear h2 h3 HA2
        go_wp2_with fail
        refine h4.mono ?_
        rintro e w3 ⟨rfl, h5⟩
        have h6 := h5.state
        have h7 := h5.sent HN.out
        rw [b3] at h7
        dsimp only at h6 h7
        clear h4 h5 b3 x0 x1 x2 x3 x4
        go_wp2_with fail
        refine h6.mono ?_
        rintro e w4 ⟨rfl, hw4⟩
        subst w4
        go_wp2_with fail
        refine h7.mono ?_
        rintro e w4 ⟨rfl, h8⟩
        have HB : Aside (Below w.heap.size w w4) := h8.b
        clear h6 h7 h8
        go_wp2
        go_ret
        exact ⟨rfl, HB.out⟩
      · have HB : Aside (Below w.heap.size w wr) := HQ.out.b
        go_wp2_with fail
        refine h1.mono ?_
        rintro e w2 ⟨rfl, hw2⟩
        subst w2
        clear h1
        go_wp2
        go_ret
        exact ⟨rfl, HB.out⟩
    · have d1 : (i : Int) < (n : Int) := by omega
      have n7 : IntKind.i64.wrap ((i : Int) + 1) = (i : Int) + 1 := wrp _ (by omega) (by omega)
      have n2 : (st == 2) = false := by have := HI.out.t; simp; omega
      by_cases k3 : st = 3
      · subst k3
        have hSL : S = L := by have := HI.out.t; have := HI.out.s; omega
        have hS : S = 10 := by have := HI.out.t; omega
        subst hSL
        subst hS
        have h2 := HQ.out.sent (by show (10 : Int) < _; omega)
        rw [show (hv 3 10 10 c0 c2).snt = (false, hv 3 10 10 c0 c2) by simp [Ev.snt, hv]] at h2
        dsimp only at h2
        go_wp2_with fail
        refine h1.mono ?_
        rintro e w2 ⟨rfl, hw2⟩
        subst w2
        clear h1
        go_wp2_with fail
        refine h2.mono ?_
        rintro e w2 ⟨rfl, h3⟩
        have h4 := h3.state
        have HB : Aside (Below w.heap.size w w2) := h3.b
        dsimp only [hv] at h4
        clear h2 h3
        go_wp2_with fail
        refine h4.mono ?_
        rintro e w3 ⟨rfl, hw3⟩
        subst w3
        clear h4
        go_wp2
        go_ret
        exact ⟨rfl, HB.out⟩
      · obtain ⟨st', hsn, ht⟩ := HI.out.snt k3
        have h2 := HQ.out.sent (by show S < _; omega)
        rw [hsn] at h2
        dsimp only at h2
        have n3 : (st == 3) = false := by simpa using k3
        have n8 : IntKind.i64.wrap (S + 1) = S + 1 := wrp _ (by have := HI.out.s; have := HI.out.l; have := HI.out.a; have := HI.out.c; omega) (by omega)
        have n9 : IntKind.i64.wrap (L + 1) = L + 1 := wrp _ (by have := HI.out.l; omega) (by have := HI.out.s; have := HI.out.a; have := HI.out.c; omega)
        have n10 : IntKind.i64.wrap (c0 + 1) = c0 + 1 := wrp _ (by have := HI.out.a; omega) (by have := HI.out.s; have := HI.out.l; have := HI.out.c; omega)
        have n11 : IntKind.i64.wrap (c2 + 1) = c2 + 1 := wrp _ (by have := HI.out.c; omega) (by have := HI.out.s; have := HI.out.l; have := HI.out.a; omega)
        obtain ⟨ad, hla, hcz⟩ := HZ.out i hlt
        subst hla
        have HCZ : Aside (∀ X, Below w.heap.size w X → X.cell? (ad.add i) = some (.int .i64 (Z i))) := fun X hb => (hb.cell (World.block_lt_of_cell? _ _ hcz)).trans hcz
        have HT : Aside ((st' = 4 ∧ 0 < c0 + c2) ∨ (st' = 1 ∧ c0 + c2 = 0 ∧ S + 1 < 10) ∨ (st' = 2 ∧ c0 + c2 = 0 ∧ S + 1 = 10)) := ht
        have hz := tm3 (Z i)
        generalize Z i = z at *
        clear hsn ht hcz k3 HQ
        go_wp2_with fail
        refine h1.mono ?_
        rintro e w2 ⟨rfl, hw2⟩
        subst w2
        clear h1
        go_wp2_with fail
        refine h2.mono ?_
        rintro e w2 ⟨rfl, h3⟩
        have HQ2 : Aside (Hs w s A c0 c2 (hv st' (S + 1) L c0 c2) w2) := h3
        have cz := HCZ.out w2 h3.b
        clear h2 h3 HCZ n2 n3
        rcases hz with z0 | z0 | z0 | z0 | z0
        · obtain ⟨st2, hl2, hi2⟩ := HI.out.lst HT.out (by omega)
          have h4 := HQ2.out.lost 1
          rw [hl2] at h4
          dsimp only at h4
          have HI2 : Aside (Hi st2 (S + 1) (L + 1) c0 c2) := hi2
          clear hl2 hi2 HQ2 HI HT
          go_wp2_with fail
          refine h4.mono ?_
          rintro e w3 ⟨rfl, h5⟩
          have HQ3 : Aside (Hs w s A c0 c2 (hv st2 (S + 1) (L + 1) c0 c2) w3) := h5
          clear h4 h5 cz
          go_wp2
          go_roundg (n + 1 - (i + 1))
          case measure => omega
          case rel => exact ⟨i + 1, st2, S + 1, L + 1, c0, c2, rfl, rfl, rfl, by omega, by omega, Nat.le_refl _, HI2.out, HQ3.out⟩
        · obtain ⟨hak, hi2⟩ := HI.out.ack0 HT.out (by omega)
          have HA4 : Aside (∀ X, Hs w s A (c0 + 1) c2 (hv st' (S + 1) L c0 c2) X → Calls Try.prog 15 #[.pointer (some ⟨s, 0, none⟩), .int .i64 1, .agg #[.int .i64 (c0 + 1), .int .i64 0, .int .i64 (c2)], .bool true] X fun e w' => e = .returned (.tuple #[.bool false, .int .i64 0]) ∧ Hs w s A (c0 + 1) c2 (hv 4 (S + 1) L (c0 + 1) c2) w') := fun X h => by
            have := h.acked 1 (c0 + 1) 0 (c2) true
            rwa [hak] at this
          have HI2 : Aside (Hi 4 (S + 1) L (c0 + 1) c2) := hi2
          obtain ⟨x0, x1, x2, x3, x4⟩ := HQ2.out.cells
          obtain ⟨W3, hW3⟩ : ∃ W3, w2.setCell ⟨A, 0, none⟩ (.int .i64 (c0 + 1)) = W3 := ⟨_, rfl⟩
          have HQ3 : Aside (Hs w s A (c0 + 1) c2 (hv st' (S + 1) L c0 c2) W3) := by rw [← hW3]; exact HQ2.out.setA 0 (c0 + 1) (c0 + 1) c2 rfl
          obtain ⟨y0, y1, y2, -, -⟩ := HQ3.out.cells
          have h4 := HA4.out _ HQ3.out
          clear hak hi2 HQ2 HI HT HA4
          go_wp2_with fail
          refine h4.mono ?_
          rintro e w4 ⟨rfl, h5⟩
          have HQ4 : Aside (Hs w s A (c0 + 1) c2 (hv 4 (S + 1) L (c0 + 1) c2) w4) := h5
          have h6 := h5.state
          dsimp only [hv] at h6
          clear h4 h5 cz x0 x1 x2 x3 x4 y0 y1 y2 hW3 HQ3
          go_wp2_with fail
          refine h6.mono ?_
          rintro e w5 ⟨rfl, hw5⟩
          subst w5
          clear h6
          go_wp2
          go_roundg (n + 1 - (i + 1))
          case measure => omega
          case rel => exact ⟨i + 1, 4, S + 1, L, c0 + 1, c2, rfl, rfl, rfl, by omega, by omega, Nat.le_refl _, HI2.out, HQ4.out⟩
        · obtain ⟨hak, hi2⟩ := HI.out.ack0 HT.out (by omega)
          have HA4 : Aside (∀ X, Hs w s A (c0 + 1) c2 (hv st' (S + 1) L c0 c2) X → Calls Try.prog 15 #[.pointer (some ⟨s, 0, none⟩), .int .i64 1, .agg #[.int .i64 (c0 + 1), .int .i64 0, .int .i64 (c2)], .bool true] X fun e w' => e = .returned (.tuple #[.bool false, .int .i64 0]) ∧ Hs w s A (c0 + 1) c2 (hv 4 (S + 1) L (c0 + 1) c2) w') := fun X h => by
            have := h.acked 1 (c0 + 1) 0 (c2) true
            rwa [hak] at this
          have HI2 : Aside (Hi 4 (S + 1) L (c0 + 1) c2) := hi2
          obtain ⟨x0, x1, x2, x3, x4⟩ := HQ2.out.cells
          obtain ⟨W3, hW3⟩ : ∃ W3, w2.setCell ⟨A, 0, none⟩ (.int .i64 (c0 + 1)) = W3 := ⟨_, rfl⟩
          have HQ3 : Aside (Hs w s A (c0 + 1) c2 (hv st' (S + 1) L c0 c2) W3) := by rw [← hW3]; exact HQ2.out.setA 0 (c0 + 1) (c0 + 1) c2 rfl
          obtain ⟨y0, y1, y2, -, -⟩ := HQ3.out.cells
          have h4 := HA4.out _ HQ3.out
          clear hak hi2 HQ2 HI HT HA4
          go_wp2_with fail
          refine h4.mono ?_
          rintro e w4 ⟨rfl, h5⟩
          have HQ4 : Aside (Hs w s A (c0 + 1) c2 (hv 4 (S + 1) L (c0 + 1) c2) w4) := h5
          have h6 := h5.state
          dsimp only [hv] at h6
          clear h4 h5 cz x0 x1 x2 x3 x4 y0 y1 y2 hW3 HQ3
          go_wp2_with fail
          refine h6.mono ?_
          rintro e w5 ⟨rfl, hw5⟩
          subst w5
          clear h6
          go_wp2
          go_roundg (n + 1 - (i + 1))
          case measure => omega
          case rel => exact ⟨i + 1, 4, S + 1, L, c0 + 1, c2, rfl, rfl, rfl, by omega, by omega, Nat.le_refl _, HI2.out, HQ4.out⟩
        · obtain ⟨hak, hi2⟩ := HI.out.ack2 HT.out (by omega)
          have HA4 : Aside (∀ X, Hs w s A c0 (c2 + 1) (hv st' (S + 1) L c0 c2) X → Calls Try.prog 15 #[.pointer (some ⟨s, 0, none⟩), .int .i64 1, .agg #[.int .i64 (c0), .int .i64 0, .int .i64 (c2 + 1)], .bool true] X fun e w' => e = .returned (.tuple #[.bool true, .int .i64 0]) ∧ Hs w s A c0 (c2 + 1) (hv 4 (S + 1) L c0 (c2 + 1)) w') := fun X h => by
            have := h.acked 1 (c0) 0 (c2 + 1) true
            rwa [hak] at this
          have HI2 : Aside (Hi 4 (S + 1) L c0 (c2 + 1)) := hi2
          obtain ⟨x0, x1, x2, x3, x4⟩ := HQ2.out.cells
          obtain ⟨W3, hW3⟩ : ∃ W3, w2.setCell ⟨A, 2, none⟩ (.int .i64 (c2 + 1)) = W3 := ⟨_, rfl⟩
          have HQ3 : Aside (Hs w s A c0 (c2 + 1) (hv st' (S + 1) L c0 c2) W3) := by rw [← hW3]; exact HQ2.out.setA 2 (c2 + 1) c0 (c2 + 1) rfl
          obtain ⟨y0, y1, y2, -, -⟩ := HQ3.out.cells
          have h4 := HA4.out _ HQ3.out
          clear hak hi2 HQ2 HI HT HA4
          go_wp2_with fail
          refine h4.mono ?_
          rintro e w4 ⟨rfl, h5⟩
          have HQ4 : Aside (Hs w s A c0 (c2 + 1) (hv 4 (S + 1) L c0 (c2 + 1)) w4) := h5
          have h6 := h5.state
          dsimp only [hv] at h6
          clear h4 h5 cz x0 x1 x2 x3 x4 y0 y1 y2 hW3 HQ3
          go_wp2_with fail
          refine h6.mono ?_
          rintro e w5 ⟨rfl, hw5⟩
          subst w5
          clear h6
          go_wp2
          go_roundg (n + 1 - (i + 1))
          case measure => omega
          case rel => exact ⟨i + 1, 4, S + 1, L, c0, c2 + 1, rfl, rfl, rfl, by omega, by omega, Nat.le_refl _, HI2.out, HQ4.out⟩
        · obtain ⟨hak, hi2⟩ := HI.out.ack2 HT.out (by omega)
          have HA4 : Aside (∀ X, Hs w s A c0 (c2 + 1) (hv st' (S + 1) L c0 c2) X → Calls Try.prog 15 #[.pointer (some ⟨s, 0, none⟩), .int .i64 1, .agg #[.int .i64 (c0), .int .i64 0, .int .i64 (c2 + 1)], .bool true] X fun e w' => e = .returned (.tuple #[.bool true, .int .i64 0]) ∧ Hs w s A c0 (c2 + 1) (hv 4 (S + 1) L c0 (c2 + 1)) w') := fun X h => by
            have := h.acked 1 (c0) 0 (c2 + 1) true
            rwa [hak] at this
          have HI2 : Aside (Hi 4 (S + 1) L c0 (c2 + 1)) := hi2
          obtain ⟨x0, x1, x2, x3, x4⟩ := HQ2.out.cells
          obtain ⟨W3, hW3⟩ : ∃ W3, w2.setCell ⟨A, 2, none⟩ (.int .i64 (c2 + 1)) = W3 := ⟨_, rfl⟩
          have HQ3 : Aside (Hs w s A c0 (c2 + 1) (hv st' (S + 1) L c0 c2) W3) := by rw [← hW3]; exact HQ2.out.setA 2 (c2 + 1) c0 (c2 + 1) rfl
          obtain ⟨y0, y1, y2, -, -⟩ := HQ3.out.cells
          have h4 := HA4.out _ HQ3.out
          clear hak hi2 HQ2 HI HT HA4
          go_wp2_with fail
          refine h4.mono ?_
          rintro e w4 ⟨rfl, h5⟩
          have HQ4 : Aside (Hs w s A c0 (c2 + 1) (hv 4 (S + 1) L c0 (c2 + 1)) w4) := h5
          have h6 := h5.state
          dsimp only [hv] at h6
          clear h4 h5 cz x0 x1 x2 x3 x4 y0 y1 y2 hW3 HQ3
          go_wp2_with fail
          refine h6.mono ?_
          rintro e w5 ⟨rfl, hw5⟩
          subst w5
          clear h6
          go_wp2
          go_roundg (n + 1 - (i + 1))
          case measure => omega
          case rel => exact ⟨i + 1, 4, S + 1, L, c0, c2 + 1, rfl, rfl, rfl, by omega, by omega, Nat.le_refl _, HI2.out, HQ4.out⟩
end Go.Proofs.Ythfloemckhbljaa
