/- The reference of layer 5: Add and Remove. -/
import Derived.Test.YtgmhlmficnkhgaaRef2
namespace Go.Proofs.Ytgmhlmficnkhgaa
open Go.RowKit Go.Shelf Go.Lib
set_option linter.unusedVariables false

/-- A row of spans in a block of the kind P. -/
def MkP (P : Nat → Prop) (W : World) (o : Option Addr) (c : Nat) (L : List (Int × Int)) : Prop := Rs W o c L ∧ c ≤ maxLen ∧ ∀ g, o = some ⟨g, 0, none⟩ → P g
theorem MkP.below {P : Nat → Prop} {W W' : World} {o : Option Addr} {c : Nat} {L : List (Int × Int)} (h : MkP P W o c L) (hb : Below W.heap.size W W') : MkP P W' o c L := ⟨h.1.below hb (Nat.le_refl _), h.2⟩
/-- The reference's set as it lies: its head in block r, a row of the spans L in a block of the kind P. -/
def Rf (P : Nat → Prop) (W : World) (r : Nat) (L : List (Int × Int)) : Prop := ∃ o c, W.heap[r]? = some (.cells #[.slice o L.length c] 28 (0, 0)) ∧ MkP P W o c L
theorem Rf.lt {B : Nat → Prop} {W : World} {r : Nat} {L : List (Int × Int)} (h : Rf B W r L) : r < W.heap.size := by
  obtain ⟨o, c, h, _⟩ := h
  exact (Array.getElem?_eq_some_iff.1 h).1
theorem Rf.below {B : Nat → Prop} {W W' : World} {r : Nat} {L : List (Int × Int)} (h : Rf B W r L) (hb : Below W.heap.size W W') : Rf B W' r L := by
  have hl := h.lt
  obtain ⟨o, c, h, hm⟩ := h
  exact ⟨o, c, (hb.block r hl).trans h, hm.below hb⟩
theorem rwrong_no (f l : Int) (W : World) (h : Fit f l) : Calls Try.prog 24 #[.int .i64 f, .int .i64 l] W fun e w' => e = .returned (.bool false) ∧ w' = W := by
  obtain ⟨h1, h2, h3⟩ := h
  have a1 : ¬ f < 0 := by omega
  have a2 : ¬ (4611686018427387903 : Int) < l := by omega
  have a3 : ¬ l < f := by omega
  go_enter Try.func24, Try.ntmps24
  go_wp2
  go_ret
  exact ⟨by simp, rfl⟩
theorem rwrong_yes (f l : Int) (W : World) (h : ¬ Fit f l) : Calls Try.prog 24 #[.int .i64 f, .int .i64 l] W fun e w' => e = .returned (.bool true) ∧ w' = W := by
  by_cases h1 : f < 0
  · go_enter Try.func24, Try.ntmps24
    go_wp2
    go_ret
    exact ⟨rfl, rfl⟩
  · by_cases h2 : 4611686018427387903 < l
    · go_enter Try.func24, Try.ntmps24
      go_wp2
      go_ret
      exact ⟨rfl, rfl⟩
    · have h3 : l < f := by unfold Fit at h; omega
      go_enter Try.func24, Try.ntmps24
      go_wp2
      go_ret
      exact ⟨by simp, rfl⟩
/-- What a store into the head leaves. -/
theorem rf_set {B : Nat → Prop} {W : World} {r : Nat} {L L' : List (Int × Int)} {o0 o : Option Addr} {c0 c : Nat} (h : W.heap[r]? = some (.cells #[.slice o0 L.length c0] 28 (0, 0))) (hm : MkP B W o c L') (n : Nat) (hn : n = L'.length) :
    W.cell? ⟨r, 0, none⟩ = some (.slice o0 L.length c0) ∧ W.frozen? ⟨r, 0, none⟩ = false ∧ Rf B (W.setCell ⟨r, 0, none⟩ (.slice o n c)) r L' ∧ Chg (fun k => k = r) W (W.setCell ⟨r, 0, none⟩ (.slice o n c)) := by
  subst hn
  refine ⟨by simp [World.cell?, h], by simp [World.frozen?, h], ?_, ?_⟩
  · rw [setCell_eq_setRow W r 0 _ 28 (0, 0) _ h]
    refine ⟨o, c, by rw [setRow_heap W r _ _ 28 (0, 0) h]; simp, ?_, hm.2⟩
    rcases hm.1 with h' | ⟨g, R, h1, hA, hR⟩
    · exact .inl h'
    · refine .inr ⟨g, R, h1, At.other hA _ ?_, hR⟩
      rintro rfl
      have := h.symm.trans hA
      simp at this
  · rw [setCell_eq_setRow W r 0 _ 28 (0, 0) _ h]
    exact (Chg.refl _ W).set r _ (.inl rfl)

set_option maxRecDepth 100000 in
set_option maxHeartbeats 2000000 in
theorem rrem_c (B : Nat → Prop) (r : Nat) (f l : Int) (L : List (Int × Int)) (W : World) (h : Rf B W r L) (hB : ∀ g, W.heap.size ≤ g → B g) (hn : L.length ≤ 65536) (hO : Ok L) :
    Calls Try.prog 13 #[.pointer (some ⟨r, 0, none⟩), .int .i64 f, .int .i64 l] W fun e w' => ∃ q L', e = .returned (.int .i64 q) ∧ Rf B w' r L' ∧ Chg (fun k => k = r) W w' ∧
      ((q = 2 ∧ ¬ Fit f l ∧ L' = L) ∨ (q = 3 ∧ Fit f l ∧ 65536 < (wo f l L).length ∧ L' = L) ∨ (q = 0 ∧ Fit f l ∧ (wo f l L).length ≤ 65536 ∧ L' = wo f l L)) := by
  have hlt := h.lt
  obtain ⟨o0, c0, hh, hm⟩ := id h
  have HH : Aside (Rf B W r L) := h
  have HM : Aside (MkP B W o0 c0 L) := hm
  have HHH : Aside _ := hh
  have c1 : W.cell? ⟨r, 0, none⟩ = some (.slice o0 L.length c0) := by simp [World.cell?, hh]
  clear h hm hh
  by_cases hf : Fit f l
  · have hw := rwrong_no f l W hf
    have hwo := without_c o0 c0 f l L W HM.out.1 hn hO hf
    generalize hLn : L.length = N at c1 hwo
    go_enter Try.func13, Try.ntmps13
    go_wp2_with fail
    refine hw.mono ?_
    clear hw
    rintro e w' ⟨rfl, hh⟩
    subst w'
    go_wp2_with fail
    refine hwo.mono ?_
    clear hwo
    rintro e w1 ⟨o, c, rfl, hM1, hB1⟩
    have hh1 := (hB1.block r hlt).trans HHH.out
    have HR1 : Aside (Rf B w1 r L) := Rf.below HH.out hB1
    have HS : Aside _ := rf_set (B := B) hh1 (⟨hM1.1, hM1.2.1, fun g e => hB g (hM1.2.2 g e)⟩ : MkP B w1 o c (wo f l L)) (wo f l L).length rfl
    have s1 := HS.out.1
    have s2 := HS.out.2.1
    have HB1 : Aside _ := hB1
    clear hM1 hh1 hB1 c1
    generalize hWn : (wo f l L).length = M at *
    rw [hLn] at s1
    by_cases hbig : 65536 < M
    · have b1 : (65536 : Int) < (M : Int) := by omega
      go_wp2
      go_ret
      exact ⟨3, L, rfl, HR1.out, Chg.below HB1.out, .inr (.inl ⟨rfl, hf, by omega, rfl⟩)⟩
    · have b1 : ¬ (65536 : Int) < (M : Int) := by omega
      go_wp2
      go_ret
      exact ⟨0, _, rfl, HS.out.2.2.1, (Chg.below HB1.out).trans HS.out.2.2.2, .inr (.inr ⟨rfl, hf, by omega, rfl⟩)⟩
  · have hw := rwrong_yes f l W hf
    go_enter Try.func13, Try.ntmps13
    go_wp2_with fail
    refine hw.mono ?_
    clear hw
    rintro e w' ⟨rfl, hh⟩
    subst w'
    go_wp2
    go_ret
    exact ⟨2, L, rfl, HH.out, Chg.refl _ _, .inl ⟨rfl, hf, rfl⟩⟩
/-- The list that Add's loop has made behind k spans. -/
def JJ (A B : List (Int × Int)) (f l : Int) (k : Nat) : List (Int × Int) := if k ≤ A.length then (A ++ B).take k else A ++ [(f, l)] ++ B.take (k - A.length)
theorem JJ_zero (A B : List (Int × Int)) (f l : Int) : JJ A B f l 0 = [] := by simp [JJ]
theorem JJ_lt {A B : List (Int × Int)} {f l : Int} {k : Nat} (h : k < A.length) (hk : k < (A ++ B).length) : JJ A B f l (k + 1) = JJ A B f l k ++ [(A ++ B)[k]] := by
  unfold JJ
  rw [if_pos (by omega), if_pos (by omega), List.take_succ_eq_append_getElem hk]
theorem JJ_eq {A B : List (Int × Int)} {f l : Int} {k : Nat} (h : k = A.length) (hk : k < (A ++ B).length) : JJ A B f l (k + 1) = (JJ A B f l k ++ [(f, l)]) ++ [(A ++ B)[k]] := by
  subst h
  unfold JJ
  rw [if_neg (by omega), if_pos (by omega)]
  have hb : 0 < B.length := by simp at hk; omega
  rw [show A.length + 1 - A.length = 0 + 1 by omega, List.take_succ_eq_append_getElem hb]
  simp
theorem JJ_gt {A B : List (Int × Int)} {f l : Int} {k : Nat} (h : A.length < k) (hk : k < (A ++ B).length) : JJ A B f l (k + 1) = JJ A B f l k ++ [(A ++ B)[k]] := by
  unfold JJ
  have hb : k - A.length < B.length := by simp at hk; omega
  rw [if_neg (by omega), if_neg (by omega), show k + 1 - A.length = (k - A.length) + 1 by omega, List.take_succ_eq_append_getElem hb, List.getElem_append_right (by omega)]
  simp
theorem JJ_len (A B : List (Int × Int)) (f l : Int) (k : Nat) : (JJ A B f l k).length ≤ k + 1 := by
  unfold JJ
  split
  · rw [List.length_take]; omega
  · simp only [List.length_append, List.length_singleton, List.length_take]; omega

set_option maxRecDepth 100000 in
set_option maxHeartbeats 2000000 in
theorem radd_c (B0 : Nat → Prop) (r : Nat) (f l : Int) (L : List (Int × Int)) (W : World) (h : Rf B0 W r L) (hB : ∀ g, W.heap.size ≤ g → B0 g) (hn : L.length ≤ 65536) (hO : Ok L) :
    Calls Try.prog 11 #[.pointer (some ⟨r, 0, none⟩), .int .i64 f, .int .i64 l] W fun e w' => ∃ q L', e = .returned (.int .i64 q) ∧ Rf B0 w' r L' ∧ Chg (fun k => k = r) W w' ∧
      ((q = 2 ∧ ¬ Fit f l ∧ L' = L) ∨ ∃ M, Fit f l ∧ Ok M ∧ (∀ n, In n M ↔ In n L ∨ (f ≤ n ∧ n ≤ l)) ∧ ((q = 3 ∧ 65536 < M.length ∧ L' = L) ∨ (q = 0 ∧ M.length ≤ 65536 ∧ L' = M))) := by
  have hlt := h.lt
  obtain ⟨o0, c0, hh, hm⟩ := id h
  have HH : Aside (Rf B0 W r L) := h
  have HM : Aside (MkP B0 W o0 c0 L) := hm
  have HHH : Aside _ := hh
  have c1 : W.cell? ⟨r, 0, none⟩ = some (.slice o0 L.length c0) := by simp [World.cell?, hh]
  clear h hm hh
  by_cases hf : Fit f l
  · have hw := rwrong_no f l W hf
    have hwo := without_c o0 c0 f l L W HM.out.1 hn hO hf
    have hR := wo_ok (f := f) (l := l) hf.2.1 hO
    have hRl := wo_len (f := f) (l := l) hO
    obtain ⟨A, B, hAB, hA, hBB⟩ := ins_parts hR hf.2.1 (fun n h1 h2 h => ((wo_in f l L n).1 h).2 ⟨h1, h2⟩)
    have HIN : Aside (∀ n, In n (A ++ B) ↔ In n L ∧ ¬ (f ≤ n ∧ n ≤ l)) := by rw [← hAB]; exact wo_in f l L
    rw [hAB] at hwo hR hRl
    obtain ⟨N, hN⟩ : ∃ N, (A ++ B).length = N := ⟨_, rfl⟩
    rw [hN] at hwo hRl
    have hNb : N ≤ 65537 := by omega
    have HIO : Aside _ := ins_ok hR hf.1 hf.2.1 hf.2.2 hA hBB
    have HROK : Aside _ := hR
    have HWK : Aside _ := ins_wk hR hf.1 hf.2.1 hf.2.2 hA hBB
    have HA : Aside _ := hA
    have HBB : Aside _ := hBB
    obtain ⟨f1, f2, f3⟩ := id hf
    clear hAB hR hA hBB
    generalize hLn : L.length = NL at c1 hwo
    go_enter Try.func11, Try.ntmps11
    go_wp2_with fail
    refine hw.mono ?_
    clear hw
    rintro e w' ⟨rfl, hh⟩
    subst w'
    go_wp2_with fail
    refine hwo.mono ?_
    clear hwo
    rintro e w1 ⟨o1, c1', rfl, hM1, hB1⟩
    have HR1 : Aside (Rf B0 w1 r L) := Rf.below HH.out hB1
    have HM1 : Aside (Mk W.heap.size w1 o1 c1' (A ++ B)) := hM1
    have HB1 : Aside (Below W.heap.size W w1) := hB1
    have hz1 : W.heap.size ≤ w1.heap.size := hB1.size
    clear hM1 hB1 c1 HH HM HHH
    go_wp2
    go_loopg [8, 9, 10] N (fun kx s8 s9 s10 wr => ∃ (k : Nat) (o : Option Addr) (c n : Nat) (put : Bool), s10 = .int .i64 k ∧ s8 = .slice o n c ∧ s9 = .bool put ∧ k ≤ N ∧ N - k ≤ kx ∧ n = (JJ A B f l k).length ∧ (put = true ↔ A.length < k) ∧ Aside (Mk w1.heap.size wr o c (JJ A B f l k)) ∧ Aside (Below w1.heap.size w1 wr))
    case atStart => exact ⟨0, none, 0, 0, false, rfl, rfl, rfl, Nat.zero_le _, by omega, by rw [JJ_zero]; rfl, by simp, by rw [JJ_zero]; exact Mk_nil _ _, Below.refl _ _⟩
    case round =>
      obtain ⟨k, o, c, n, put, rfl, rfl, rfl, hk, hg, hnl, hput, HM, HB⟩ := hrel
      have hjl := JJ_len A B f l k
      have hn2 : n ≤ 65538 := by omega
      by_cases hlk : k < N
      · have hkL : k < (A ++ B).length := by omega
        obtain ⟨g, hog, q0, q1⟩ := row_cells HM1.out.1 k hkL
        have lg : g < w1.heap.size := World.block_lt_of_cell? _ _ q0
        have d0 := (HB.out.cell (p := ⟨g, k * 2, none⟩) lg).trans q0
        have d1 := (HB.out.cell (p := ⟨g, k * 2 + 1, none⟩) lg).trans q1
        subst hog
        have hz2 : w1.heap.size ≤ wr.heap.size := HB.out.size
        have i1 : (k : Int) < (N : Int) := by omega
        have hrk := HROK.out.2 _ (List.getElem_mem hkL)
        clear q0 q1
        by_cases hka : k = A.length
        · obtain rfl : put = false := by
            cases put
            · rfl
            · have := hput.1 rfl; omega
          have HJ : Aside _ := JJ_eq (f := f) (l := l) hka hkL
          have hgt : l < (A ++ B)[k].1 := HBB.out _ (by rw [List.getElem_append_right (by omega)]; exact List.getElem_mem _)
          generalize hx : (A ++ B)[k] = x at d0 d1 HJ hgt hrk
          obtain ⟨x1, x2⟩ := x
          dsimp only at d0 d1 hgt hrk
          obtain ⟨g2, c2, w3, hrun, hM3, hB3, -⟩ := push_row w1.heap.size wr o c _ f l HM.out (by omega) hz2
          rw [← hnl] at hrun
          have hz3 : w1.heap.size ≤ w3.heap.size := Nat.le_trans hz2 hB3.size
          have e0 := (hB3.cell (p := ⟨g, k * 2, none⟩) lg).trans d0
          have e1 := (hB3.cell (p := ⟨g, k * 2 + 1, none⟩) lg).trans d1
          have hl0 : (JJ A B f l k ++ [(f, l)]).length = n + 1 := by rw [List.length_append, ← hnl]; rfl
          obtain ⟨g4, c4, w4, hrun4, hM4, hB4, -⟩ := push_row w1.heap.size w3 _ c2 _ x1 x2 hM3 (by omega) hz3
          rw [hl0] at hrun4
          have HM4 : Aside (Mk w1.heap.size w4 (some ⟨g4, 0, none⟩) c4 (JJ A B f l (k + 1))) := by rw [HJ.out]; exact hM4
          have HB4 : Aside (Below w1.heap.size w1 w4) := (HB.out.trans hB3).trans hB4
          have HL4 : Aside (n + 1 + 1 = (JJ A B f l (k + 1)).length) := by rw [HJ.out, List.length_append, hl0]; rfl
          have HKA : Aside (k = A.length) := hka
          clear hM3 hM4 hB3 hB4 hl0 hnl hjl HM HJ hx hka hput
          go_wp2_with (first
            | (at_builtin; refine wpList_append_run rfl (.tmp 38) (.tmp 42) 26 26 rfl (.slice o n c) (.slice (some ⟨wr.heap.size, 0, none⟩) 1 1) rfl rfl (hrun _) ?_)
            | (at_builtin; refine wpList_append_run rfl (.tmp 44) (.tmp 49) 26 26 rfl (.slice (some ⟨g2, 0, none⟩) (n + 1) c2) (.slice (some ⟨w3.heap.size, 0, none⟩) 1 1) rfl rfl (hrun4 _) ?_))
          go_roundg (N - (k + 1))
          case measure => omega
          case rel => exact ⟨k + 1, _, c4, n + 1 + 1, true, by simp, rfl, rfl, by omega, Nat.le_refl _, HL4.out, by have := HKA.out; simp; omega, HM4.out, HB4.out⟩
        · have HJ : Aside (JJ A B f l (k + 1) = JJ A B f l k ++ [(A ++ B)[k]]) := by
            by_cases hka2 : k < A.length
            · exact JJ_lt hka2 hkL
            · exact JJ_gt (by omega) hkL
          have hcase : put = true ∨ (put = false ∧ (A ++ B)[k].1 ≤ l) := by
            by_cases hka2 : k < A.length
            · refine .inr ⟨?_, ?_⟩
              · cases put
                · rfl
                · have := hput.1 rfl; omega
              · have h1 := HA.out _ (show (A ++ B)[k] ∈ A by rw [List.getElem_append_left hka2]; exact List.getElem_mem _)
                omega
            · exact .inl (hput.2 (by omega))
          have hput2 : put = true ↔ A.length < k + 1 := by rw [hput]; omega
          generalize hx : (A ++ B)[k] = x at d0 d1 HJ hcase hrk
          obtain ⟨x1, x2⟩ := x
          dsimp only at d0 d1 hcase hrk
          obtain ⟨g2, c2, w3, hrun, hM3, hB3, -⟩ := push_row w1.heap.size wr o c _ x1 x2 HM.out (by omega) hz2
          rw [← hnl] at hrun
          have HM4 : Aside (Mk w1.heap.size w3 (some ⟨g2, 0, none⟩) c2 (JJ A B f l (k + 1))) := by rw [HJ.out]; exact hM3
          have HB4 : Aside (Below w1.heap.size w1 w3) := HB.out.trans hB3
          have HL4 : Aside (n + 1 = (JJ A B f l (k + 1)).length) := by rw [HJ.out, List.length_append, ← hnl]; rfl
          have HP2 : Aside _ := hput2
          clear hM3 hB3 hnl hjl HM HJ hx hput hput2
          rcases hcase with rfl | ⟨rfl, hle⟩
          · go_wp2_with (at_builtin; refine wpList_append_run rfl (.tmp 44) (.tmp 49) 26 26 rfl (.slice o n c) (.slice (some ⟨wr.heap.size, 0, none⟩) 1 1) rfl rfl (hrun _) ?_)
            go_roundg (N - (k + 1))
            case measure => omega
            case rel => exact ⟨k + 1, _, c2, n + 1, true, by simp, rfl, rfl, by omega, Nat.le_refl _, HL4.out, by simpa using HP2.out, HM4.out, HB4.out⟩
          · have hle' : ¬ l < x1 := by omega
            go_wp2_with (at_builtin; refine wpList_append_run rfl (.tmp 44) (.tmp 49) 26 26 rfl (.slice o n c) (.slice (some ⟨wr.heap.size, 0, none⟩) 1 1) rfl rfl (hrun _) ?_)
            go_roundg (N - (k + 1))
            case measure => omega
            case rel => exact ⟨k + 1, _, c2, n + 1, false, by simp, rfl, rfl, by omega, Nat.le_refl _, HL4.out, by simpa using HP2.out, HM4.out, HB4.out⟩
      · obtain rfl : k = N := by omega
        have hz2 : w1.heap.size ≤ wr.heap.size := HB.out.size
        have hjo : ∀ (o' : Option Addr) (c' m : Nat) (W2 : World), m = (A ++ [(f, l)] ++ B).length → Mk w1.heap.size W2 o' c' (A ++ [(f, l)] ++ B) → Below w1.heap.size w1 W2 → Calls Try.prog 26 #[.slice o' m c'] W2 fun e w' => ∃ o c n, e = .returned (.slice o n c) ∧ n = (jn (A ++ [(f, l)] ++ B)).length ∧ Mk w1.heap.size w' o c (jn (A ++ [(f, l)] ++ B)) ∧ Below w1.heap.size w1 w' := by
          rintro o' c' m W2 rfl hM2 hB2
          refine (joined_c o' c' _ W2 hM2.1 (by have := hN; simp at this ⊢; omega) HWK.out).mono ?_
          rintro e w' ⟨o, c, rfl, h1, h2⟩
          exact ⟨o, c, _, rfl, rfl, ⟨h1.1, h1.2.1, fun g e => Nat.le_trans hB2.size (h1.2.2 g e)⟩, hB2.trans (h2.mono hB2.size)⟩
        have hend : ∀ w', Below w1.heap.size w1 w' → ∀ o c n, n = (jn (A ++ [(f, l)] ++ B)).length → Mk w1.heap.size w' o c (jn (A ++ [(f, l)] ++ B)) → Rf B0 w' r L ∧ Chg (fun k => k = r) W w' ∧ (∃ v, w'.cell? ⟨r, 0, none⟩ = some v) ∧ w'.frozen? ⟨r, 0, none⟩ = false ∧ Rf B0 (w'.setCell ⟨r, 0, none⟩ (.slice o n c)) r (jn (A ++ [(f, l)] ++ B)) ∧ Chg (fun k => k = r) W (w'.setCell ⟨r, 0, none⟩ (.slice o n c)) := by
          intro w' hb o c n hn hm
          have hr' := Rf.below HR1.out hb
          have hcw : Chg (fun k => k = r) W w' := (Chg.below HB1.out).trans ((Chg.below hb))
          obtain ⟨oo, cc, hh, _⟩ := id hr'
          obtain ⟨t1, t2, t3, t4⟩ := rf_set (B := B0) hh (⟨hm.1, hm.2.1, fun g e => hB g (Nat.le_trans hz1 (hm.2.2 g e))⟩ : MkP B0 w' o c _) n hn
          exact ⟨hr', hcw, ⟨_, t1⟩, t2, t3, hcw.trans t4⟩
        have HJO : Aside _ := hjo
        have HEND : Aside _ := hend
        have hjl2 := jn_len (A ++ [(f, l)] ++ B)
        have hfin : ∀ n, In n (jn (A ++ [(f, l)] ++ B)) ↔ In n L ∨ (f ≤ n ∧ n ≤ l) := by
          intro n
          rw [HIO.out.2 n, HIN.out n]
          constructor
          · rintro (h | h)
            · exact .inl h.1
            · exact .inr h
          · rintro (h | h)
            · by_cases h2 : f ≤ n ∧ n ≤ l
              · exact .inr h2
              · exact .inl ⟨h, h2⟩
            · exact .inr h
        have HFIN : Aside _ := hfin
        have hjb : (jn (A ++ [(f, l)] ++ B)).length ≤ 65538 := by
          simp only [List.length_append, List.length_cons, List.length_nil] at hN hjl2
          omega
        clear hjo hend hjl2 hfin hjl
        cases put with
        | true =>
          have hk := hput.1 rfl
          have hJ : JJ A B f l k = A ++ [(f, l)] ++ B := by
            unfold JJ
            rw [if_neg (by omega), List.take_of_length_le (by simp at hN; omega)]
          rw [hJ] at hnl HM
          have hc := HJO.out o c n wr hnl HM.out HB.out
          clear hnl HM hJ hput HJO
          go_wp2_with fail
          refine hc.mono ?_
          clear hc
          rintro e w5 ⟨o5, c5, n5, rfl, hn5, hM5, hB5⟩
          obtain ⟨t1, t2, ⟨v, t3⟩, t4, t5, t6⟩ := HEND.out w5 hB5 o5 c5 n5 hn5 hM5
          rw [← hn5] at hjb
          have HT : Aside _ := And.intro t1 (And.intro t2 (And.intro t5 t6))
          have HN5 : Aside _ := hn5
          clear t1 t2 t5 t6 hM5 hB5 HEND hn5
          by_cases hbig : 65536 < n5
          · have b1 : (65536 : Int) < (n5 : Int) := by omega
            go_wp2
            go_ret
            exact ⟨3, L, rfl, HT.out.1, HT.out.2.1, .inr ⟨_, hf, HIO.out.1, HFIN.out, .inl ⟨rfl, by have := HN5.out; omega, rfl⟩⟩⟩
          · have b1 : ¬ (65536 : Int) < (n5 : Int) := by omega
            go_wp2
            go_ret
            exact ⟨0, _, rfl, HT.out.2.2.1, HT.out.2.2.2, .inr ⟨_, hf, HIO.out.1, HFIN.out, .inr ⟨rfl, by have := HN5.out; omega, rfl⟩⟩⟩
        | false =>
          have hk : ¬ A.length < k := fun h => by have := hput.2 h; cases this
          have hBn : B = [] := by
            simp at hN
            exact List.eq_nil_of_length_eq_zero (by omega)
          have hJ : JJ A B f l k = A := by
            unfold JJ
            rw [if_pos (by omega), hBn, List.append_nil, List.take_of_length_le (by simp only [List.length_append] at hN; omega)]
          rw [hJ] at hnl HM
          obtain ⟨g2, c2, w3, hrun, hM3, hB3, -⟩ := push_row w1.heap.size wr o c _ f l HM.out (by omega) hz2
          rw [← hnl] at hrun
          have hM3' : Mk w1.heap.size w3 (some ⟨g2, 0, none⟩) c2 (A ++ [(f, l)] ++ B) := by rw [hBn, List.append_nil]; exact hM3
          have hc := HJO.out _ c2 (n + 1) w3 (by rw [hBn, List.append_nil, List.length_append, ← hnl]; rfl) hM3' (HB.out.trans hB3)
          clear hnl HM hJ hput HJO hM3 hM3' hBn
          go_wp2_with (at_builtin; refine wpList_append_run rfl (.tmp 53) (.tmp 57) 26 26 rfl (.slice o n c) (.slice (some ⟨wr.heap.size, 0, none⟩) 1 1) rfl rfl (hrun _) ?_)
          refine hc.mono ?_
          clear hc
          rintro e w5 ⟨o5, c5, n5, rfl, hn5, hM5, hB5⟩
          obtain ⟨t1, t2, ⟨v, t3⟩, t4, t5, t6⟩ := HEND.out w5 hB5 o5 c5 n5 hn5 hM5
          rw [← hn5] at hjb
          have HT : Aside _ := And.intro t1 (And.intro t2 (And.intro t5 t6))
          have HN5 : Aside _ := hn5
          clear t1 t2 t5 t6 hM5 hB5 HEND hn5
          by_cases hbig : 65536 < n5
          · have b1 : (65536 : Int) < (n5 : Int) := by omega
            go_wp2
            go_ret
            exact ⟨3, L, rfl, HT.out.1, HT.out.2.1, .inr ⟨_, hf, HIO.out.1, HFIN.out, .inl ⟨rfl, by have := HN5.out; omega, rfl⟩⟩⟩
          · have b1 : ¬ (65536 : Int) < (n5 : Int) := by omega
            go_wp2
            go_ret
            exact ⟨0, _, rfl, HT.out.2.2.1, HT.out.2.2.2, .inr ⟨_, hf, HIO.out.1, HFIN.out, .inr ⟨rfl, by have := HN5.out; omega, rfl⟩⟩⟩
  · have hw := rwrong_yes f l W hf
    go_enter Try.func11, Try.ntmps11
    go_wp2_with fail
    refine hw.mono ?_
    clear hw
    rintro e w' ⟨rfl, hh⟩
    subst w'
    go_wp2
    go_ret
    exact ⟨2, L, rfl, HH.out, Chg.refl _ _, .inl ⟨rfl, hf, rfl⟩⟩
end Go.Proofs.Ytgmhlmficnkhgaa
