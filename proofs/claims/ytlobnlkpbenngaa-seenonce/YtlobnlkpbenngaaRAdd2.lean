/- ranges: Add where spans are reached. -/
import Derived.Test.YtlobnlkpbenngaaRAdd
namespace Go.Proofs.YtlobnlkpbenngaaR
open Go.RowKit Go.Shelf Go.Lib
set_option linter.unusedVariables false

set_option maxRecDepth 100000 in
set_option maxHeartbeats 2000000 in
set_option maxRecDepth 100000 in
/-- The walk of Add where spans are reached: the first of them is (a0, b0), the last ends at b1. -/
theorem add_walk (S c g I J n : Nat) (f l a0 b0 b1 : Int) (P : Int → World → Prop) (w : World) (hIJ : I < J) (hJn : J ≤ n) (hf : Fit f l) (hnn : n ≤ 65536)
    (hc0 : w.cell? ⟨S, 0, none⟩ = some (.bool true)) (hc1 : w.cell? ⟨S, 1, none⟩ = some (.slice (some ⟨g, 0, none⟩) n c))
    (hq0 : w.cell? ⟨g, I * 2, none⟩ = some (.int .i64 a0)) (hq1 : w.cell? ⟨g, I * 2 + 1, none⟩ = some (.int .i64 b0)) (hq2 : w.cell? ⟨g, (J - 1) * 2 + 1, none⟩ = some (.int .i64 b1))
    (hrc : Calls Try.prog 54 #[.pointer (some ⟨S, 0, none⟩), .int .i64 (f - 1), .int .i64 (l + 1)] (w.alloc (.cells #[.int .i64 f, .int .i64 l] 53)) fun e w' => e = .returned (.tuple #[.int .i64 I, .int .i64 J]) ∧ Below (w.heap.size + 1) (w.alloc (.cells #[.int .i64 f, .int .i64 l] 53)) w')
    (hstay : a0 = min f a0 → b0 = max l b1 → ∀ w1, Below w.heap.size w w1 → P 0 w1)
    (hgo : ∀ w1, Below w.heap.size w w1 → Calls Try.prog 55 #[.pointer (some ⟨S, 0, none⟩), .int .i64 I, .int .i64 J, .slice (some ⟨w1.heap.size, 0, none⟩) 1 1] (w1.alloc (.cells #[.int .i64 (min f a0), .int .i64 (max l b1)] 53)) fun e w' => ∃ r, e = .returned (.int .i64 r) ∧ P r w') :
    Calls Try.prog 37 #[.pointer (some ⟨S, 0, none⟩), .int .i64 f, .int .i64 l] w fun e w' => ∃ r, e = .returned (.int .i64 r) ∧ P r w' := by
  obtain ⟨h1, h2, h3⟩ := id hf
  have hl1 : IntKind.i64.wrap (f - 1) = f - 1 := by rw [IntKind.wrap_i64]; omega
  have hl2 : IntKind.i64.wrap (l + 1) = l + 1 := by rw [IntKind.wrap_i64]; omega
  have hwr := wrong_no S f l w hc0 hf
  have hb0 : Below w.heap.size w (w.alloc (.cells #[.int .i64 f, .int .i64 l] 53)) := (Below.refl _ w).alloc (Nat.le_refl _) _
  have ck0 : (w.alloc (.cells #[.int .i64 f, .int .i64 l] 53)).cell? ⟨w.heap.size, 0, none⟩ = some (.int .i64 f) := by simp [go_sem]
  have ck1 : (w.alloc (.cells #[.int .i64 f, .int .i64 l] 53)).cell? ⟨w.heap.size, 1, none⟩ = some (.int .i64 l) := by simp [go_sem]
  have hs0 : (w.alloc (.cells #[.int .i64 f, .int .i64 l] 53)).heap[w.heap.size]? = some (.cells #[.int .i64 f, .int .i64 l] 53 (0, 0)) := World.alloc_heap_new w _
  have lS : S < w.heap.size := World.block_lt_of_cell? _ _ hc0
  have lg : g < w.heap.size := World.block_lt_of_cell? _ _ hq0
  have HRC : Aside _ := hrc
  have HST : Aside _ := hstay
  have HGO : Aside _ := hgo
  clear hrc hstay hgo
  go_enter Try.func37, Try.ntmps37
  go_wp2_with fail
  refine hwr.mono ?_
  clear hwr
  rintro e w' ⟨rfl, hh⟩
  subst w'
  go_wp2_with fail
  refine Calls.mono HRC.out ?_
  rintro e w1 ⟨rfl, hb1⟩
  have dk0 := (hb1.cell (p := ⟨w.heap.size, 0, none⟩) (by simp)).trans ck0
  have dk1 := (hb1.cell (p := ⟨w.heap.size, 1, none⟩) (by simp)).trans ck1
  have df0 : w1.heap[w.heap.size]? = some (.cells #[.int .i64 f, .int .i64 l] 53 (0, 0)) := (hb1.block _ (by omega)).trans hs0
  have HB1 : Aside (Below w.heap.size w w1) := hb0.trans (hb1.mono (by simp))
  have d0 := (HB1.out.cell (p := ⟨S, 0, none⟩) lS).trans hc0
  have d1 := (HB1.out.cell (p := ⟨S, 1, none⟩) lS).trans hc1
  have dq0 := (HB1.out.cell (p := ⟨g, I * 2, none⟩) lg).trans hq0
  have dq1 := (HB1.out.cell (p := ⟨g, I * 2 + 1, none⟩) lg).trans hq1
  have dq2 := (HB1.out.cell (p := ⟨g, (J - 1) * 2 + 1, none⟩) lg).trans hq2
  have fz0 : ∀ j, w1.frozen? ⟨w.heap.size, j, none⟩ = false := fun j => by simp [World.frozen?, df0]
  have fz00 := fz0 0
  have fz01 := fz0 1
  have gK : ¬ g = w.heap.size := by omega
  have SK : ¬ S = w.heap.size := by omega
  have hJ1 : IntKind.i64.wrap ((J : Int) - 1) = ((J - 1 : Nat) : Int) := by rw [IntKind.wrap_i64]; omega
  have hJ2 : ((J - 1 : Nat) : Int) < (n : Int) := by omega
  have hJ3 : J - 1 < n := by omega
  have hI2 : I < n := by omega
  clear hb1 hb0 ck0 ck1 hc0 hc1 hq0 hq1 hq2 hs0 hf
  generalize hX : min f a0 = X at HST HGO
  generalize hY : max l b1 = Y at HST HGO
  have HB2 : Aside (Below w.heap.size w ((w1.setCell ⟨w.heap.size, 0, none⟩ (.int .i64 X)).setCell ⟨w.heap.size, 1, none⟩ (.int .i64 Y))) :=
    (HB1.out.setCell (p := ⟨w.heap.size, 0, none⟩) (Nat.le_refl _) _).setCell (p := ⟨w.heap.size, 1, none⟩) (Nat.le_refl _) _
  have e0 : ((w1.setCell ⟨w.heap.size, 0, none⟩ (.int .i64 X)).setCell ⟨w.heap.size, 1, none⟩ (.int .i64 Y)).cell? ⟨w.heap.size, 0, none⟩ = some (.int .i64 X) := by
    rw [World.cell?_setCell_other _ _ _ _ (by simp)]; exact World.cell?_setCell_same' _ _ _ (by rw [dk0]; rfl)
  have e1 : ((w1.setCell ⟨w.heap.size, 0, none⟩ (.int .i64 X)).setCell ⟨w.heap.size, 1, none⟩ (.int .i64 Y)).cell? ⟨w.heap.size, 1, none⟩ = some (.int .i64 Y) := by
    refine World.cell?_setCell_same' _ _ _ ?_
    rw [World.cell?_setCell_other _ _ _ _ (by simp), dk1]; rfl
  go_wp2
  generalize hW2 : (w1.setCell ⟨w.heap.size, 0, none⟩ (.int .i64 X)).setCell ⟨w.heap.size, 1, none⟩ (.int .i64 Y) = W2 at HB2 e0 e1
  have g0 := (HB2.out.cell (p := ⟨S, 0, none⟩) lS).trans ((HB1.out.cell (p := ⟨S, 0, none⟩) lS).symm.trans d0)
  have g1 := (HB2.out.cell (p := ⟨S, 1, none⟩) lS).trans ((HB1.out.cell (p := ⟨S, 1, none⟩) lS).symm.trans d1)
  have gq0 := (HB2.out.cell (p := ⟨g, I * 2, none⟩) lg).trans ((HB1.out.cell (p := ⟨g, I * 2, none⟩) lg).symm.trans dq0)
  have gq1 := (HB2.out.cell (p := ⟨g, I * 2 + 1, none⟩) lg).trans ((HB1.out.cell (p := ⟨g, I * 2 + 1, none⟩) lg).symm.trans dq1)
  clear hW2 d0 d1 dq0 dq1 dq2 dk0 dk1 df0 fz0 fz00 fz01 HB1
  have he := eq50 a0 b0 X Y
  by_cases hst : a0 = X ∧ b0 = Y
  · have hb : (a0 == X && b0 == Y) = true := by simp [hst.1, hst.2]
    rw [hb] at he
    have HP : Aside (P 0 W2.drew) := HST.out hst.1 hst.2 _ HB2.out.drew
    clear hst
    go_region
    all_goals
      go_wp2
      go_ret
      exact ⟨0, rfl, HP.out⟩
  · have hb : (a0 == X && b0 == Y) = false := by
      rw [Bool.eq_false_iff]
      intro h
      simp only [Bool.and_eq_true, beq_iff_eq] at h
      exact hst h
    rw [hb] at he
    clear hst
    go_region
    all_goals
      go_wp2_with fail
      refine Calls.mono (HGO.out W2.drew HB2.out.drew) ?_
      rintro e w' ⟨r, rfl, hp⟩
      have HP : Aside _ := hp
      clear hp
      go_wp2
      go_ret
      exact ⟨r, rfl, HP.out⟩

/-- What Add answers, and leaves. -/
def AddP (w : World) (S : Nat) (o : Option Addr) (L : List (Int × Int)) (f l : Int) (r : Int) (w' : World) : Prop :=
  ∃ L', Ok L' ∧ (∀ n, In n L' ↔ In n L ∨ (f ≤ n ∧ n ≤ l)) ∧ ((L'.length ≤ 65536 ∧ r = 0 ∧ Upd w w' S o L') ∨ (65536 < L'.length ∧ r = 3 ∧ Upd w w' S o L))

set_option maxRecDepth 100000 in
theorem add_c (S c : Nat) (o : Option Addr) (f l : Int) (L : List (Int × Int)) (w : World) (h : Se w S o c L) (hO : Ok L) (hsz : L.length ≤ 65536) (hf : Fit f l) :
    Calls Try.prog 37 #[.pointer (some ⟨S, 0, none⟩), .int .i64 f, .int .i64 l] w fun e w' => ∃ r, e = .returned (.int .i64 r) ∧ AddP w S o L f l r w' := by
  obtain ⟨h1, h2, h3⟩ := id hf
  obtain ⟨A, D, B, rfl, hA, hD, hB⟩ := parts L (f - 1) (l + 1) hO (by omega)
  cases D with
  | nil =>
    obtain ⟨k1, k2⟩ := add_ok A [] B f l hO h1 h2 h3 hA hD hB f l ⟨Int.le_refl _, .inl rfl, fun p hp => nomatch hp⟩ ⟨Int.le_refl _, .inl rfl, fun p hp => nomatch hp⟩
    refine (add_none S c o f l A B w h hO hsz hf hA hB).mono ?_
    rintro e w' (⟨a, rfl, b⟩ | ⟨a, rfl, b⟩)
    · exact ⟨0, rfl, _, k1, k2, .inl ⟨a, rfl, b⟩⟩
    · exact ⟨3, rfl, _, k1, k2, .inr ⟨a, rfl, b⟩⟩
  | cons d0 D' =>
    obtain ⟨hAD, okB, hADB⟩ := Ok_append.1 hO
    obtain ⟨okA, okD, hAD2⟩ := Ok_append.1 hAD
    obtain ⟨_, d0lt, okD'⟩ := Ok_cons.1 okD
    obtain ⟨g, R, rfl, hAt, hR⟩ : ∃ g R, o = some ⟨g, 0, none⟩ ∧ At w g (fl (A ++ d0 :: D' ++ B) ++ R) ∧ R.length + (A ++ d0 :: D' ++ B).length * 2 = c * 2 := by
      rcases h.2.1 with ⟨_, hh, _⟩ | hh
      · simp at hh
      · exact hh
    obtain ⟨dl, hdl⟩ : ∃ dl, dl = (d0 :: D').getLast (by simp) := ⟨_, rfl⟩
    have hdm : dl ∈ d0 :: D' := by rw [hdl]; exact List.getLast_mem _
    have hlast : ∀ p ∈ d0 :: D', p.2 ≤ dl.2 := by
      intro p hp
      have hs := List.dropLast_concat_getLast (l := d0 :: D') (by simp)
      rw [← hdl] at hs
      rw [← hs] at hp okD
      rcases List.mem_append.1 hp with hp | hp
      · have a1 := (Ok_append.1 okD).2.2 p hp dl (by simp)
        have a2 := (okD.2 dl (by simp)).2.1
        omega
      · simp at hp; rw [hp]; omega
    have hfirst : ∀ p ∈ d0 :: D', d0.1 ≤ p.1 := by
      intro p hp
      rcases List.mem_cons.1 hp with rfl | hp
      · omega
      · have a1 := d0lt p hp
        have a2 := (okD.2 d0 (by simp)).2.1
        omega
    have lI : A.length < (A ++ d0 :: D' ++ B).length := by simp
    have lJ : A.length + (D'.length + 1) - 1 < (A ++ d0 :: D' ++ B).length := by simp; omega
    have gI : (A ++ d0 :: D' ++ B)[A.length] = d0 := by simp
    have gJ : (A ++ d0 :: D' ++ B)[A.length + (D'.length + 1) - 1] = dl := by
      rw [List.getElem_append_left (by simp), List.getElem_append_right (by omega), hdl, List.getLast_eq_getElem]
      congr 1
      simp
    have c0 := cells_at hAt _ lI
    have c1 := (cells_at hAt _ lJ).2
    rw [gI] at c0
    rw [gJ] at c1
    have hX : min f d0.1 ≤ f ∧ (min f d0.1 = f ∨ ∃ p ∈ d0 :: D', p.1 = min f d0.1) ∧ ∀ p ∈ d0 :: D', min f d0.1 ≤ p.1 := by
      refine ⟨by omega, ?_, fun p hp => by have := hfirst p hp; omega⟩
      rcases Int.le_total f d0.1 with h' | h'
      · exact .inl (by omega)
      · exact .inr ⟨d0, by simp, by omega⟩
    have hY : l ≤ max l dl.2 ∧ (max l dl.2 = l ∨ ∃ p ∈ d0 :: D', p.2 = max l dl.2) ∧ ∀ p ∈ d0 :: D', p.2 ≤ max l dl.2 := by
      refine ⟨by omega, ?_, fun p hp => by have := hlast p hp; omega⟩
      rcases Int.le_total dl.2 l with h' | h'
      · exact .inl (by omega)
      · exact .inr ⟨dl, hdm, by omega⟩
    obtain ⟨k1, k2⟩ := add_ok A (d0 :: D') B f l hO h1 h2 h3 hA hD hB _ _ hX hY
    have hb0 : Below w.heap.size w (w.alloc (.cells #[.int .i64 f, .int .i64 l] 53)) := (Below.refl _ w).alloc (Nat.le_refl _) _
    have hrc := reached_c S c (some ⟨g, 0, none⟩) (f - 1) (l + 1) A (d0 :: D') B (w.alloc (.cells #[.int .i64 f, .int .i64 l] 53)) (h.below hb0 (Nat.le_refl _)) hO (by omega) (by omega) hA hD hB
    rw [World.size_alloc] at hrc
    have hfit : A.length + 1 + B.length ≤ 65536 := by simp at hsz; omega
    refine add_walk S c g A.length (A.length + (D'.length + 1)) (A ++ d0 :: D' ++ B).length f l d0.1 d0.2 dl.2 _ w (by omega) (by simp) hf hsz h.head.1 h.head.2 c0.1 c0.2 c1 hrc ?_ ?_
    · intro e1 e2 w1 hb1
      have eD : D' = [] := by
        cases D' with
        | nil => rfl
        | cons q t =>
          have a1 := d0lt q (by simp)
          have a2 := (okD.2 q (by simp)).2.1
          have a3 := hY.2.2 q (by simp)
          omega
      have eL : A ++ [(min f d0.1, max l dl.2)] ++ B = A ++ d0 :: D' ++ B := by rw [eD, ← e1, ← e2]
      refine ⟨_, k1, k2, .inl ⟨by simp; omega, rfl, ?_⟩⟩
      rw [eL]
      exact Upd.refl h hb1
    · intro w1 hb1
      have hb2 : Below w.heap.size w (w1.alloc (.cells #[.int .i64 (min f d0.1), .int .i64 (max l dl.2)] 53)) := hb1.alloc hb1.size _
      have hV : At (w1.alloc (.cells #[.int .i64 (min f d0.1), .int .i64 (max l dl.2)] 53)) w1.heap.size (fl [(min f d0.1, max l dl.2)] ++ []) := at_alloc w1 _
      have hVo : some (⟨g, 0, none⟩ : Addr) ≠ some ⟨w1.heap.size, 0, none⟩ := by
        intro e
        obtain rfl : g = w1.heap.size := by simpa using e
        have := hAt.lt; have := hb1.size; omega
      refine (replaceM_c S c 1 1 A.length (A.length + (D'.length + 1)) (A.length + (D'.length + 1) + B.length) (some ⟨g, 0, none⟩) (some ⟨w1.heap.size, 0, none⟩) A (d0 :: D') B [(min f d0.1, max l dl.2)] _ (h.below hb2 (Nat.le_refl _)) rfl (by simp) rfl rfl (by simp at hsz; omega) (by omega) (.inr ⟨_, [], rfl, hV, hVo⟩) (by simp) (by omega)).mono ?_
      rintro e w' ⟨rfl, hu⟩
      exact ⟨0, rfl, _, k1, k2, .inl ⟨by simp; omega, rfl, hu.after hb2⟩⟩

end Go.Proofs.YtlobnlkpbenngaaR
