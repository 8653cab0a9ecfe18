/- ranges: the spans that are reached, by parts; the method replace. -/
import Derived.Test.YtlobnlkpbenngaaRRea
namespace Go.Proofs.YtlobnlkpbenngaaR
open Go.RowKit Go.Shelf Go.Lib
set_option linter.unusedVariables false

set_option maxRecDepth 100000 in
theorem idx_A {A D B : List (Int × Int)} (k : Nat) (h : k < (A ++ D ++ B).length) (hk : k < A.length) : (A ++ D ++ B)[k] ∈ A := by
  rw [List.getElem_append_left (by simp; omega), List.getElem_append_left hk]
  exact List.getElem_mem _
set_option maxRecDepth 100000 in
theorem idx_D {A D B : List (Int × Int)} (k : Nat) (h : k < (A ++ D ++ B).length) (h1 : A.length ≤ k) (h2 : k < A.length + D.length) : (A ++ D ++ B)[k] ∈ D := by
  rw [List.getElem_append_left (by simp; omega), List.getElem_append_right h1]
  exact List.getElem_mem _
set_option maxRecDepth 100000 in
theorem idx_B {A D B : List (Int × Int)} (k : Nat) (h : k < (A ++ D ++ B).length) (h1 : A.length + D.length ≤ k) : (A ++ D ++ B)[k] ∈ B := by
  rw [List.getElem_append_right (by simp; omega)]
  exact List.getElem_mem _

set_option maxRecDepth 100000 in
theorem reached_c (S c : Nat) (o : Option Addr) (f l : Int) (A D B : List (Int × Int)) (w : World) (h : Se w S o c (A ++ D ++ B)) (hO : Ok (A ++ D ++ B)) (hsz : (A ++ D ++ B).length ≤ 70000) (hfl : f ≤ l + 1)
    (hA : ∀ p ∈ A, p.2 < f) (hD : ∀ p ∈ D, f ≤ p.2 ∧ p.1 ≤ l) (hB : ∀ p ∈ B, l < p.1) :
    Calls Try.prog 54 #[.pointer (some ⟨S, 0, none⟩), .int .i64 f, .int .i64 l] w fun e w' => e = .returned (.tuple #[.int .i64 A.length, .int .i64 (A.length + D.length : Nat)]) ∧ Below w.heap.size w w' := by
  refine reached_idx S c A.length (A.length + D.length) o f l (A ++ D ++ B) w h (by omega) (by simp) hsz (fun k hk h1 => hA _ (idx_A k hk h1)) (fun k hk h1 => ?_) (fun k hk h1 h2 => ⟨(hD _ (idx_D k hk h1 h2)).2, fun h3 => ?_⟩) (fun k hk h1 => hB _ (idx_B k hk h1))
  · by_cases h2 : k < A.length + D.length
    · exact (hD _ (idx_D k hk h1 h2)).1
    · have a1 := hB _ (idx_B k hk (by omega))
      have a2 := (hO.2 _ (List.getElem_mem hk)).2.1
      omega
  · have hk' : k + 1 < (A ++ D ++ B).length := by simp; omega
    have a1 := (hD _ (idx_D (k + 1) hk' (by omega) h3)).2
    have a2 := List.pairwise_iff_getElem.1 hO.1 k (k + 1) hk hk' (by omega)
    omega

set_option maxRecDepth 100000 in
theorem rep_ins_none (V vc m : Nat) (Rz : Ending → World → Prop) (w : World) (hc : Calls Try.prog 74 #[.slice none 0 0, .int .i64 (0 : Nat), .slice (some ⟨V, 0, none⟩) m vc] w (fun e w' => ∃ o' k c', e = .returned (.slice o' k c') ∧ Rz e w')) :
    Calls Try.prog 64 #[.slice none 0 0, .int .i64 (0 : Nat), .int .i64 (0 : Nat), .slice (some ⟨V, 0, none⟩) m vc] w Rz := by
  go_enter Try.func64, Try.ntmps64
  go_wp2_with fail
  refine hc.mono ?_
  rintro e w' ⟨o', k, c', rfl, h⟩
  have H : Aside _ := h
  clear h
  go_wp2
  exact H.out
set_option maxHeartbeats 1000000 in
set_option maxRecDepth 100000 in
theorem rep_ins_some (g c V vc m n i : Nat) (Rz : Ending → World → Prop) (w : World) (hin : i ≤ n) (hnc : n ≤ c) (hc : Calls Try.prog 74 #[.slice (some ⟨g, 0, none⟩) n c, .int .i64 i, .slice (some ⟨V, 0, none⟩) m vc] w (fun e w' => ∃ o' k c', e = .returned (.slice o' k c') ∧ Rz e w')) :
    Calls Try.prog 64 #[.slice (some ⟨g, 0, none⟩) n c, .int .i64 i, .int .i64 i, .slice (some ⟨V, 0, none⟩) m vc] w Rz := by
  have hic : i ≤ c := by omega
  by_cases hci : c = i
  · obtain rfl : n = i := by omega
    subst hci
    go_enter Try.func64, Try.ntmps64
    go_wp2_with fail
    refine hc.mono ?_
    rintro e w' ⟨o', k, c', rfl, h⟩
    have H : Aside _ := h
    clear h
    go_wp2
    exact H.out
  · go_enter Try.func64, Try.ntmps64
    go_wp2_with fail
    refine hc.mono ?_
    rintro e w' ⟨o', k, c', rfl, h⟩
    have H : Aside _ := h
    clear h
    go_wp2
    exact H.out

set_option maxRecDepth 100000 in
set_option maxHeartbeats 1000000 in
set_option maxRecDepth 100000 in
/-- slices.Replace: every road. -/
theorem rep_c (o vo : Option Addr) (c vc m n i j : Nat) (A D B M : List (Int × Int)) (w : World) (hi : A.length = i) (hj : i + D.length = j) (hn : j + B.length = n) (hm : M.length = m)
    (hr : Rs w o c (A ++ D ++ B)) (hcm : c ≤ maxLen) (hv : Sv w o vo M) (hne : D = [] → M ≠ []) (hsm : n + m ≤ 70000) :
    Calls Try.prog 64 #[.slice o n c, .int .i64 i, .int .i64 j, .slice vo m vc] w (Out w o (A ++ M ++ B)) := by
  rcases Nat.eq_zero_or_pos D.length with hD | hD
  · obtain rfl := List.length_eq_zero_iff.1 hD
    have hM := hne rfl
    rcases hv with ⟨_, h⟩ | ⟨V, Y, rfl, hV, hVo⟩
    · exact absurd h hM
    obtain rfl : i = j := by simpa using hj
    simp only [List.append_nil] at hr
    have hmp : 0 < m := by
      rw [← hm]
      exact List.length_pos_iff.2 hM
    have hc := insert_c o c V vc m n i A B M Y w hi hn hm hmp hr hcm hV hVo hsm
    have hin : i ≤ n := by omega
    have hnc : n ≤ c := by
      rcases hr with ⟨_, h, rfl⟩ | ⟨g, R, _, _, h⟩
      · simp at h; rw [h.1] at hi; rw [h.2] at hn; simp at hi hn; omega
      · simp at h; omega
    have hic : i ≤ c := by omega
    have hc' : Calls Try.prog 74 #[.slice o n c, .int .i64 i, .slice (some ⟨V, 0, none⟩) m vc] w (fun e w' => ∃ o' k c', e = .returned (.slice o' k c') ∧ Out w o (A ++ M ++ B) e w') :=
      hc.mono (fun e w' h => by obtain ⟨o', c', he, hh⟩ := id h; exact ⟨o', _, c', he, h⟩)
    rcases hr with ⟨rfl, h, rfl⟩ | ⟨g, R, rfl, _, _⟩
    · obtain rfl : n = 0 := by omega
      obtain rfl : i = 0 := by omega
      exact rep_ins_none V vc m _ w hc'
    · exact rep_ins_some g c V vc m n i _ w hin hnc hc'
  · rcases hr with ⟨_, h, _⟩ | ⟨g, R, rfl, hA, hR⟩
    · simp only [List.append_eq_nil_iff] at h; rw [h.1.2] at hD; simp at hD
    rw [fl_append, fl_append] at hA
    have hR' : R.length + n * 2 = c * 2 := by simp at hR; omega
    rcases Nat.eq_zero_or_pos B.length with hB | hB
    · obtain rfl := List.length_eq_zero_iff.1 hB
      obtain rfl : j = n := by simpa using hn
      simp only [fl, List.append_nil] at hA ⊢
      by_cases h1 : i + m < j
      · exact replace_tail_clear g c vc m j i vo A D M R w hi hj hD hm hA hR' hcm hv h1 hsm
      · by_cases h2 : i + m ≤ c
        · exact replace_tail_full g c vc m j i vo A D M R w hi hj hD hm hA hR' hcm hv (by omega) h2 hsm
        · exact replace_tail_grow g c vc m j i vo A D M R w hi hj hD hm hA hR' hv (by omega) hsm
    · by_cases h1 : i + m ≤ j
      · exact replace_mid_in g c vc m n i j vo A D B M R w hi hj hn hD hB hm hA hR' hcm hv h1 hsm
      · by_cases h2 : i + m + (n - j) ≤ c
        · rcases hv with ⟨_, rfl⟩ | ⟨V, Y, rfl, hV, hVo⟩
          · simp at hm; omega
          · exact replace_mid_more g c V vc m n i j A D B M R Y w hi hj hn hD hB hm hA hR' hcm hV (by rintro rfl; exact hVo rfl) (by omega) h2 hsm
        · exact replace_mid_grow g c vc m n i j vo A D B M R w hi hj hn hD hB hm hA hR' hv (by omega) hsm

/-- What a call that turns a set S leaves: its spans are L'. -/
def Upd (w w' : World) (S : Nat) (o : Option Addr) (L' : List (Int × Int)) : Prop :=
  ∃ o' c', Se w' S o' c' L' ∧ Chg (fun k => k = S ∨ o = some ⟨k, 0, none⟩) w w' ∧ (o' = o ∨ ∃ g, o' = some ⟨g, 0, none⟩ ∧ w.heap.size ≤ g)

set_option maxRecDepth 100000 in
theorem Se.ne {w : World} {S : Nat} {o : Option Addr} {c : Nat} {L : List (Int × Int)} (h : Se w S o c L) : o ≠ some ⟨S, 0, none⟩ := by
  rintro rfl
  rcases h.2.1 with ⟨h', _⟩ | ⟨g, R, h', hA, _⟩
  · cases h'
  · obtain rfl : S = g := by simpa using h'
    have := h.1.symm.trans hA
    simp at this

set_option maxRecDepth 100000 in
theorem replaceM_big (S c vc m i j n : Nat) (o vo : Option Addr) (L : List (Int × Int)) (w : World) (h : Se w S o c L) (hn : L.length = n) (hij : i ≤ j) (hj : j ≤ n) (hsz : n ≤ 65536) (hm : m ≤ 2) (hbig : 65536 < n - (j - i) + m) :
    Calls Try.prog 55 #[.pointer (some ⟨S, 0, none⟩), .int .i64 i, .int .i64 j, .slice vo m vc] w fun e w' => e = .returned (.int .i64 3) ∧ w' = w := by
  have hc := h.head.2
  rw [hn] at hc
  have hw1 : IntKind.i64.wrap ((j : Int) - (i : Int)) = (j : Int) - (i : Int) := by rw [IntKind.wrap_i64]; omega
  have hw2 : IntKind.i64.wrap ((n : Int) - ((j : Int) - (i : Int))) = (n : Int) - ((j : Int) - (i : Int)) := by rw [IntKind.wrap_i64]; omega
  have hw3 : IntKind.i64.wrap ((n : Int) - ((j : Int) - (i : Int)) + (m : Int)) = (n : Int) - ((j : Int) - (i : Int)) + (m : Int) := by rw [IntKind.wrap_i64]; omega
  have hb : (65536 : Int) < (n : Int) - ((j : Int) - (i : Int)) + (m : Int) := by omega
  clear h
  go_enter Try.func55, Try.ntmps55
  go_wp2
  go_ret
  exact ⟨rfl, rfl⟩

set_option maxRecDepth 100000 in
theorem replaceM_c (S c vc m i j n : Nat) (o vo : Option Addr) (A D B M : List (Int × Int)) (w : World) (h : Se w S o c (A ++ D ++ B)) (hi : A.length = i) (hj : i + D.length = j) (hn : j + B.length = n) (hm : M.length = m) (hsz : n ≤ 65536) (hm2 : m ≤ 2)
    (hv : Sv w o vo M) (hne : D = [] → M ≠ []) (hfit : i + m + B.length ≤ 65536) :
    Calls Try.prog 55 #[.pointer (some ⟨S, 0, none⟩), .int .i64 i, .int .i64 j, .slice vo m vc] w fun e w' => e = .returned (.int .i64 0) ∧ Upd w w' S o (A ++ M ++ B) := by
  have hr := rep_c o vo c vc m n i j A D B M w hi hj hn hm h.2.1 h.2.2 hv hne (by omega)
  have hc := h.head.2
  have hl : (A ++ D ++ B).length = n := by simp; omega
  rw [hl] at hc
  have HS : Aside _ := h
  have hw1 : IntKind.i64.wrap ((j : Int) - (i : Int)) = (j : Int) - (i : Int) := by rw [IntKind.wrap_i64]; omega
  have hw2 : IntKind.i64.wrap ((n : Int) - ((j : Int) - (i : Int))) = (n : Int) - ((j : Int) - (i : Int)) := by rw [IntKind.wrap_i64]; omega
  have hw3 : IntKind.i64.wrap ((n : Int) - ((j : Int) - (i : Int)) + (m : Int)) = (n : Int) - ((j : Int) - (i : Int)) + (m : Int) := by rw [IntKind.wrap_i64]; omega
  have hb : ¬ ((65536 : Int) < (n : Int) - ((j : Int) - (i : Int)) + (m : Int)) := by omega
  have HO : ∀ e w', Out w o (A ++ M ++ B) e w' → ∃ o' c' len, e = .returned (.slice o' len c') ∧ w'.cell? ⟨S, 1, none⟩ = some (.slice o n c) ∧ w'.frozen? ⟨S, 1, none⟩ = false ∧ Upd w (w'.setCell ⟨S, 1, none⟩ (.slice o' len c')) S o (A ++ M ++ B) := by
    rintro e w' ⟨o', c', rfl, hrs, hmx, hch, ho'⟩
    have hS : w'.heap[S]? = some (.cells #[.bool true, .slice o (A ++ D ++ B).length c] 84 (0, 0)) := (hch.2.2.2.2 S h.lt (fun e => h.ne e)).trans h.1
    have hS' : S < w'.heap.size := (Array.getElem?_eq_some_iff.1 hS).1
    refine ⟨o', c', _, rfl, ?_, ?_, o', c', ⟨?_, ?_, hmx⟩, ?_, ho'⟩
    · rw [← hl]; simp [World.cell?, hS]
    · simp [World.frozen?, hS]
    · rw [setCell_eq_setRow w' S 1 _ 84 (0, 0) _ hS]
      rw [setRow_heap w' S _ _ 84 (0, 0) hS]
      rfl
    · rw [setCell_eq_setRow w' S 1 _ 84 (0, 0) _ hS]
      rcases hrs with hrs | ⟨g, R, hg, hA, hR⟩
      · exact .inl hrs
      · refine .inr ⟨g, R, hg, At.other hA _ ?_, hR⟩
        rintro rfl
        have := hS.symm.trans hA
        simp at this
    · rw [setCell_eq_setRow w' S 1 _ 84 (0, 0) _ hS]
      exact (hch.mono (fun k _ hk => .inr hk)).set S _ (.inl (.inl rfl))
  clear h
  go_enter Try.func55, Try.ntmps55
  go_wp2_with fail
  refine hr.mono ?_
  rintro e w' hO
  obtain ⟨o', c', len, rfl, hc2, hf2, hU⟩ := HO e w' hO
  clear HO hO hr
  have HU : Aside _ := hU
  clear hU
  go_wp2
  go_ret
  exact ⟨rfl, HU.out⟩

end Go.Proofs.YtlobnlkpbenngaaR
