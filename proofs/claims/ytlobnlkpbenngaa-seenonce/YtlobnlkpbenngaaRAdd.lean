/- ranges: none, wrong and Add of a set that was made. -/
import Derived.Test.YtlobnlkpbenngaaRMet
import Derived.Laws.StructEq
namespace Go.Proofs.YtlobnlkpbenngaaR
open Go.RowKit Go.Shelf Go.Lib
set_option linter.unusedVariables false

set_option maxRecDepth 100000 in
theorem yes_none (S : Nat) (w : World) (hc : w.cell? ⟨S, 0, none⟩ = some (.bool true)) : Calls Try.prog 51 #[.pointer (some ⟨S, 0, none⟩)] w fun e w' => e = .returned (.bool false) ∧ w' = w := by
  go_enter Try.func51, Try.ntmps51
  go_wp2
  go_ret
  exact ⟨rfl, rfl⟩

/-- A span that may be added or removed. -/
abbrev Fit (f l : Int) : Prop := 0 ≤ f ∧ f ≤ l ∧ l ≤ 4611686018427387903

set_option maxRecDepth 100000 in
theorem wrong_no (S : Nat) (f l : Int) (w : World) (hc : w.cell? ⟨S, 0, none⟩ = some (.bool true)) (h : Fit f l) :
    Calls Try.prog 53 #[.pointer (some ⟨S, 0, none⟩), .int .i64 f, .int .i64 l] w fun e w' => e = .returned (.int .i64 0) ∧ w' = w := by
  obtain ⟨h1, h2, h3⟩ := h
  have h1' : ¬ f < 0 := by omega
  have h2' : ¬ l < f := by omega
  have h3' : ¬ 4611686018427387903 < l := by omega
  go_enter Try.func53, Try.ntmps53
  go_wp2_with fail
  refine (yes_none S w hc).mono ?_
  rintro e w' ⟨rfl, h⟩
  subst w'
  go_wp2
  go_ret
  exact ⟨rfl, rfl⟩

set_option maxRecDepth 100000 in
theorem wrong_yes (S : Nat) (f l : Int) (w : World) (hc : w.cell? ⟨S, 0, none⟩ = some (.bool true)) (h : ¬ Fit f l) :
    Calls Try.prog 53 #[.pointer (some ⟨S, 0, none⟩), .int .i64 f, .int .i64 l] w fun e w' => e = .returned (.int .i64 2) ∧ w' = w := by
  have h' : f < 0 ∨ (¬ f < 0 ∧ 4611686018427387903 < l) ∨ (¬ f < 0 ∧ ¬ 4611686018427387903 < l ∧ l < f) := by unfold Fit at h; omega
  clear h
  rcases h' with h | ⟨h1, h⟩ | ⟨h1, h2, h⟩
  all_goals
    go_enter Try.func53, Try.ntmps53
    go_wp2_with fail
    refine (yes_none S w hc).mono ?_
    rintro e w' ⟨rfl, h⟩
    subst w'
    go_wp2
    go_ret
    exact ⟨rfl, rfl⟩

set_option maxRecDepth 100000 in
theorem add_bad (S : Nat) (f l : Int) (w : World) (hc : w.cell? ⟨S, 0, none⟩ = some (.bool true)) (h : ¬ Fit f l) :
    Calls Try.prog 37 #[.pointer (some ⟨S, 0, none⟩), .int .i64 f, .int .i64 l] w fun e w' => e = .returned (.int .i64 2) ∧ w' = w := by
  have hw := wrong_yes S f l w hc h
  clear h
  go_enter Try.func37, Try.ntmps37
  go_wp2_with fail
  refine hw.mono ?_
  rintro e w' ⟨rfl, h⟩
  subst w'
  go_wp2
  go_ret
  exact ⟨rfl, rfl⟩

set_option maxRecDepth 100000 in
theorem eq50 (a b c d : Int) (w : World) : (binOp .eql 53 (.agg #[.int .i64 a, .int .i64 b]) (.agg #[.int .i64 c, .int .i64 d])).run Try.prog w = .ok (.bool (a == c && b == d)) w := by
  have u3 := Try.underlying3
  have a3 := Try.isAgg3
  have z3 := Try.sizeOf3
  have hS : Try.prog.underlying 53 = some (.struct (Try.prog.fieldsOf 53)) := by kernel_rfl
  have hp : Try.prog.stoodInHeld 53 = false := by kernel_rfl
  rw [run_eql_struct, show (10000 : Nat) = 9999 + 1 from rfl, run_equalIn_agg w 9999 53 _ _ hS hp]
  simp only [Program.fieldsOf, Try.underlying53]
  go_simp
  by_cases h1 : a = c <;> by_cases h2 : b = d <;> simp [h1, h2]

set_option maxRecDepth 100000 in
theorem Upd.refl {w w' : World} {S : Nat} {o : Option Addr} {c : Nat} {L : List (Int × Int)} (h : Se w S o c L) (hb : Below w.heap.size w w') : Upd w w' S o L :=
  ⟨o, c, h.below hb (Nat.le_refl _), Chg.below hb, .inl rfl⟩
set_option maxRecDepth 100000 in
theorem Upd.after {w w1 w' : World} {S : Nat} {o : Option Addr} {L : List (Int × Int)} (hb : Below w.heap.size w w1) (h : Upd w1 w' S o L) : Upd w w' S o L := by
  obtain ⟨o', c', h1, h2, h3⟩ := h
  refine ⟨o', c', h1, (Chg.below hb).trans h2, ?_⟩
  rcases h3 with h3 | ⟨g, hg, hl⟩
  · exact .inl h3
  · exact .inr ⟨g, hg, Nat.le_trans hb.size hl⟩

set_option maxRecDepth 100000 in
/-- Add where nothing is reached. -/
theorem add_none (S c : Nat) (o : Option Addr) (f l : Int) (A B : List (Int × Int)) (w : World) (h : Se w S o c (A ++ [] ++ B)) (hO : Ok (A ++ [] ++ B)) (hsz : (A ++ [] ++ B).length ≤ 65536) (hf : Fit f l)
    (hA : ∀ p ∈ A, p.2 < f - 1) (hB : ∀ p ∈ B, l + 1 < p.1) :
    Calls Try.prog 37 #[.pointer (some ⟨S, 0, none⟩), .int .i64 f, .int .i64 l] w fun e w' =>
      ((A ++ [(f, l)] ++ B).length ≤ 65536 ∧ e = .returned (.int .i64 0) ∧ Upd w w' S o (A ++ [(f, l)] ++ B)) ∨ (65536 < (A ++ [(f, l)] ++ B).length ∧ e = .returned (.int .i64 3) ∧ Upd w w' S o (A ++ [] ++ B)) := by
  obtain ⟨h1, h2, h3⟩ := id hf
  have hl1 : IntKind.i64.wrap (f - 1) = f - 1 := by rw [IntKind.wrap_i64]; omega
  have hl2 : IntKind.i64.wrap (l + 1) = l + 1 := by rw [IntKind.wrap_i64]; omega
  have hwr := wrong_no S f l w h.head.1 hf
  have hb0 : Below w.heap.size w (w.alloc (.cells #[.int .i64 f, .int .i64 l] 53)) := (Below.refl _ w).alloc (Nat.le_refl _) _
  have hrc := reached_c S c o (f - 1) (l + 1) A [] B (w.alloc (.cells #[.int .i64 f, .int .i64 l] 53)) (h.below hb0 (Nat.le_refl _)) hO (by omega) (by omega) hA (fun p hp => nomatch hp) hB
  have HS : Aside _ := h
  have ck0 : (w.alloc (.cells #[.int .i64 f, .int .i64 l] 53)).cell? ⟨w.heap.size, 0, none⟩ = some (.int .i64 f) := by simp [go_sem]
  have ck1 : (w.alloc (.cells #[.int .i64 f, .int .i64 l] 53)).cell? ⟨w.heap.size, 1, none⟩ = some (.int .i64 l) := by simp [go_sem]
  have hs0 : (w.alloc (.cells #[.int .i64 f, .int .i64 l] 53)).heap.size = w.heap.size + 1 := by simp
  simp only [List.length_nil, Nat.add_zero] at hrc
  have HZ : ∀ (w1 : World), Below w.heap.size w w1 → Calls Try.prog 55 #[.pointer (some ⟨S, 0, none⟩), .int .i64 A.length, .int .i64 A.length, .slice (some ⟨w1.heap.size, 0, none⟩) 1 1] (w1.alloc (.cells #[.int .i64 f, .int .i64 l] 53)) fun e w' =>
      ∃ r, e = .returned (.int .i64 r) ∧ (((A ++ [(f, l)] ++ B).length ≤ 65536 ∧ r = 0 ∧ Upd w w' S o (A ++ [(f, l)] ++ B)) ∨ (65536 < (A ++ [(f, l)] ++ B).length ∧ r = 3 ∧ Upd w w' S o (A ++ [] ++ B))) := by
    intro w1 hb1
    have hb2 : Below w.heap.size w (w1.alloc (.cells #[.int .i64 f, .int .i64 l] 53)) := hb1.alloc hb1.size _
    have h2 := h.below hb2 (Nat.le_refl _)
    have hV : At (w1.alloc (.cells #[.int .i64 f, .int .i64 l] 53)) w1.heap.size (fl [(f, l)] ++ []) := at_alloc w1 _
    have hVo : o ≠ some ⟨w1.heap.size, 0, none⟩ := by
      rintro rfl
      rcases h.2.1 with ⟨h', _⟩ | ⟨g, R, h', hA', _⟩
      · cases h'
      · obtain rfl : w1.heap.size = g := by simpa using h'
        have := hA'.lt; have := hb1.size; omega
    by_cases hbig : (A ++ [(f, l)] ++ B).length ≤ 65536
    · refine (replaceM_c S c 1 1 A.length A.length (A.length + B.length) o (some ⟨w1.heap.size, 0, none⟩) A [] B [(f, l)] _ h2 rfl rfl rfl rfl (by simpa using hsz) (by omega) (.inr ⟨_, [], rfl, hV, hVo⟩) (by simp) (by simp at hbig; omega)).mono ?_
      rintro e w' ⟨rfl, hu⟩
      exact ⟨0, rfl, .inl ⟨hbig, rfl, hu.after hb2⟩⟩
    · refine (replaceM_big S c 1 1 A.length A.length (A.length + B.length) o (some ⟨w1.heap.size, 0, none⟩) _ _ h2 (by simp) (by omega) (by omega) (by simpa using hsz) (by omega) (by simp at hbig; omega)).mono ?_
      rintro e w' ⟨rfl, rfl⟩
      exact ⟨3, rfl, .inr ⟨by omega, rfl, Upd.refl h hb2⟩⟩
  obtain ⟨P, hP⟩ : ∃ P : Int → World → Prop, P = fun r w' => (((A ++ [(f, l)] ++ B).length ≤ 65536 ∧ r = 0 ∧ Upd w w' S o (A ++ [(f, l)] ++ B)) ∨ (65536 < (A ++ [(f, l)] ++ B).length ∧ r = 3 ∧ Upd w w' S o (A ++ [] ++ B))) := ⟨_, rfl⟩
  have HZ' : ∀ (w1 : World), Below w.heap.size w w1 → Calls Try.prog 55 #[.pointer (some ⟨S, 0, none⟩), .int .i64 A.length, .int .i64 A.length, .slice (some ⟨w1.heap.size, 0, none⟩) 1 1] (w1.alloc (.cells #[.int .i64 f, .int .i64 l] 53)) fun e w' => ∃ r, e = .returned (.int .i64 r) ∧ P r w' := by rw [hP]; exact HZ
  suffices hgoal : Calls Try.prog 37 #[.pointer (some ⟨S, 0, none⟩), .int .i64 f, .int .i64 l] w fun e w' => ∃ r, e = .returned (.int .i64 r) ∧ P r w' by
    refine hgoal.mono ?_
    rintro e w' ⟨r, rfl, hp⟩
    rw [hP] at hp
    rcases hp with ⟨a, rfl, b⟩ | ⟨a, rfl, b⟩
    · exact .inl ⟨a, rfl, b⟩
    · exact .inr ⟨a, rfl, b⟩
  clear hP HZ h hO hA hB
  generalize A.length = I at hrc HZ'
  have HRC : Aside _ := hrc
  have HZZ : Aside _ := HZ'
  clear hrc HZ'
  go_enter Try.func37, Try.ntmps37
  go_wp2_with fail
  refine hwr.mono ?_
  clear hwr
  rintro e w' ⟨rfl, hh⟩
  subst w'
  go_wp2_with fail
  refine Calls.mono HRC.out ?_
  rintro e w1 ⟨rfl, hb1⟩
  have dk0 := (hb1.cell (p := ⟨w.heap.size, 0, none⟩) (by simp)).trans ck0
  have dk1 := (hb1.cell (p := ⟨w.heap.size, 1, none⟩) (by simp)).trans ck1
  have HB1 : Aside (Below w.heap.size w w1) := hb0.trans (hb1.mono (by simp))
  clear hb1 hb0 ck0 ck1
  go_wp2_with fail
  refine Calls.mono (HZZ.out w1 HB1.out) ?_
  rintro e w' ⟨r, rfl, hp⟩
  have HP : Aside _ := hp
  clear hp
  go_wp2
  go_ret
  exact ⟨r, rfl, HP.out⟩

end Go.Proofs.YtlobnlkpbenngaaR
