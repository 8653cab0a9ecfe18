/- ranges: Remove of a set that was made. -/
import Derived.Test.YtlobnlkpbenngaaRAdd2
namespace Go.Proofs.YtlobnlkpbenngaaR
open Go.RowKit Go.Shelf Go.Lib
set_option linter.unusedVariables false

set_option maxRecDepth 100000 in
theorem rem_bad (S : Nat) (f l : Int) (w : World) (hc : w.cell? ⟨S, 0, none⟩ = some (.bool true)) (h : ¬ Fit f l) :
    Calls Try.prog 45 #[.pointer (some ⟨S, 0, none⟩), .int .i64 f, .int .i64 l] w fun e w' => e = .returned (.int .i64 2) ∧ w' = w := by
  have hw := wrong_yes S f l w hc h
  clear h
  go_enter Try.func45, Try.ntmps45
  go_wp2_with fail
  refine hw.mono ?_
  rintro e w' ⟨rfl, h⟩
  subst w'
  go_wp2
  go_ret
  exact ⟨rfl, rfl⟩

set_option maxRecDepth 100000 in
theorem At.sub {w W : World} {g : Nat} {X : List Value} {B : Nat} (h : At w g X) (Y : Array Value) (hB : B ≤ g) : Below B w (w.setRow g Y) := ⟨rfl, rfl, rfl, by simp, fun k hk => setRow_other w g k Y (by omega)⟩

set_option maxRecDepth 100000 in
theorem append_one (w : World) (vo : Option Addr) (c T B : Nat) (x y : Int) (M : List (Int × Int)) (hr : Rs w vo c M) (hcm : c ≤ maxLen) (hM : M.length ≤ 2) (hT : At w T (fl [(x, y)] ++ []))
    (hown : ∀ g, vo = some ⟨g, 0, none⟩ → B ≤ g) (hB : B ≤ w.heap.size) :
    ∃ g c' w', (∀ ty, (Builtin.append_ #[47, 47] ty #[.slice vo M.length c, .slice (some ⟨T, 0, none⟩) 1 1]).run Try.prog w = .ok (.slice (some ⟨g, 0, none⟩) (M.length + 1) c') w') ∧ Rs w' (some ⟨g, 0, none⟩) c' (M ++ [(x, y)]) ∧ c' ≤ maxLen ∧ Below B w w' ∧ B ≤ g := by
  have hs : Src Try.prog 2 47 (.slice (some ⟨T, 0, none⟩) 1 1) 1 (fl [(x, y)]) w := src2 w ⟨T, 0, none⟩ 1 [(x, y)] (At.src (A := []) hT rfl)
  by_cases hroom : M.length + 1 ≤ c
  · rcases hr with ⟨rfl, rfl, rfl⟩ | ⟨g, R, rfl, hA, hR⟩
    · simp at hroom
    · have hrun := fun ty => run_append2_room w ty g M.length c _ _ 1 [(x, y)] hA hs hroom (by simp; omega) rfl
      refine ⟨g, c, _, hrun, .inr ⟨g, R.drop 2, rfl, ?_, by simp; omega⟩, hcm, hA.sub (W := w) _ (hown g rfl), hown g rfl⟩
      have e := over_eq (X := fl M ++ R) (P := fl M) (Q := R.take 2) (S := R.drop 2) (M := fl [(x, y)]) (o := M.length * 2) (by rw [List.append_assoc, List.take_append_drop]) (by simp) (by simp [fl]; omega)
      rw [e, fl_append]
      exact hA.set _
  · have hb : (vo = none ∧ M = []) ∨ ∃ g X, vo = some ⟨g, 0, none⟩ ∧ At w g (fl M ++ X) := by
      rcases hr with ⟨h1, h2, _⟩ | ⟨g, R, h1, h2, _⟩
      · exact .inl ⟨h1, h2⟩
      · exact .inr ⟨g, R, h1, h2⟩
    obtain ⟨c', hc', hrun0, hmax⟩ := run_append2_grow w 47 vo M.length c M [(x, y)] _ 1 rfl rfl hb hs (by omega) (by omega)
    refine ⟨w.heap.size, c', _, fun ty => hrun0, .inr ⟨w.heap.size, zs (c' - (M.length + 1)), rfl, ?_, by simp; omega⟩, hmax, (Below.refl B w).drew.alloc hB _, hB⟩
    rw [fl_append]
    exact at_alloc w.drew _

set_option maxRecDepth 100000 in
set_option maxHeartbeats 2000000 in
set_option maxRecDepth 100000 in
/-- The walk of Remove where spans are reached. -/
theorem rem_walk (S c g I J n : Nat) (f l a0 b1 : Int) (M : List (Int × Int)) (P : Int → World → Prop) (w : World) (hIJ : I < J) (hJn : J ≤ n) (hf : Fit f l) (hnn : n ≤ 65536)
    (hMe : M = (if a0 < f then [(a0, f - 1)] else []) ++ (if l < b1 then [(l + 1, b1)] else []))
    (hc0 : w.cell? ⟨S, 0, none⟩ = some (.bool true)) (hc1 : w.cell? ⟨S, 1, none⟩ = some (.slice (some ⟨g, 0, none⟩) n c))
    (hq0 : w.cell? ⟨g, I * 2, none⟩ = some (.int .i64 a0)) (hq2 : w.cell? ⟨g, (J - 1) * 2 + 1, none⟩ = some (.int .i64 b1))
    (hrc : Calls Try.prog 54 #[.pointer (some ⟨S, 0, none⟩), .int .i64 f, .int .i64 l] w fun e w' => e = .returned (.tuple #[.int .i64 I, .int .i64 J]) ∧ Below w.heap.size w w')
    (hgo : ∀ vo vc w1, Below w.heap.size w w1 → Rs w1 vo vc M → (∀ q, vo = some ⟨q, 0, none⟩ → w.heap.size ≤ q) → Calls Try.prog 55 #[.pointer (some ⟨S, 0, none⟩), .int .i64 I, .int .i64 J, .slice vo M.length vc] w1 fun e w' => ∃ r, e = .returned (.int .i64 r) ∧ P r w') :
    Calls Try.prog 45 #[.pointer (some ⟨S, 0, none⟩), .int .i64 f, .int .i64 l] w fun e w' => ∃ r, e = .returned (.int .i64 r) ∧ P r w' := by
  obtain ⟨h1, h2, h3⟩ := id hf
  have hl1 : IntKind.i64.wrap (f - 1) = f - 1 := by rw [IntKind.wrap_i64]; omega
  have hl2 : IntKind.i64.wrap (l + 1) = l + 1 := by rw [IntKind.wrap_i64]; omega
  have hwr := wrong_no S f l w hc0 hf
  have lS : S < w.heap.size := World.block_lt_of_cell? _ _ hc0
  have lg : g < w.heap.size := World.block_lt_of_cell? _ _ hq0
  have HRC : Aside _ := hrc
  have HGO : Aside _ := hgo
  have hJ1 : IntKind.i64.wrap ((J : Int) - 1) = ((J - 1 : Nat) : Int) := by rw [IntKind.wrap_i64]; omega
  have hJ2 : ((J - 1 : Nat) : Int) < (n : Int) := by omega
  have hJ3 : J - 1 < n := by omega
  have hI2 : I < n := by omega
  have hne : ¬ ((I : Int) = (J : Int)) := by omega
  clear hrc hgo hf
  by_cases hx : a0 < f <;> by_cases hy : l < b1
  all_goals
    simp only [hx, hy, if_true, if_false, List.nil_append, List.append_nil, List.cons_append] at hMe
    subst hMe
    go_enter Try.func45, Try.ntmps45
    go_wp2_with fail
    refine hwr.mono ?_
    clear hwr
    rintro e w' ⟨rfl, hh⟩
    subst w'
    go_wp2_with fail
    refine Calls.mono HRC.out ?_
    clear HRC
    rintro e w1 ⟨rfl, hb1⟩
    have HB1 : Aside (Below w.heap.size w w1) := hb1
    have d1 := (HB1.out.cell (p := ⟨S, 1, none⟩) lS).trans hc1
    have dq0 := (HB1.out.cell (p := ⟨g, I * 2, none⟩) lg).trans hq0
    have dq2 := (HB1.out.cell (p := ⟨g, (J - 1) * 2 + 1, none⟩) lg).trans hq2
    clear hb1 hc0 hc1 hq0 hq2
  · -- both
    have hT1 : At (w1.alloc (.cells #[.int .i64 a0, .int .i64 (f - 1)] 53)) w1.heap.size (fl [(a0, f - 1)] ++ []) := at_alloc w1 _
    have hB1' : Below w.heap.size w (w1.alloc (.cells #[.int .i64 a0, .int .i64 (f - 1)] 53)) := HB1.out.alloc HB1.out.size _
    obtain ⟨g1, c1, w2, hrun1, hr1, hm1, hbb1, hg1⟩ := append_one _ none 0 w1.heap.size w.heap.size a0 (f - 1) [] (.inl ⟨rfl, rfl, rfl⟩) (by unfold maxLen; omega) (by simp) hT1 (fun q h => nomatch h) hB1'.size
    have hB2 := hB1'.trans hbb1
    have hT2 : At (w2.alloc (.cells #[.int .i64 (l + 1), .int .i64 b1] 53)) w2.heap.size (fl [(l + 1, b1)] ++ []) := at_alloc w2 _
    have hB2' : Below w.heap.size w (w2.alloc (.cells #[.int .i64 (l + 1), .int .i64 b1] 53)) := hB2.alloc hB2.size _
    obtain ⟨g2, c2, w3, hrun2, hr2, hm2, hbb2, hg2⟩ := append_one _ (some ⟨g1, 0, none⟩) c1 w2.heap.size w.heap.size (l + 1) b1 [(a0, f - 1)] (hr1.below ((Below.refl w2.heap.size w2).alloc (Nat.le_refl _) _) (Nat.le_refl _)) hm1 (by simp) hT2 (fun q h => by simp at h; omega) hB2'.size
    have hB3 := hB2'.trans hbb2
    have hfin := HGO.out (some ⟨g2, 0, none⟩) c2 w3 hB3 hr2 (fun q h => by simp at h; omega)
    simp only [List.length_nil, List.length_cons, Nat.zero_add] at hrun1 hrun2
    have d1' := (hB2.cell (p := ⟨S, 1, none⟩) lS).trans ((HB1.out.cell (p := ⟨S, 1, none⟩) lS).symm.trans d1)
    have dq2' := (hB2.cell (p := ⟨g, (J - 1) * 2 + 1, none⟩) lg).trans ((HB1.out.cell (p := ⟨g, (J - 1) * 2 + 1, none⟩) lg).symm.trans dq2)
    have HF : Aside _ := hfin
    clear hfin hr1 hT1 hB1' hB2 hbb1 hr2 hT2 hB2' hB3 hbb2 HGO HB1
    go_wp2_with (at_builtin; first
      | (refine Lib.wpList_append_run _ rfl _ _ _ _ rfl _ _ rfl rfl _ _ (hrun1 _) ?_; clear hrun1)
      | (refine Lib.wpList_append_run _ rfl _ _ _ _ rfl _ _ rfl rfl _ _ (hrun2 _) ?_; clear hrun2))
    refine Calls.mono HF.out ?_
    rintro e w' ⟨r, rfl, hp⟩
    have HP : Aside _ := hp
    clear hp
    go_wp2
    go_ret
    exact ⟨r, rfl, HP.out⟩
  · -- begin
    have hT1 : At (w1.alloc (.cells #[.int .i64 a0, .int .i64 (f - 1)] 53)) w1.heap.size (fl [(a0, f - 1)] ++ []) := at_alloc w1 _
    have hB1' : Below w.heap.size w (w1.alloc (.cells #[.int .i64 a0, .int .i64 (f - 1)] 53)) := HB1.out.alloc HB1.out.size _
    obtain ⟨g1, c1, w2, hrun1, hr1, hm1, hbb1, hg1⟩ := append_one _ none 0 w1.heap.size w.heap.size a0 (f - 1) [] (.inl ⟨rfl, rfl, rfl⟩) (by unfold maxLen; omega) (by simp) hT1 (fun q h => nomatch h) hB1'.size
    have hB2 := hB1'.trans hbb1
    have hfin := HGO.out (some ⟨g1, 0, none⟩) c1 w2 hB2 hr1 (fun q h => by simp at h; omega)
    simp only [List.length_nil, Nat.zero_add] at hrun1
    have d1' := (hB2.cell (p := ⟨S, 1, none⟩) lS).trans ((HB1.out.cell (p := ⟨S, 1, none⟩) lS).symm.trans d1)
    have dq2' := (hB2.cell (p := ⟨g, (J - 1) * 2 + 1, none⟩) lg).trans ((HB1.out.cell (p := ⟨g, (J - 1) * 2 + 1, none⟩) lg).symm.trans dq2)
    have HF : Aside _ := hfin
    clear hfin hr1 hT1 hB1' hB2 hbb1 HGO HB1
    go_wp2_with (at_builtin; refine Lib.wpList_append_run _ rfl _ _ _ _ rfl _ _ rfl rfl _ _ (hrun1 _) ?_; clear hrun1)
    refine Calls.mono HF.out ?_
    rintro e w' ⟨r, rfl, hp⟩
    have HP : Aside _ := hp
    clear hp
    go_wp2
    go_ret
    exact ⟨r, rfl, HP.out⟩
  · -- end
    have hT1 : At (w1.alloc (.cells #[.int .i64 (l + 1), .int .i64 b1] 53)) w1.heap.size (fl [(l + 1, b1)] ++ []) := at_alloc w1 _
    have hB1' : Below w.heap.size w (w1.alloc (.cells #[.int .i64 (l + 1), .int .i64 b1] 53)) := HB1.out.alloc HB1.out.size _
    obtain ⟨g1, c1, w2, hrun1, hr1, hm1, hbb1, hg1⟩ := append_one _ none 0 w1.heap.size w.heap.size (l + 1) b1 [] (.inl ⟨rfl, rfl, rfl⟩) (by unfold maxLen; omega) (by simp) hT1 (fun q h => nomatch h) hB1'.size
    have hB2 := hB1'.trans hbb1
    have hfin := HGO.out (some ⟨g1, 0, none⟩) c1 w2 hB2 hr1 (fun q h => by simp at h; omega)
    simp only [List.length_nil, Nat.zero_add] at hrun1
    have HF : Aside _ := hfin
    clear hfin hr1 hT1 hB1' hB2 hbb1 HGO HB1
    go_wp2_with (at_builtin; refine Lib.wpList_append_run _ rfl _ _ _ _ rfl _ _ rfl rfl _ _ (hrun1 _) ?_; clear hrun1)
    refine Calls.mono HF.out ?_
    rintro e w' ⟨r, rfl, hp⟩
    have HP : Aside _ := hp
    clear hp
    go_wp2
    go_ret
    exact ⟨r, rfl, HP.out⟩
  · -- none
    have hfin := HGO.out none 0 w1 HB1.out (.inl ⟨rfl, rfl, rfl⟩) (fun q h => nomatch h)
    have HF : Aside _ := hfin
    clear hfin  HGO HB1
    go_wp2_with fail
    refine Calls.mono HF.out ?_
    rintro e w' ⟨r, rfl, hp⟩
    have HP : Aside _ := hp
    clear hp
    go_wp2
    go_ret
    exact ⟨r, rfl, HP.out⟩

/-- What Remove answers, and leaves. -/
def RemP (w : World) (S : Nat) (o : Option Addr) (L : List (Int × Int)) (f l : Int) (r : Int) (w' : World) : Prop :=
  ∃ L', Ok L' ∧ (∀ n, In n L' ↔ In n L ∧ ¬ (f ≤ n ∧ n ≤ l)) ∧ ((L'.length ≤ 65536 ∧ r = 0 ∧ Upd w w' S o L') ∨ (65536 < L'.length ∧ r = 3 ∧ Upd w w' S o L))

set_option maxRecDepth 100000 in
theorem rem_none (S c I : Nat) (o : Option Addr) (f l : Int) (w : World) (hf : Fit f l) (hc0 : w.cell? ⟨S, 0, none⟩ = some (.bool true))
    (hrc : Calls Try.prog 54 #[.pointer (some ⟨S, 0, none⟩), .int .i64 f, .int .i64 l] w fun e w' => e = .returned (.tuple #[.int .i64 I, .int .i64 I]) ∧ Below w.heap.size w w') :
    Calls Try.prog 45 #[.pointer (some ⟨S, 0, none⟩), .int .i64 f, .int .i64 l] w fun e w' => e = .returned (.int .i64 0) ∧ Below w.heap.size w w' := by
  have hwr := wrong_no S f l w hc0 hf
  go_enter Try.func45, Try.ntmps45
  go_wp2_with fail
  refine hwr.mono ?_
  clear hwr
  rintro e w' ⟨rfl, hh⟩
  subst w'
  go_wp2_with fail
  refine hrc.mono ?_
  rintro e w1 ⟨rfl, hb1⟩
  go_wp2
  go_ret
  exact ⟨rfl, hb1⟩

set_option maxRecDepth 100000 in
theorem rem_c (S c : Nat) (o : Option Addr) (f l : Int) (L : List (Int × Int)) (w : World) (h : Se w S o c L) (hO : Ok L) (hsz : L.length ≤ 65536) (hf : Fit f l) :
    Calls Try.prog 45 #[.pointer (some ⟨S, 0, none⟩), .int .i64 f, .int .i64 l] w fun e w' => ∃ r, e = .returned (.int .i64 r) ∧ RemP w S o L f l r w' := by
  obtain ⟨h1, h2, h3⟩ := id hf
  obtain ⟨A, D, B, rfl, hA, hD, hB⟩ := parts L f l hO (by omega)
  have hrc := reached_c S c o f l A D B w h hO (by omega) (by omega) hA hD hB
  cases D with
  | nil =>
    obtain ⟨k1, k2⟩ := rem_ok A [] B [] f l hO h2 hA hD hB Ok_nil (fun p hp => nomatch hp) (fun n => by simp [In_nil])
    refine (rem_none S c A.length o f l w hf h.head.1 (by simpa using hrc)).mono ?_
    rintro e w' ⟨rfl, hb⟩
    exact ⟨0, rfl, _, k1, k2, .inl ⟨hsz, rfl, Upd.refl h hb⟩⟩
  | cons d0 D' =>
    obtain ⟨hAD, okB, hADB⟩ := Ok_append.1 hO
    obtain ⟨okA, okD, hAD2⟩ := Ok_append.1 hAD
    obtain ⟨_, d0lt, okD'⟩ := Ok_cons.1 okD
    obtain ⟨g, R, rfl, hAt, hR⟩ : ∃ g R, o = some ⟨g, 0, none⟩ ∧ At w g (fl (A ++ d0 :: D' ++ B) ++ R) ∧ R.length + (A ++ d0 :: D' ++ B).length * 2 = c * 2 := by
      rcases h.2.1 with ⟨_, hh, _⟩ | hh
      · simp at hh
      · exact hh
    obtain ⟨dl, hdl⟩ : ∃ dl, dl = (d0 :: D').getLast (by simp) := ⟨_, rfl⟩
    have hdm : dl ∈ d0 :: D' := by rw [hdl]; exact List.getLast_mem _
    have hlast : ∀ p ∈ d0 :: D', p = dl ∨ p.2 + 2 ≤ dl.1 := by
      intro p hp
      have hs := List.dropLast_concat_getLast (l := d0 :: D') (by simp)
      rw [← hdl] at hs
      rw [← hs] at hp okD
      rcases List.mem_append.1 hp with hp | hp
      · exact .inr ((Ok_append.1 okD).2.2 p hp dl (by simp))
      · simp at hp; exact .inl hp
    have hfirst : ∀ p ∈ d0 :: D', p = d0 ∨ d0.2 + 2 ≤ p.1 := by
      intro p hp
      rcases List.mem_cons.1 hp with rfl | hp
      · exact .inl rfl
      · exact .inr (d0lt p hp)
    have b0 := okD.2 d0 (by simp)
    have bl := okD.2 dl hdm
    have g0 := hD d0 (by simp)
    have gl := hD dl hdm
    have lI : A.length < (A ++ d0 :: D' ++ B).length := by simp
    have lJ : A.length + (D'.length + 1) - 1 < (A ++ d0 :: D' ++ B).length := by simp; omega
    have gI : (A ++ d0 :: D' ++ B)[A.length] = d0 := by simp
    have gJ : (A ++ d0 :: D' ++ B)[A.length + (D'.length + 1) - 1] = dl := by
      rw [List.getElem_append_left (by simp), List.getElem_append_right (by omega), hdl, List.getLast_eq_getElem]
      congr 1
      simp
    have c0 := cells_at hAt _ lI
    have c1 := (cells_at hAt _ lJ).2
    rw [gI] at c0
    rw [gJ] at c1
    obtain ⟨M, hM⟩ : ∃ M, M = (if d0.1 < f then [(d0.1, f - 1)] else []) ++ (if l < dl.2 then [(l + 1, dl.2)] else []) := ⟨_, rfl⟩
    have hMm : ∀ p, p ∈ M ↔ (d0.1 < f ∧ p = (d0.1, f - 1)) ∨ (l < dl.2 ∧ p = (l + 1, dl.2)) := by
      intro p
      rw [hM]
      by_cases x1 : d0.1 < f <;> by_cases x2 : l < dl.2 <;> simp [x1, x2]
    have okM : Ok M := by
      rw [hM]
      by_cases x1 : d0.1 < f <;> by_cases x2 : l < dl.2 <;> simp only [x1, x2, if_true, if_false, List.nil_append, List.append_nil, List.cons_append]
      · refine Ok_cons.2 ⟨⟨b0.1, by show d0.1 ≤ f - 1; omega, by show f - 1 ≤ _; omega⟩, fun q hq => ?_, Ok_cons.2 ⟨⟨by show 0 ≤ l + 1; omega, by show l + 1 ≤ dl.2; omega, bl.2.2⟩, (fun q hq => nomatch hq), Ok_nil⟩⟩
        simp at hq; subst hq; show f - 1 + 2 ≤ l + 1; omega
      · exact Ok_cons.2 ⟨⟨b0.1, by show d0.1 ≤ f - 1; omega, by show f - 1 ≤ _; omega⟩, (fun q hq => nomatch hq), Ok_nil⟩
      · exact Ok_cons.2 ⟨⟨by show 0 ≤ l + 1; omega, by show l + 1 ≤ dl.2; omega, bl.2.2⟩, (fun q hq => nomatch hq), Ok_nil⟩
      · exact Ok_nil
    have hMi : ∀ p ∈ M, ∃ q ∈ d0 :: D', q.1 ≤ p.1 ∧ p.2 ≤ q.2 := by
      intro p hp
      rcases (hMm p).1 hp with ⟨x, rfl⟩ | ⟨x, rfl⟩
      · exact ⟨d0, by simp, Int.le_refl _, by show f - 1 ≤ d0.2; omega⟩
      · exact ⟨dl, hdm, by show dl.1 ≤ l + 1; omega, Int.le_refl _⟩
    have hMn : ∀ n, In n M ↔ In n (d0 :: D') ∧ ¬ (f ≤ n ∧ n ≤ l) := by
      intro n
      constructor
      · rintro ⟨p, hp, q1, q2⟩
        rcases (hMm p).1 hp with ⟨x, rfl⟩ | ⟨x, rfl⟩
        · have q1' : d0.1 ≤ n := q1
          have q2' : n ≤ f - 1 := q2
          exact ⟨⟨d0, by simp, by omega, by omega⟩, by omega⟩
        · have q1' : l + 1 ≤ n := q1
          have q2' : n ≤ dl.2 := q2
          exact ⟨⟨dl, hdm, by omega, by omega⟩, by omega⟩
      · rintro ⟨⟨p, hp, q1, q2⟩, hno⟩
        by_cases hn : n < f
        · have e : p = d0 := by
            rcases hfirst p hp with e | e
            · exact e
            · omega
          subst e
          exact ⟨(p.1, f - 1), (hMm _).2 (.inl ⟨by omega, rfl⟩), q1, by show n ≤ f - 1; omega⟩
        · have e : p = dl := by
            rcases hlast p hp with e | e
            · exact e
            · omega
          subst e
          exact ⟨(l + 1, p.2), (hMm _).2 (.inr ⟨by omega, rfl⟩), by show l + 1 ≤ n; omega, q2⟩
    have hMl : M.length ≤ 2 := by
      rw [hM]
      by_cases x1 : d0.1 < f <;> by_cases x2 : l < dl.2 <;> simp [x1, x2]
    obtain ⟨k1, k2⟩ := rem_ok A (d0 :: D') B M f l hO h2 hA hD hB okM hMi hMn
    refine rem_walk S c g A.length (A.length + (D'.length + 1)) (A ++ d0 :: D' ++ B).length f l d0.1 dl.2 M _ w (by omega) (by simp) hf hsz hM h.head.1 h.head.2 c0.1 c1 hrc ?_
    intro vo vc w1 hb1 hrs hown
    have h1' := h.below hb1 (Nat.le_refl _)
    by_cases hbig : (A ++ M ++ B).length ≤ 65536
    · have hv : Sv w1 (some ⟨g, 0, none⟩) vo M := by
        rcases hrs with ⟨e1, e2, _⟩ | ⟨q, Y, e1, hq, _⟩
        · exact .inl ⟨e1, e2⟩
        · refine .inr ⟨q, Y, e1, hq, fun e => ?_⟩
          obtain rfl : g = q := by simpa using e
          have := hown g e1; have := hAt.lt; omega
      refine (replaceM_c S c vc M.length A.length (A.length + (D'.length + 1)) (A.length + (D'.length + 1) + B.length) (some ⟨g, 0, none⟩) vo A (d0 :: D') B M _ h1' rfl (by simp) rfl rfl (by simp at hsz; omega) hMl hv (by simp) (by simp at hbig; omega)).mono ?_
      rintro e w' ⟨rfl, hu⟩
      exact ⟨0, rfl, _, k1, k2, .inl ⟨hbig, rfl, hu.after hb1⟩⟩
    · refine (replaceM_big S c vc M.length A.length (A.length + (D'.length + 1)) (A.length + (D'.length + 1) + B.length) (some ⟨g, 0, none⟩) vo _ _ h1' (by simp; omega) (by omega) (by omega) (by simp at hsz; omega) hMl (by simp at hbig; omega)).mono ?_
      rintro e w' ⟨rfl, rfl⟩
      exact ⟨3, rfl, _, k1, k2, .inr ⟨by omega, rfl, Upd.refl h hb1⟩⟩

end Go.Proofs.YtlobnlkpbenngaaR
