/- outbox: marks: newMarks, any, least, and remove of marks that are none. -/
import Derived.Test.YtfgfomkhlhiiiaaAdW
namespace Go.Proofs.YtfgfomkhlhiiiaaR
open Go.RowKit Go.Shelf Go.Lib Go.Maps
set_option linter.unusedVariables false

attribute [local go_sem] Oper.semAt_some

def RemI (w : World) (M mb fs B Bt : Nat) (f to_ : Int) (pre : List (Part f to_)) (W : World) : Prop :=
  Below w.heap.size w W ∧ W.heap[B]? = some (.cells #[.pointer (some ⟨M, 0, none⟩)] 53 (0, 0)) ∧ W.heap[Bt]? = some (.cells #[.int .i64 to_] 3 (0, 0))
theorem RemI_own {w : World} {M mb fs B Bt : Nat} {f to_ : Int} (n : Nat) (hn : w.heap.size ≤ n) : OwnFrom n (RemI w M mb fs B Bt f to_) := by
  rintro s A B' row ⟨h4, h5, h6⟩ hg hr
  refine ⟨h4.trans ⟨hg.os, hg.tape, hg.output, hg.size, fun k hk => hg.block k (Nat.lt_of_lt_of_le hk h4.size) (fun e => by have := (hr k e.symm).1; omega)⟩, kept_cells h5 hg hr, kept_cells h6 hg hr⟩

set_option maxRecDepth 100000 in
set_option maxHeartbeats 2000000 in
theorem remv_none {φ : Nat → Nat × Nat} {t : Nat} {M mb fs c : Nat} {S : Nat → Option Nat} (f to_ : Int) (w : World) (h : Mk φ t w M mb fs c S (fun _ => False)) (h0 : 0 ≤ f) (hft : f ≤ to_) (hto : to_ ≤ 4611686018427387903)
    :
    Calls Try.prog 31 #[.pointer (some ⟨M, 0, none⟩), .int .i64 f, .int .i64 to_] w fun e w' => (∃ v, e = .returned v) ∧ Below w.heap.size w w' := by
  refine callsIn_wide.1 (callsIn_of_wp_marks (F := Fence.wide) (n := 5) Try.func31 rfl trivial ?_ rfl)
  refine wpIn_wide.2 ?_
  simp only [Try.ntmps31, List.size_toArray, List.length_cons, List.length_nil, Nat.reduceAdd, Nat.reduceSub, Array.replicate_succ, Array.replicate_zero, List.push_toArray, List.append_toArray, List.nil_append, List.cons_append]
  go_wp2_with fail
  refine (cut_c _ _ _).mono ?_
  rintro e w' ⟨rfl, hh⟩
  subst w'
  go_wp2
  have hmbw := h.1.mb_lt
  have hB : (((w.alloc (.cells #[.pointer (some ⟨M, 0, none⟩)] 53)).alloc (.cells #[.int .i64 f] 3)).alloc (.cells #[.int .i64 to_] 3)).heap[w.heap.size]? = some (.cells #[.pointer (some ⟨M, 0, none⟩)] 53 (0, 0)) := by
    rw [Below.heap_alloc _ _ _ (by simp; omega), Below.heap_alloc _ _ _ (by simp)]; exact World.alloc_heap_new w _
  have hBf : (((w.alloc (.cells #[.pointer (some ⟨M, 0, none⟩)] 53)).alloc (.cells #[.int .i64 f] 3)).alloc (.cells #[.int .i64 to_] 3)).heap[w.heap.size + 1]? = some (.cells #[.int .i64 f] 3 (0, 0)) := by
    rw [Below.heap_alloc _ _ _ (by simp)]
    have := World.alloc_heap_new (w.alloc (.cells #[.pointer (some ⟨M, 0, none⟩)] 53)) (.cells #[.int .i64 f] 3)
    rwa [World.size_alloc] at this
  have hBt : (((w.alloc (.cells #[.pointer (some ⟨M, 0, none⟩)] 53)).alloc (.cells #[.int .i64 f] 3)).alloc (.cells #[.int .i64 to_] 3)).heap[w.heap.size + 1 + 1]? = some (.cells #[.int .i64 to_] 3 (0, 0)) := by
    have := World.alloc_heap_new ((w.alloc (.cells #[.pointer (some ⟨M, 0, none⟩)] 53)).alloc (.cells #[.int .i64 f] 3)) (.cells #[.int .i64 to_] 3)
    simpa using this
  have hz : (((w.alloc (.cells #[.pointer (some ⟨M, 0, none⟩)] 53)).alloc (.cells #[.int .i64 f] 3)).alloc (.cells #[.int .i64 to_] 3)).heap.size = w.heap.size + 3 := by simp
  have hb0 : Below w.heap.size w (((w.alloc (.cells #[.pointer (some ⟨M, 0, none⟩)] 53)).alloc (.cells #[.int .i64 f] 3)).alloc (.cells #[.int .i64 to_] 3)) :=
    (((Below.refl _ w).alloc (Nat.le_refl _) _).alloc (by simp) _).alloc (by simp; omega) _
  generalize (((w.alloc (.cells #[.pointer (some ⟨M, 0, none⟩)] 53)).alloc (.cells #[.int .i64 f] 3)).alloc (.cells #[.int .i64 to_] 3)) = W0 at *
  have hM0 : W0.heap[M]? = some (.cells #[.map (some mb), .pointer (some ⟨fs, 0, none⟩)] 84 (0, 0)) := (hb0.block M (Array.getElem?_eq_some_iff.1 h.1.hM).1).trans h.1.hM
  have hSn : ∀ n, S n = none := by
    intro n
    cases hS : S n with
    | none => rfl
    | some s => obtain ⟨j, hj, _⟩ := h.2 n s hS; exact False.elim hj
  have hI0 : RemI w M mb fs (w.heap.size) (w.heap.size + 1 + 1) f to_ [] W0 := ⟨hb0, hB, hBt⟩
  refine (wpIn_wide (n := 5)).1 ?_
  refine wpIn_rangeFunc_ownH rfl (by decide) (gf := 58) (lb := #[.pointer (some ⟨w.heap.size + 1, 0, none⟩), .pointer (some ⟨w.heap.size + 1 + 1, 0, none⟩)]) rfl trivial (enters_of Try.func58 (by kernel_rfl) rfl)
    (cut_stops (w.heap.size + 1) (w.heap.size + 1 + 1) f to_ W0 h0 hto hft (by simp [World.cell?, hBf]) (by simp [World.cell?, hBt]))
    Kt.trans (Kt.put (by omega)) (Below.refl _ _) (fun _ => rfl)
    (RemI w M mb fs w.heap.size (w.heap.size + 1 + 1) f to_) (fun _ _ _ => False) (RemI_own _ (by omega)) (fun _ _ _ _ _ hs _ _ => hs)
    hI0
    (fun x a' W => ∃ Bp, a' = { tmps := #[.pointer (some ⟨M, 0, none⟩), .int .i64 f, .int .i64 to_, .pointer (some ⟨w.heap.size, 0, none⟩), undef, undef, .int .i64 (x.a / 1024), .pointer (some ⟨Bp, 0, none⟩), undef, .int .i64 f, .int .i64 to_, .func (.func 58) #[] #[.pointer (some ⟨w.heap.size + 1, 0, none⟩), .pointer (some ⟨w.heap.size + 1 + 1, 0, none⟩)], .int .i64 (x.a / 1024), .agg #[.int .i64 x.a, .int .i64 (x.e - 1)], undef, undef, undef, undef, undef, undef, undef, undef, undef, undef, undef, undef, undef, undef, undef, undef, undef, undef, undef, undef, undef, undef, undef, undef, undef, undef, undef, undef, undef], defers := [] })
    (fun x a' s A B row hs hg hr => hs) ?assign ?body ?done ?stop
  case assign =>
    rintro l pre x W K hi hK
    have hi' := hi
    obtain ⟨h4, h5, h6⟩ := hi'
    have hK' := hK { tmps := #[.pointer (some ⟨M, 0, none⟩), .int .i64 f, .int .i64 to_, .pointer (some ⟨w.heap.size, 0, none⟩), undef, undef, .int .i64 (x.a / 1024), .pointer (some ⟨W.heap.size, 0, none⟩), undef, .int .i64 f, .int .i64 to_, .func (.func 58) #[] #[.pointer (some ⟨w.heap.size + 1, 0, none⟩), .pointer (some ⟨w.heap.size + 1 + 1, 0, none⟩)], .int .i64 (x.a / 1024), .agg #[.int .i64 x.a, .int .i64 (x.e - 1)], undef, undef, undef, undef, undef, undef, undef, undef, undef, undef, undef, undef, undef, undef, undef, undef, undef, undef, undef, undef, undef, undef, undef, undef, undef, undef, undef, undef, undef], defers := [] }
      (W.alloc (.cells #[.int .i64 x.a, .int .i64 (x.e - 1)] 77)) ((KeepsOthers.alloc _ _).from _)
      (show World.cell? _ _ = _ from World.cell?_alloc_lt _ _ _ (show w.heap.size + 1 + 1 < _ from (Array.getElem?_eq_some_iff.1 h6).1))
      (OwnFrom.alloc (RemI_own W0.heap.size (by omega)) _ hi)
      ⟨W.heap.size, rfl⟩
    simp only [encP]
    gi_wp2
    exact hK'
  case body =>
    rintro l pre x a' W hl ⟨r, hr⟩ ⟨h4, h5, hBtW⟩ ⟨Bp, rfl⟩ hlt
    have x0 := x.h0
    have x1 := x.h1
    have x3 := x.h3
    obtain ⟨n, hn⟩ : ∃ n : Nat, x.a / 1024 = (n : Int) := ⟨(x.a / 1024).toNat, by omega⟩
    have hn2 : n ≤ 4503599627370495 := by omega
    rw [hn]
    refine wpIn_block ?_
    have hq : Mq φ t W M mb fs c S (fun n => (S n).isSome = true) (fun _ => False) := h.1.keep (fun k hk _ _ => h4.block k hk)
    have cB : W.cell? ⟨w.heap.size, 0, none⟩ = some (.pointer (some ⟨M, 0, none⟩)) := by simp [World.cell?, h5]
    have cM0 : W.cell? ⟨M, 0, none⟩ = some (.map (some mb)) := by simp [World.cell?, hq.hM]
    have hlk := hq.look hn2
    rw [hSn n] at hlk
    simp only [ptrO] at hlk
    have RES : Aside (KeepsFrom W0.heap.size W W ∧ Kt (w.heap.size + 1 + 1) W W ∧ RemI w M mb fs w.heap.size (w.heap.size + 1 + 1) f to_ (pre ++ [x]) W) := ⟨⟨Nat.le_refl _, fun _ _ _ h _ => h⟩, rfl, h4, h5, hBtW⟩
    clear h4 h5 hBtW hq h hSn hI0 hB hBf hBt hM0
    gi_wp2
    exact RES.out
  case done =>
    rintro D ys W hD hys hi hK
    have hP := OwnFrom.putObj (RemI_own W0.heap.size (by omega)) (.deferred none) hi hD hK rfl
    have RES : Aside (Below w.heap.size w (W.putObj D (.deferred none))) := hP.1
    clear hi hys hP
    go_wp2
    refine ⟨by simp, .inl ⟨_, _, rfl, run_takeDeferred hK, ?_⟩⟩
    exact ⟨_, results_none rfl _ _ _, ⟨_, rfl⟩, RES.out⟩
  case stop =>
    rintro D cd pre W _ _ hF _
    exact hF.elim

theorem newMarks_c (φ : Nat → Nat × Nat) (t : Nat) (w : World) : Calls Try.prog 24 #[] w fun e w' => e = .returned (.pointer (some ⟨w.heap.size + 1 + 1, 0, none⟩)) ∧ Below w.heap.size w w' ∧ w'.heap.size = w.heap.size + 3 ∧
    ∃ φ', Mk φ' t w' (w.heap.size + 1 + 1) w.heap.size (w.heap.size + 1) 0 (fun _ => none) (fun _ => False) ∧ ∀ k, k < w.heap.size → φ' k = φ k := by
  have hq : Aside (Mk (fun k => if k < w.heap.size then φ k else if k = w.heap.size then (t, 1) else if k = w.heap.size + 1 then (t, 2) else (t, 0)) t (((w.alloc (.map #[] 0)).alloc (.cells #[.bool true, .slice none 0 0] 95)).alloc (.cells #[.map (some w.heap.size), .pointer (some ⟨w.heap.size + 1, 0, none⟩)] 84)) (w.heap.size + 1 + 1) w.heap.size (w.heap.size + 1) 0 (fun _ => none) (fun _ => False)) := by
    refine ⟨⟨?_, ?_, (fun n s hs => nomatch hs), (fun j hj => False.elim hj), ?_, ?_, ?_⟩, (fun n s hs => nomatch hs)⟩
    · have := World.alloc_heap_new ((w.alloc (.map #[] 0)).alloc (.cells #[.bool true, .slice none 0 0] 95)) (.cells #[.map (some w.heap.size), .pointer (some ⟨w.heap.size + 1, 0, none⟩)] 84)
      simpa using this
    · refine ⟨.map [], [], ownsMap_same (World.ownsMap_made w Try.prog 3 Rv) ?_, tidy_empty, rfl, List.nodup_nil, fun n => by simp, fun n hn => ⟨rfl, rfl⟩⟩
      rw [Below.heap_alloc _ _ _ (by simp; omega), Below.heap_alloc _ _ _ (by simp)]
    · have hm := new_my 0 (w.alloc (.map #[] 0)) (Nat.zero_le _)
      rw [World.size_alloc] at hm
      refine ⟨none, [], hm.same (Below.heap_alloc _ _ _ (by simp)) (fun g hg => nomatch hg), fun j => ?_, ?_, fun g hg => nomatch hg⟩
      · simp [In_nil]
      · rw [if_neg (by omega), if_neg (by omega), if_pos rfl]
    · rw [if_neg (by omega), if_neg (by omega), if_neg (by omega)]
    · rw [if_neg (by omega), if_pos rfl]
  have hb : Aside (Below w.heap.size w (((w.alloc (.map #[] 0)).alloc (.cells #[.bool true, .slice none 0 0] 95)).alloc (.cells #[.map (some w.heap.size), .pointer (some ⟨w.heap.size + 1, 0, none⟩)] 84))) :=
    (((Below.refl _ w).alloc (Nat.le_refl _) _).alloc (by simp) _).alloc (by simp; omega) _
  have hmm : ∀ w : World, (Instr.makeMap 80 none).run Try.prog w = .ok (.map (some w.heap.size)) (w.alloc (.map #[] 0)) := fun w => rfl
  go_enter Try.func24, Try.ntmps24
  go_wp2_with fail
  refine (new_c _).mono ?_
  rintro e w' ⟨rfl, hh⟩
  subst w'
  go_wp2
  go_ret
  exact ⟨by simp, hb.out, by simp, _, hq.out, fun k hk => if_pos hk⟩

section
variable {φ : Nat → Nat × Nat} {t : Nat} {w : World} {M mb fs c : Nat} {S : Nat → Option Nat} {V : Int → Prop}
theorem any_c (h : Mk φ t w M mb fs c S V) : Calls Try.prog 44 #[.pointer (some ⟨M, 0, none⟩)] w fun e w' => ∃ b, e = .returned (.bool b) ∧ w' = w ∧ Aside (b = true ↔ ∃ j, V j) := by
  obtain ⟨z, hl, hz⟩ := h.len 3
  have cM0 : w.cell? ⟨M, 0, none⟩ = some (.map (some mb)) := by simp [World.cell?, h.1.hM]
  have HZ : Aside _ := hz
  clear hz h
  go_enter Try.func44, Try.ntmps44
  go_wp2
  go_ret
  refine ⟨_, rfl, rfl, ?_⟩
  show _ ↔ _
  rw [← HZ.out]
  simp

theorem EndV_least {L : List (Int × Int)} {k : Int} (hO : Ok L) (h1 : In k L) (h2 : ∀ j, In j L → k ≤ j) : (EndV L).1 = k := by
  obtain ⟨p, hp, a, b⟩ := h1
  cases L with
  | nil => cases hp
  | cons q L =>
    obtain ⟨e1, e2, e3⟩ := Ok_cons.1 hO
    have hq := h2 q.1 ⟨q, List.mem_cons_self .., Int.le_refl _, e1.2.1⟩
    show q.1 = k
    rcases List.mem_cons.1 hp with rfl | hp
    · omega
    · have := e2 p hp; omega

theorem least_c (h : Mk φ t w M mb fs c S V) {m : Int} (hm : V m) (hmin : ∀ j, V j → m ≤ j) : Calls Try.prog 56 #[.pointer (some ⟨M, 0, none⟩)] w fun e w' => e = .returned (.int .i64 m) ∧ Below w.heap.size w w' := by
  obtain ⟨m0, m1, m2⟩ := h.1.hv m hm
  obtain ⟨n, hn⟩ : ∃ n : Nat, m / 1024 = (n : Int) := ⟨(m / 1024).toNat, by omega⟩
  rw [hn] at m2
  simp only [Int.toNat_natCast] at m2
  obtain ⟨s, hs⟩ := Option.isSome_iff_exists.1 m2
  have hn2 : n ≤ 4503599627370495 := by omega
  obtain ⟨of, Lf, ⟨⟨cf, sef⟩, okf, lf, _⟩, inf, _⟩ := h.1.hf
  obtain ⟨o, L, my, inL, _⟩ := h.1.hs n s hs
  have e1 : (EndV Lf).1 = (n : Int) := EndV_least okf ((inf _).2 ⟨by omega, by simpa using m2⟩) (fun j hj => by
    obtain ⟨j0, j1⟩ := (inf j).1 hj
    obtain ⟨s', hs'⟩ := Option.isSome_iff_exists.1 j1
    obtain ⟨v, hv, hb⟩ := h.2 _ s' hs'
    have := hmin v hv
    unfold blk at hb
    omega)
  have e2 : (EndV L).1 = m := EndV_least my.2.1 ((inL m).2 ⟨hm, by unfold blk; omega⟩) (fun j hj => hmin j ((inL j).1 hj).1)
  have cM0 : w.cell? ⟨M, 0, none⟩ = some (.map (some mb)) := by simp [World.cell?, h.1.hM]
  have cM1 : w.cell? ⟨M, 1, none⟩ = some (.pointer (some ⟨fs, 0, none⟩)) := by simp [World.cell?, h.1.hM]
  have lM := World.block_lt_of_cell? _ _ cM0
  have hc1 := ends_c fs cf of Lf w sef lf
  rw [e1] at hc1
  have H : Aside _ := h
  have MY : Aside (My 0 w s o L) := my
  clear inf inL e1 sef okf lf h my hmin hm
  go_enter Try.func56, Try.ntmps56
  go_wp2_with fail
  refine hc1.mono ?_
  rintro e w1 ⟨rfl, hb1⟩
  have cM0' : w1.cell? ⟨M, 0, none⟩ = some (.map (some mb)) := (hb1.cell lM).trans cM0
  have hlk := (H.out.1.keep (fun k hk _ _ => hb1.block k hk)).look hn2
  rw [hs] at hlk
  simp only [ptrO] at hlk
  obtain ⟨⟨cb, seb⟩, okb, lb, _⟩ := MY.out.same (hb1.block s MY.out.lt.1) (fun g hg => hb1.block g (MY.out.lt.2 g hg))
  have hc2 := ends_c s cb o L w1 seb lb
  rw [e2] at hc2
  have HB : Aside (Below w.heap.size w w1) := hb1
  clear seb okb lb hc1 hb1
  go_wp2_with fail
  refine hc2.mono ?_
  rintro e w2 ⟨rfl, hb2⟩
  have HB2 : Aside (Below w.heap.size w w2) := HB.out.trans (hb2.mono HB.out.size)
  clear hc2 hb2
  go_wp2
  go_ret
  exact ⟨rfl, HB2.out⟩
end

end Go.Proofs.YtfgfomkhlhiiiaaR
