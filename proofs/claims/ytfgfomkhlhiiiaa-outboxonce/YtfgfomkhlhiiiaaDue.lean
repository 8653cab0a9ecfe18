/- outbox: what is due. -/
import Derived.Test.YtfgfomkhlhiiiaaOb
import Derived.Deep.RegionHeld3
namespace Go.Proofs.YtfgfomkhlhiiiaaR
open Go.RowKit Go.Shelf Go.Lib Go.Maps
set_option linter.unusedVariables false

variable {φ : Nat → Nat × Nat} {t : Nat} {w : World} {b A A2 cm : Nat} {o : Option Addr} {n cp : Nat} {rm base sent en : Int} {V V2 : Int → Prop}

def EndQ (a all en : Int) : Bool := decide (a = all ∧ (en = 1 ∨ en = 3))
theorem ends_ob (w : World) (b n cp : Nat) (o : Option Addr) (a base en : Int) (c1 : w.cell? ⟨b, 1, none⟩ = some (.slice o n cp)) (c2 : w.cell? ⟨b, 2, none⟩ = some (.int .i64 base)) (c6 : w.cell? ⟨b, 6, none⟩ = some (.int .i64 en)) (h0 : 0 ≤ base) (hb : base + n ≤ 4611686018427387903) :
    Calls Try.prog 30 #[.pointer (some ⟨b, 0, none⟩), .int .i64 a] w fun e w' => e = .returned (.bool (EndQ a (base + n) en)) ∧ Below w.heap.size w w' := by
  have hw := written_ob w b n cp o base c1 c2 h0 hb
  have lb := World.block_lt_of_cell? _ _ c6
  go_enter Try.func30, Try.ntmps30
  go_wp2_with fail
  refine hw.mono ?_
  rintro e w1 ⟨rfl, hb1⟩
  have d6 : w1.cell? ⟨b, 6, none⟩ = some (.int .i64 en) := (hb1.cell lb).trans c6
  have HB : Aside (Below w.heap.size w w1) := hb1
  clear hw hb1 c1 c2 c6
  by_cases h1 : a = base + n
  · by_cases h2 : en = 1
    · have e1 : EndQ a (base + n) en = true := by simp [EndQ, h1, h2]
      go_wp2
      go_ret
      exact ⟨by rw [e1]; rfl, HB.out⟩
    · by_cases h3 : en = 3
      · have e1 : EndQ a (base + n) en = true := by simp [EndQ, h1, h3]
        go_wp2
        go_ret
        exact ⟨by rw [e1]; rfl, HB.out⟩
      · have e1 : EndQ a (base + n) en = false := by simp [EndQ, h1, h2, h3]
        have b1 : (en == 1) = false := by simpa using h2
        have b3 : (en == 3) = false := by simpa using h3
        go_wp2
        go_ret
        exact ⟨by rw [e1]; rfl, HB.out⟩
  · have e1 : EndQ a (base + n) en = false := by simp [EndQ, h1]
    go_wp2
    go_ret
    exact ⟨by rw [e1]; rfl, HB.out⟩

/-- due: nothing is lost, and there are new bytes. -/
theorem due_new (h : Ob φ w b A A2 cm o n cp rm base sent en V V2) (hno : ∀ j, ¬ V2 j) (limit : Int) (h0 : 0 ≤ base) (hb : base + n ≤ 4611686018427387903) (hs : sent < min limit (base + n)) :
    Calls Try.prog 28 #[.pointer (some ⟨b, 0, none⟩), .int .i64 limit] w fun e w' => ∃ B2 B5, e = .returned (.func (.func 47) #[] #[.pointer (some ⟨B5, 0, none⟩), .pointer (some ⟨B2, 0, none⟩)]) ∧ w'.cell? ⟨B5, 0, none⟩ = some (.int .i64 (min limit (base + n))) ∧ w'.cell? ⟨B2, 0, none⟩ = some (.pointer (some ⟨b, 0, none⟩)) ∧ Below w.heap.size w w' := by
  have H : Aside _ := h
  have HN : Aside (∀ j, ¬ V2 j) := hno
  have hbl := h.lt
  clear h hno
  go_enter Try.func28, Try.ntmps28
  have hb0 : Below w.heap.size w (w.alloc (.cells #[.pointer (some ⟨b, 0, none⟩)] 23)) := (Below.refl _ w).alloc (Nat.le_refl _) _
  have hw := written_ob _ b n cp o base (H.out.below hb0).c1 (H.out.below hb0).c2 h0 hb
  have HB0 : Aside _ := hb0
  clear hb0
  go_wp2_with fail
  refine hw.mono ?_
  rintro e w1 ⟨rfl, hb1⟩
  have dn : (w.alloc (.cells #[.pointer (some ⟨b, 0, none⟩)] 23)).heap[w.heap.size]? = some (.cells #[.pointer (some ⟨b, 0, none⟩)] 23 (0, 0)) := World.alloc_heap_new w _
  have hz1 : w.heap.size < w1.heap.size := by have := hb1.size; simp at this; omega
  have dB : w1.heap[w.heap.size]? = some (.cells #[.pointer (some ⟨b, 0, none⟩)] 23 (0, 0)) := (hb1.block _ (by simp)).trans dn
  have hbw : Below w.heap.size w (w1.alloc (.cells #[.int .i64 (min limit (base + n))] 3)) := (HB0.out.trans (hb1.mono HB0.out.size)).trans (((Below.refl _ w1).alloc (Nat.le_refl _) _).mono (by omega))
  have d2 : (w1.alloc (.cells #[.int .i64 (min limit (base + n))] 3)).cell? ⟨w.heap.size, 0, none⟩ = some (.pointer (some ⟨b, 0, none⟩)) := by
    have e : (w1.alloc (.cells #[.int .i64 (min limit (base + n))] 3)).heap[w.heap.size]? = _ := (Below.heap_alloc w1 _ _ hz1).trans dB
    simp [World.cell?, e]
  have d5 : (w1.alloc (.cells #[.int .i64 (min limit (base + n))] 3)).cell? ⟨w1.heap.size, 0, none⟩ = some (.int .i64 (min limit (base + n))) := by
    have e := World.alloc_heap_new w1 (.cells #[.int .i64 (min limit (base + n))] 3)
    unfold World.cell?
    dsimp only
    rw [e]
    rfl
  have d35 := (H.out.below hbw).c3
  have d55 := (H.out.below hbw).c5
  have H1 : Aside _ := H.out.below hbw
  have HBW : Aside _ := hbw
  clear hb1 hw dB dn hbw HB0
  go_wp2_with fail
  obtain ⟨mb, fs, c, S, hk, _⟩ := H1.out.hl
  refine (any_c hk).mono ?_
  rintro e w' ⟨bb, rfl, hw', hbb⟩
  subst w'
  obtain rfl : bb = false := by
    cases bb
    · rfl
    · obtain ⟨j, hj⟩ := hbb.out.1 rfl
      exact absurd hj (HN.out j)
  clear hbb hk
  generalize w1.alloc (.cells #[.int .i64 (min limit (base + n))] 3) = W1 at *
  go_wp2
  go_quiet (fail)
  obtain ⟨q, hq⟩ : ∃ q, min limit (base + n) = q := ⟨_, rfl⟩
  rw [hq] at hs d5
  go_wp2
  go_ret
  refine ⟨_, _, rfl, ?_, d2, HBW.out.os, HBW.out.tape, HBW.out.output, HBW.out.size, HBW.out.block⟩
  rw [hq]
  exact d5

/-- due: nothing is lost, and there are no new bytes. -/
theorem due_end (h : Ob φ w b A A2 cm o n cp rm base sent en V V2) (hno : ∀ j, ¬ V2 j) (limit : Int) (h0 : 0 ≤ base) (hb : base + n ≤ 4611686018427387903) (hs : ¬ sent < min limit (base + n)) :
    Calls Try.prog 28 #[.pointer (some ⟨b, 0, none⟩), .int .i64 limit] w fun e w' => ∃ B2, e = .returned (.func (.func 48) #[] #[.pointer (some ⟨B2, 0, none⟩)]) ∧ w'.cell? ⟨B2, 0, none⟩ = some (.pointer (some ⟨b, 0, none⟩)) ∧ Below w.heap.size w w' := by
  have H : Aside _ := h
  have HN : Aside (∀ j, ¬ V2 j) := hno
  have hbl := h.lt
  clear h hno
  go_enter Try.func28, Try.ntmps28
  have hb0 : Below w.heap.size w (w.alloc (.cells #[.pointer (some ⟨b, 0, none⟩)] 23)) := (Below.refl _ w).alloc (Nat.le_refl _) _
  have hw := written_ob _ b n cp o base (H.out.below hb0).c1 (H.out.below hb0).c2 h0 hb
  have HB0 : Aside _ := hb0
  clear hb0
  go_wp2_with fail
  refine hw.mono ?_
  rintro e w1 ⟨rfl, hb1⟩
  have dn : (w.alloc (.cells #[.pointer (some ⟨b, 0, none⟩)] 23)).heap[w.heap.size]? = some (.cells #[.pointer (some ⟨b, 0, none⟩)] 23 (0, 0)) := World.alloc_heap_new w _
  have hz1 : w.heap.size < w1.heap.size := by have := hb1.size; simp at this; omega
  have dB : w1.heap[w.heap.size]? = some (.cells #[.pointer (some ⟨b, 0, none⟩)] 23 (0, 0)) := (hb1.block _ (by simp)).trans dn
  have hbw : Below w.heap.size w (w1.alloc (.cells #[.int .i64 (min limit (base + n))] 3)) := (HB0.out.trans (hb1.mono HB0.out.size)).trans (((Below.refl _ w1).alloc (Nat.le_refl _) _).mono (by omega))
  have d2 : (w1.alloc (.cells #[.int .i64 (min limit (base + n))] 3)).cell? ⟨w.heap.size, 0, none⟩ = some (.pointer (some ⟨b, 0, none⟩)) := by
    have e : (w1.alloc (.cells #[.int .i64 (min limit (base + n))] 3)).heap[w.heap.size]? = _ := (Below.heap_alloc w1 _ _ hz1).trans dB
    simp [World.cell?, e]
  have d5 : (w1.alloc (.cells #[.int .i64 (min limit (base + n))] 3)).cell? ⟨w1.heap.size, 0, none⟩ = some (.int .i64 (min limit (base + n))) := by
    have e := World.alloc_heap_new w1 (.cells #[.int .i64 (min limit (base + n))] 3)
    unfold World.cell?
    dsimp only
    rw [e]
    rfl
  have d35 := (H.out.below hbw).c3
  have d55 := (H.out.below hbw).c5
  have H1 : Aside _ := H.out.below hbw
  have HBW : Aside _ := hbw
  clear hb1 hw dB dn hbw HB0
  go_wp2_with fail
  obtain ⟨mb, fs, c, S, hk, _⟩ := H1.out.hl
  refine (any_c hk).mono ?_
  rintro e w' ⟨bb, rfl, hw', hbb⟩
  subst w'
  obtain rfl : bb = false := by
    cases bb
    · rfl
    · obtain ⟨j, hj⟩ := hbb.out.1 rfl
      exact absurd hj (HN.out j)
  clear hbb hk
  generalize w1.alloc (.cells #[.int .i64 (min limit (base + n))] 3) = W1 at *
  go_wp2
  go_quiet (fail)
  obtain ⟨q, hq⟩ : ∃ q, min limit (base + n) = q := ⟨_, rfl⟩
  rw [hq] at hs d5
  go_wp2
  go_ret
  exact ⟨_, rfl, d2, HBW.out.os, HBW.out.tape, HBW.out.output, HBW.out.size, HBW.out.block⟩

/-- The new bytes that a piece has. -/
theorem due2_c (w : World) (b B2 B5 : Nat) (most lim sent : Int) (d5 : w.cell? ⟨B5, 0, none⟩ = some (.int .i64 lim)) (d2 : w.cell? ⟨B2, 0, none⟩ = some (.pointer (some ⟨b, 0, none⟩))) (c3 : w.cell? ⟨b, 3, none⟩ = some (.int .i64 sent)) (h0 : 0 ≤ sent) (h1 : sent ≤ lim) (h2 : lim ≤ 4611686018427387903) (h3 : 0 ≤ most) (h4 : most ≤ 9223372036854775807) :
    Calls Try.prog 47 #[.int .i64 most, .pointer (some ⟨B5, 0, none⟩), .pointer (some ⟨B2, 0, none⟩)] w fun e w' => e = .returned (.tuple #[.int .i64 sent, .int .i64 (sent + min most (lim - sent)), .bool (decide (0 < min most (lim - sent)))]) ∧ Below w.heap.size w w' := by
  go_enter Try.func47, Try.ntmps47
  go_wp2
  go_quiet (fail)
  obtain ⟨q, hq⟩ : ∃ q, min most (lim - sent) = q := ⟨_, rfl⟩
  have q0 : 0 ≤ q := by omega
  have q1 : q ≤ lim - sent := by omega
  go_wp2
  go_quiet (fail)
  go_wp2
  exact bodyPost_ret (v := .tuple #[.int .i64 sent, .int .i64 (sent + q), .bool (decide (0 < q))]) (by simp [results, Try.results47, go_sem]) rfl ⟨by rw [hq], rfl, rfl, rfl, Nat.le_refl _, fun _ _ => rfl⟩

/-- The end alone. -/
theorem due3_c (w : World) (b B2 n cp : Nat) (o : Option Addr) (most base sent en : Int) (d2 : w.cell? ⟨B2, 0, none⟩ = some (.pointer (some ⟨b, 0, none⟩))) (c1 : w.cell? ⟨b, 1, none⟩ = some (.slice o n cp)) (c2 : w.cell? ⟨b, 2, none⟩ = some (.int .i64 base)) (c3 : w.cell? ⟨b, 3, none⟩ = some (.int .i64 sent)) (c6 : w.cell? ⟨b, 6, none⟩ = some (.int .i64 en)) (h0 : 0 ≤ base) (hb : base + n ≤ 4611686018427387903) :
    Calls Try.prog 48 #[.int .i64 most, .pointer (some ⟨B2, 0, none⟩)] w fun e w' => e = .returned (.tuple #[.int .i64 sent, .int .i64 sent, .bool (EndQ sent (base + n) en)]) ∧ Below w.heap.size w w' := by
  have HE : Aside _ := ends_ob w.drew b n cp o sent base en c1 c2 c6 h0 hb
  have HSS : Aside (w.drew.cell? ⟨B2, 0, none⟩ = some (.pointer (some ⟨b, 0, none⟩)) ∧ w.drew.cell? ⟨b, 3, none⟩ = some (.int .i64 sent)) := ⟨d2, c3⟩
  have HK : Aside (∀ X, Below w.drew.heap.size w.drew X → X.cell? ⟨B2, 0, none⟩ = some (.pointer (some ⟨b, 0, none⟩)) ∧ X.cell? ⟨b, 3, none⟩ = some (.int .i64 sent)) := fun X h => ⟨(h.cell (World.block_lt_of_cell? _ _ d2)).trans d2, (h.cell (World.block_lt_of_cell? _ _ c3)).trans c3⟩
  clear c1 c2 c6
  go_enter Try.func48, Try.ntmps48
  go_wp2_with fail
  go_region_held3 (fun w' => w'.cell? ⟨B2, 0, none⟩ = some (.pointer (some ⟨b, 0, none⟩)) ∧ w'.cell? ⟨b, 3, none⟩ = some (.int .i64 sent)) (first | exact HSS.out | exact HK.out _ HZ.out) (first
    | (go_at_call 30; refine Calls.mono HE.out ?_; rintro e W8 ⟨rfl, hz⟩; have HZ : Aside (Below w.drew.heap.size w.drew W8) := hz; clear hz))
  all_goals
    go_wp2
    exact bodyPost_ret (v := .tuple #[.int .i64 sent, .int .i64 sent, .bool (EndQ sent (base + n) en)]) (by simp [results, Try.results48, go_sem]) rfl ⟨rfl, HZ.out.os, HZ.out.tape, HZ.out.output, HZ.out.size, HZ.out.block⟩

end Go.Proofs.YtfgfomkhlhiiiaaR
