/- outbox: Next of new bytes, with nothing lost. -/
import Derived.Test.YtfgfomkhlhiiiaaCpy
namespace Go.Proofs.YtfgfomkhlhiiiaaR
open Go.RowKit Go.Shelf Go.Lib Go.Maps
set_option linter.unusedVariables false

theorem eg47 : ∀ args w, (callFunc 47 args).run Try.prog w = .ok (.enter 47 args) w := enters_of Try.func47 (by kernel_rfl) rfl
theorem eg48 : ∀ args w, (callFunc 48 args).run Try.prog w = .ok (.enter 48 args) w := enters_of Try.func48 (by kernel_rfl) rfl

theorem Mx.retag {φ φ' : Nat → Nat × Nat} {t : Nat} {w : World} {M cm : Nat} {V : Int → Prop} (h : Mx φ t w M cm V) (hφ : ∀ k, k < w.heap.size → φ' k = φ k) : Mx φ' t w M cm V := by
  obtain ⟨mb, fs, c, S, h1, h2⟩ := h
  exact ⟨mb, fs, c, S, ⟨h1.1.retag hφ, h1.2⟩, h2⟩
theorem Ob.retag {φ φ' : Nat → Nat × Nat} {w : World} {b A A2 cm : Nat} {o : Option Addr} {n cp : Nat} {rm base sent en : Int} {V V2 : Int → Prop} (h : Ob φ w b A A2 cm o n cp rm base sent en V V2) (hφ : ∀ k, k < w.heap.size → φ' k = φ k) : Ob φ' w b A A2 cm o n cp rm base sent en V V2 :=
  ⟨h.hb, h.ha.retag hφ, h.hl.retag hφ, by rw [hφ b h.lt]; exact h.hφ, fun g hg => ⟨by rw [hφ g (h.ho g hg).2]; exact (h.ho g hg).1, (h.ho g hg).2⟩⟩

set_option maxRecDepth 100000 in
set_option maxHeartbeats 2000000 in
theorem next_new {φ : Nat → Nat × Nat} {w : World} {b A A2 cm g n cp : Nat} {rm base sent en lo : Int} {V : Int → Prop} (T : List UInt8) (most limit q : Int) (h : Ob φ w b A A2 cm (some ⟨g, 0, none⟩) n cp rm base sent en V (fun _ => False))
    (hT : w.ownsRow 0 5 1 (.slice (some ⟨g, 0, none⟩) n cp) n (bs T)) (h0 : 0 ≤ base) (hbs : base ≤ sent) (hb : base + n ≤ 4611686018427387903) (hn2 : n ≤ 140737488355328) (hm0 : 0 < most) (hm1 : most ≤ 9223372036854775807)
    (hs : sent < min limit (base + n)) (hq : q = sent + min most (min limit (base + n) - sent)) (hE : EndQ q (base + n) en = false) (hwin : ∀ j, (V j ∨ sent ≤ j ∧ j < q) → lo ≤ j ∧ j < lo + 61440000) (hcm : cm < 3000000000000000000) :
    Calls Try.prog 13 #[.pointer (some ⟨b, 0, none⟩), .int .i64 most, .int .i64 limit] w fun e w' => ∃ φ' v', e = .returned (.tuple #[.agg #[.int .i64 sent, v', .bool false], .bool true]) ∧ w'.ownsRow w.heap.size 5 1 v' (q - sent).toNat (bs ((T.drop (sent - base).toNat).take (q - sent).toNat)) ∧
      Ob φ' w' b A A2 (cm + (q - sent).toNat) (some ⟨g, 0, none⟩) n cp rm base q en (fun j => V j ∨ (sent ≤ j ∧ j < q)) (fun _ => False) ∧ w'.heap[g]? = w.heap[g]? ∧ Chg (fun k => k = b ∨ (φ k).1 = 1) w w' ∧ (∀ k, k < w.heap.size → φ' k = φ k) := by
  obtain ⟨ψ, hψ⟩ : ∃ ψ : Nat → Nat × Nat, ψ = fun k => if k < w.heap.size then φ k else (0, 0) := ⟨_, rfl⟩
  have hψ1 : ∀ k, k < w.heap.size → ψ k = φ k := fun k hk => by rw [hψ]; exact if_pos hk
  have hψ2 : ∀ k, w.heap.size ≤ k → ψ k = (0, 0) := fun k hk => by rw [hψ]; exact if_neg (by omega)
  replace h := h.retag hψ1
  have HP1 : Aside _ := hψ1
  have HP2 : Aside _ := hψ2
  clear hψ hψ1 hψ2
  obtain ⟨lim, hlim⟩ : ∃ lim, min limit (base + n) = lim := ⟨_, rfl⟩
  obtain ⟨q0, hq0⟩ : ∃ q0, min most (lim - sent) = q0 := ⟨_, rfl⟩
  have hlq : lim ≤ base + n := by omega
  rw [hlim] at hs hq
  rw [hq0] at hq
  have q1 : 0 < q0 := by omega
  have q2 : q ≤ lim := by omega
  have H : Aside _ := h
  have HT : Aside _ := hT
  have HW : Aside _ := hwin
  have hbl := h.lt
  have eg := eg47
  have i1 : ¬ most < 0 := by omega
  -- the world with the result's box
  have hb0 : Below w.heap.size w (w.alloc (.cells #[.int .i64 0, .slice none 0 0, .bool false] 42)) := (Below.refl _ w).alloc (Nat.le_refl _) _
  have hnn := none_ob _ b A (h.below hb0).c4
  have HB0 : Aside _ := hb0
  have H0 : Aside _ := h.below hb0
  have hd6 : (w.alloc (.cells #[.int .i64 0, .slice none 0 0, .bool false] 42)).heap[w.heap.size]? = some (.cells #[.int .i64 0, .slice none 0 0, .bool false] 42 (0, 0)) := World.alloc_heap_new w _
  have HD6 : Aside _ := hd6
  have hz0 : (w.alloc (.cells #[.int .i64 0, .slice none 0 0, .bool false] 42)).heap.size = w.heap.size + 1 := by simp
  have HZ0 : Aside _ := hz0
  clear h hT hwin hb0 hd6 hz0
  go_enter Try.func13, Try.ntmps13
  go_wp2_with fail
  refine hnn.mono ?_
  rintro e w' ⟨rfl, hw'⟩
  subst w'
  have hdue := due_new H0.out (fun _ h => h) limit h0 hb (by rw [hlim]; exact hs)
  rw [hlim] at hdue
  clear hnn
  go_wp2_with fail
  refine hdue.mono ?_
  rintro e w1 ⟨B2, B5, rfl, d5, d2, hb1⟩
  have H1 : Aside _ := H0.out.below hb1
  have hd2 := due2_c w1 b B2 B5 most lim sent d5 d2 (H0.out.below hb1).c3 (by omega) (by omega) (by omega) (by omega) hm1
  rw [hq0, ← hq] at hd2
  have hdt : decide (0 < q0) = true := by simpa using q1
  rw [hdt] at hd2
  have qa : sent < q := by omega
  clear hq hq0 q1 hdt
  have HB1 : Aside _ := hb1
  clear hdue hb1 d5 d2
  go_wp2_with fail
  refine hd2.mono ?_
  rintro e w2 ⟨rfl, hb2⟩
  have hbw2 : Below w.heap.size w w2 := HB0.out.trans ((HB1.out.mono HB0.out.size).trans (hb2.mono (Nat.le_trans HB0.out.size HB1.out.size)))
  have H2 : Aside _ := H1.out.below hb2
  have hT2 : w2.ownsRow 0 5 1 (.slice (some ⟨g, 0, none⟩) n cp) n (bs T) := by
    obtain ⟨e1, e2⟩ := HT.out
    refine ⟨e1, ?_⟩
    rcases e2 with e2 | ⟨g', cap, cur, k1, k2, k3, k4⟩
    · exact .inl e2
    · exact .inr ⟨g', cap, cur, k1, k2, (hbw2.block g' (Array.getElem?_eq_some_iff.1 k3).1).trans k3, k4⟩
  have hcp := copied_ob w2 b g n cp sent q base T hT2 (H1.out.below hb2).c1 (H1.out.below hb2).c2 h0 hbs (by omega) (by omega) hb hn2
  have hd62 : w2.heap[w.heap.size]? = some (.cells #[.int .i64 0, .slice none 0 0, .bool false] 42 (0, 0)) := by
    have e0 : w.heap.size < (w.alloc (.cells #[.int .i64 0, .slice none 0 0, .bool false] 42)).heap.size := by rw [HZ0.out]; omega
    exact (hb2.block _ (Nat.lt_of_lt_of_le e0 HB1.out.size)).trans ((HB1.out.block _ e0).trans HD6.out)
  have HD62 : Aside _ := hd62
  have HB2 : Aside _ := hbw2
  have HT2 : Aside _ := hT2
  clear hd2 hb2 hbw2 hT2 hd62
  go_wp2_with fail
  refine hcp.mono ?_
  rintro e w3 ⟨v', rfl, hown3, hb3⟩
  have hbw3 : Below w.heap.size w w3 := HB2.out.trans (hb3.mono HB2.out.size)
  have hen := ends_ob w3 b n cp (some ⟨g, 0, none⟩) q base en (H2.out.below hb3).c1 (H2.out.below hb3).c2 (H2.out.below hb3).c6 h0 hb
  rw [hE] at hen
  obtain ⟨g', cap, cur, rfl, hg1, hg2, hg3⟩ : ∃ g' cap cur, v' = .slice (some ⟨g', 0, none⟩) (q - sent).toNat cap ∧ w2.heap.size ≤ g' ∧ w3.heap[g']? = some (.cells cur 5 (0, 0)) ∧ ((q - sent).toNat ≤ cap ∧ cap ≤ maxLen ∧ cur.size = cap * 1 ∧ cur.toList.take ((q - sent).toNat * 1) = bs ((T.drop (sent - base).toNat).take (q - sent).toNat)) := by
    rcases hown3.2 with ⟨_, e⟩ | ⟨g', cap, cur, k1, k2, k3, k4⟩
    · omega
    · exact ⟨g', cap, cur, k1, k2, k3, k4⟩
  have HOWN : Aside _ := hown3.1
  have HG2 : Aside _ := hg2
  have HG3 : Aside _ := hg3
  have HG1 : Aside _ := hg1
  have H3 : Aside _ := H2.out.below hb3
  have HB3 : Aside _ := hbw3
  have hd63 : w3.heap[w.heap.size]? = some (.cells #[.int .i64 0, .slice none 0 0, .bool false] 42 (0, 0)) := (hb3.block _ (Array.getElem?_eq_some_iff.1 HD62.out).1).trans HD62.out
  have HD63 : Aside _ := hd63
  obtain ⟨m, hm⟩ : ∃ m, m = (q - sent).toNat := ⟨_, rfl⟩
  rw [← hm]
  have HM : Aside (m = (q - sent).toNat) := hm
  clear hcp hb3 hbw3 hown3 hg1 hg2 hg3 hd63 hm
  go_wp2_with fail
  refine hen.mono ?_
  rintro e w4 ⟨rfl, hb4⟩
  have hbw4 : Below w.heap.size w w4 := HB3.out.trans (hb4.mono HB3.out.size)
  have H4 : Aside _ := H3.out.below hb4
  have c45 := (H3.out.below hb4).c5
  have HG4 : Aside (w4.heap[g']? = some (.cells cur 5 (0, 0))) := (hb4.block _ (Array.getElem?_eq_some_iff.1 HG2.out).1).trans HG2.out
  have HD64 : Aside (w4.heap[w.heap.size]? = some (.cells #[.int .i64 0, .slice none 0 0, .bool false] 42 (0, 0))) := (hb4.block _ (Array.getElem?_eq_some_iff.1 HD63.out).1).trans HD63.out
  have HB4 : Aside _ := hbw4
  -- the world with the piece's box
  obtain ⟨W5, hW5⟩ : ∃ W5, W5 = w4.alloc (.cells #[.int .i64 sent, .slice (some ⟨g', 0, none⟩) m cap, .bool false] 42) := ⟨_, rfl⟩
  have hb5 : Below w4.heap.size w4 W5 := by rw [hW5]; exact (Below.refl _ w4).alloc (Nat.le_refl _) _
  have hP5 : W5.heap[w4.heap.size]? = some (.cells #[.int .i64 sent, .slice (some ⟨g', 0, none⟩) m cap, .bool false] 42 (0, 0)) := by rw [hW5]; exact World.alloc_heap_new w4 _
  have H5 : Aside _ := H4.out.below hb5
  have c55 := (H4.out.below hb5).c5
  rw [hW5] at c55
  have HP5 : Aside _ := hP5
  have HB5 : Aside _ := hb5
  have HW5 : Aside _ := hW5
  obtain ⟨mb2, fs2, c2, S2, hk2, hc2⟩ := (H4.out.below hb5).hl
  have hrm := remv_none sent q W5 hk2 (by omega) (by omega) (by omega)
  rw [hW5] at hrm
  clear hen hb4 hbw4 hb5 hP5 hk2 hc2 hW5
  go_wp2_with fail
  refine hrm.mono ?_
  rintro e w6 ⟨⟨vv, rfl⟩, hb6⟩
  rw [← HW5.out] at hb6
  have H6 := H5.out.below hb6
  have c64 := H6.c4
  obtain ⟨mb1, fs1, c1, S1, hk1, hc1⟩ := H6.ha
  have hw6 : w.heap.size ≤ w6.heap.size := Nat.le_trans HB4.out.size (Nat.le_trans HB5.out.size hb6.size)
  have had := add_c2 sent q lo w6 hk1 (by omega) (by omega) (by omega) HW.out (by omega)
  have HH6 : Aside _ := H6
  have HB6 : Aside _ := hb6
  clear hrm H6 hb6 hk1 c55
  go_wp2_with fail
  refine had.mono ?_
  rintro e w7 ⟨⟨vv2, rfl⟩, φ7, S7, c7, hk7, hc7, hφ7, hch7⟩
  have hkeep : ∀ k X, k < w6.heap.size → (ψ k).1 = 0 → w6.heap[k]? = X → w7.heap[k]? = X := fun k X hk h0 e => (hch7.2.2.2.2 k hk (fun h1 => by have h2 : (ψ k).1 = 1 := h1; omega)).trans e
  have hlt4 : w4.heap.size < w6.heap.size := Nat.lt_of_lt_of_le (Array.getElem?_eq_some_iff.1 HP5.out).1 HB6.out.size
  have hb7 := hkeep b _ HH6.out.lt HH6.out.hφ HH6.out.hb
  have hP7 := hkeep w4.heap.size _ hlt4 (by have := HP2.out _ HB4.out.size; rw [this]) ((HB6.out.block _ (Array.getElem?_eq_some_iff.1 HP5.out).1).trans HP5.out)
  have hD5 := (HB5.out.block _ (Array.getElem?_eq_some_iff.1 HD64.out).1).trans HD64.out
  have hD6 := (HB6.out.block _ (Array.getElem?_eq_some_iff.1 hD5).1).trans hD5
  have hD7 := hkeep w.heap.size _ (Array.getElem?_eq_some_iff.1 hD6).1 (by have := HP2.out _ (Nat.le_refl _); rw [this]) hD6
  have x3 : w7.cell? ⟨b, 3, none⟩ = some (.int .i64 sent) := by simp [World.cell?, hb7]
  have f3 : w7.frozen? ⟨b, 3, none⟩ = false := by simp [World.frozen?, hb7]
  have y0 : w7.cell? ⟨w4.heap.size, 0, none⟩ = some (.int .i64 sent) := by simp [World.cell?, hP7]
  have y1 : w7.cell? ⟨w4.heap.size, 1, none⟩ = some (.slice (some ⟨g', 0, none⟩) m cap) := by simp [World.cell?, hP7]
  have y2 : w7.cell? ⟨w4.heap.size, 2, none⟩ = some (.bool false) := by simp [World.cell?, hP7]
  have z0 : w7.cell? ⟨w.heap.size, 0, none⟩ = some (.int .i64 0) := by simp [World.cell?, hD7]
  have z1 : w7.cell? ⟨w.heap.size, 1, none⟩ = some (.slice none 0 0) := by simp [World.cell?, hD7]
  have z2 : w7.cell? ⟨w.heap.size, 2, none⟩ = some (.bool false) := by simp [World.cell?, hD7]
  have g0 : w7.frozen? ⟨w.heap.size, 0, none⟩ = false := by simp [World.frozen?, hD7]
  have g1 : w7.frozen? ⟨w.heap.size, 1, none⟩ = false := by simp [World.frozen?, hD7]
  have g2 : w7.frozen? ⟨w.heap.size, 2, none⟩ = false := by simp [World.frozen?, hD7]
  have n1 : b ≠ w4.heap.size := by have := HB4.out.size; omega
  have n2 : b ≠ w.heap.size := by omega
  have n3 : w4.heap.size ≠ b := fun e => n1 e.symm
  have n4 : w.heap.size ≠ b := fun e => n2 e.symm
  have mx : max sent q = q := by omega
  have HC1 : Aside (c1 ≤ cm) := hc1
  have HK7 : Aside (Mk φ7 1 w7 A mb1 fs1 c7 S7 (fun j => V j ∨ (sent ≤ j ∧ j < q))) := hk7
  have HC7 : Aside _ := hc7
  have HF7 : Aside _ := hφ7
  have HCH : Aside _ := hch7
  have HHb : Aside _ := hb7
  have HHP : Aside _ := hP7
  have HHD : Aside _ := hD7
  clear hk7 hc7 hφ7 hch7 hb7 hP7 hD5 hD6 hD7 hkeep had c64 hc1
  have HX7 : Aside _ := hlt4
  go_wp2
  clear x3 f3 y0 y1 y2 z0 z1 z2 g0 g1 g2
  have hb7 := HHb.out
  have hD7 := HHD.out
  have h8b : (w7.setCell ⟨b, 3, none⟩ (.int .i64 q)).heap[b]? = some (.cells #[.int .i64 rm, .slice (some ⟨g, 0, none⟩) n cp, .int .i64 base, .int .i64 q, .pointer (some ⟨A, 0, none⟩), .pointer (some ⟨A2, 0, none⟩), .int .i64 en] 55 (0, 0)) := by
    rw [setCell_eq_setRow w7 b 3 _ 55 (0, 0) _ hb7, setRow_heap w7 b _ _ 55 (0, 0) hb7]
    simp
  have h8o : ∀ k, k ≠ b → (w7.setCell ⟨b, 3, none⟩ (.int .i64 q)).heap[k]? = w7.heap[k]? := fun k hk => by
    rw [setCell_eq_setRow w7 b 3 _ 55 (0, 0) _ hb7]
    exact setRow_other w7 b k _ hk
  have h8c : Chg (fun k => k = b) w7 (w7.setCell ⟨b, 3, none⟩ (.int .i64 q)) := by
    rw [setCell_eq_setRow w7 b 3 _ 55 (0, 0) _ hb7]
    exact (Chg.refl _ w7).set b _ (.inl rfl)
  generalize w7.setCell ⟨b, 3, none⟩ (.int .i64 q) = w8 at *
  have hD8 := (h8o _ n4).trans hD7
  obtain ⟨W9, hW9⟩ : ∃ W9, W9 = ((w8.setCell ⟨w.heap.size, 0, none⟩ (.int .i64 sent)).setCell ⟨w.heap.size, 1, none⟩ (.slice (some ⟨g', 0, none⟩) m cap)).setCell ⟨w.heap.size, 2, none⟩ (.bool false) := ⟨_, rfl⟩
  have k9 : W9.heap[w.heap.size]? = some (.cells #[.int .i64 sent, .slice (some ⟨g', 0, none⟩) m cap, .bool false] 42 (0, 0)) ∧ (∀ k, k ≠ w.heap.size → W9.heap[k]? = w8.heap[k]?) ∧ Chg (fun k => k = w.heap.size) w8 W9 := by
    have e0 : (w8.setCell ⟨w.heap.size, 0, none⟩ (.int .i64 sent)).heap[w.heap.size]? = some (.cells #[.int .i64 sent, .slice none 0 0, .bool false] 42 (0, 0)) := by
      rw [setCell_eq_setRow w8 w.heap.size 0 _ 42 (0, 0) _ hD8, setRow_heap w8 w.heap.size _ _ 42 (0, 0) hD8]; simp
    have e1 : ((w8.setCell ⟨w.heap.size, 0, none⟩ (.int .i64 sent)).setCell ⟨w.heap.size, 1, none⟩ (.slice (some ⟨g', 0, none⟩) m cap)).heap[w.heap.size]? = some (.cells #[.int .i64 sent, .slice (some ⟨g', 0, none⟩) m cap, .bool false] 42 (0, 0)) := by
      rw [setCell_eq_setRow _ w.heap.size 1 _ 42 (0, 0) _ e0, setRow_heap _ w.heap.size _ _ 42 (0, 0) e0]; simp
    rw [hW9]
    refine ⟨?_, fun k hk => ?_, ?_⟩
    · rw [setCell_eq_setRow _ w.heap.size 2 _ 42 (0, 0) _ e1, setRow_heap _ w.heap.size _ _ 42 (0, 0) e1]; simp
    · rw [setCell_eq_setRow _ w.heap.size 2 _ 42 (0, 0) _ e1, setRow_other _ w.heap.size k _ hk, setCell_eq_setRow _ w.heap.size 1 _ 42 (0, 0) _ e0, setRow_other _ w.heap.size k _ hk, setCell_eq_setRow w8 w.heap.size 0 _ 42 (0, 0) _ hD8, setRow_other _ w.heap.size k _ hk]
    · rw [setCell_eq_setRow _ w.heap.size 2 _ 42 (0, 0) _ e1, setCell_eq_setRow _ w.heap.size 1 _ 42 (0, 0) _ e0, setCell_eq_setRow w8 w.heap.size 0 _ 42 (0, 0) _ hD8]
      exact (((Chg.refl (fun k => k = w.heap.size) w8).set _ _ (.inl rfl)).set _ _ (.inl rfl)).set _ _ (.inl rfl)
  rw [← hW9]
  clear hW9
  obtain ⟨k9a, k9b, k9c⟩ := k9
  have r0 : W9.cell? ⟨w.heap.size, 0, none⟩ = some (.int .i64 sent) := by simp [World.cell?, k9a]
  have r1 : W9.cell? ⟨w.heap.size, 1, none⟩ = some (.slice (some ⟨g', 0, none⟩) m cap) := by simp [World.cell?, k9a]
  have r2 : W9.cell? ⟨w.heap.size, 2, none⟩ = some (.bool false) := by simp [World.cell?, k9a]
  have hsame : ∀ k, k ≠ b → k ≠ w.heap.size → W9.heap[k]? = w7.heap[k]? := fun k e1 e2 => (k9b k e2).trans (h8o k e1)
  have hb9 : Below w.heap.size w w6 := HB4.out.trans ((HB5.out.mono HB4.out.size).trans (HB6.out.mono (Nat.le_trans HB4.out.size HB5.out.size)))
  have hkeep : ∀ k X, k < w6.heap.size → (ψ k).1 = 0 → w6.heap[k]? = X → w7.heap[k]? = X := fun k X hk h0 e => (HCH.out.2.2.2.2 k hk (fun h1 => by have h2 : (ψ k).1 = 1 := h1; omega)).trans e
  have hψb : (ψ b).1 = 0 := HH6.out.hφ
  have hψs : ψ w.heap.size = (0, 0) := HP2.out _ (Nat.le_refl _)
  have hs6 : w.heap.size < w6.heap.size := Nat.lt_of_le_of_lt HB4.out.size HX7.out
  refine bodyPost_ret (v := .tuple #[.agg #[.int .i64 sent, .slice (some ⟨g', 0, none⟩) m cap, .bool false], .bool true]) (by simp [results, Try.results13, go_sem, r0, r1, r2]) rfl ⟨φ7, _, rfl, ?_, ⟨?_, ?_, ?_, ?_, ?_⟩, ?_, ?_, fun k hk => (HF7.out k (Nat.lt_trans hk hs6)).trans (HP1.out k hk)⟩
  · rw [← HM.out]
    have e4 := HG4.out
    have l4 := (Array.getElem?_eq_some_iff.1 e4).1
    have e6 := (HB6.out.block _ (Nat.lt_of_lt_of_le l4 HB5.out.size)).trans ((HB5.out.block _ l4).trans e4)
    have l2 := (Array.getElem?_eq_some_iff.1 HD62.out).1
    have hg1 := HG1.out
    have e7 := hkeep g' _ (Array.getElem?_eq_some_iff.1 e6).1 (by have := HP2.out g' (by omega); rw [this]) e6
    have e9 := (hsame g' (by omega) (by omega)).trans e7
    have o1 := HOWN.out
    have o2 := HG3.out
    rw [← HM.out] at o1 o2
    exact ⟨o1, .inr ⟨g', cap, cur, rfl, by omega, e9, o2⟩⟩
  · exact (k9b b n2).trans h8b
  · refine ⟨mb1, fs1, c7, S7, ⟨HK7.out.1.keep (fun k hk ht _ => hsame k ?_ ?_), HK7.out.2⟩, ?_⟩
    · rintro rfl
      rw [HF7.out k HH6.out.lt, hψb] at ht
      cases ht
    · rintro rfl
      rw [HF7.out _ hs6, hψs] at ht
      cases ht
    · have := HC7.out; have := HC1.out; omega
  · obtain ⟨mb2', fs2', c2', S2', hk2, hc2⟩ := HH6.out.hl
    refine ⟨mb2', fs2', c2', S2', ⟨((hk2.1.retag HF7.out).chg HCH.out (fun k hk hx => ?_)).keep (fun k hk ht _ => hsame k ?_ ?_), hk2.2⟩, by omega⟩
    · rw [HF7.out k hk]
      have h2 : (ψ k).1 = 1 := hx
      omega
    · rintro rfl
      rw [HF7.out k HH6.out.lt, hψb] at ht
      cases ht
    · rintro rfl
      rw [HF7.out _ hs6, hψs] at ht
      cases ht
  · rw [HF7.out b HH6.out.lt]; exact hψb
  · intro g0 hg0
    obtain ⟨u1, u2⟩ := HH6.out.ho g0 hg0
    exact ⟨by rw [HF7.out g0 u2]; exact u1, Nat.lt_of_lt_of_le u2 (Nat.le_trans HCH.out.2.2.2.1 (Nat.le_trans h8c.2.2.2.1 k9c.2.2.2.1))⟩
  · obtain ⟨u1, u2⟩ := HH6.out.ho g rfl
    obtain ⟨curg, hcg⟩ : ∃ curg, w.heap[g]? = some (.cells curg 5 (0, 0)) := by
      rcases HT.out.2 with ⟨e, _⟩ | ⟨g1, cap1, cur1, e, _, e3, _⟩
      · cases e
      · cases e; exact ⟨_, e3⟩
    have lg := (Array.getElem?_eq_some_iff.1 hcg).1
    have ngb : g ≠ b := by
      intro e
      have e6 := (hb9.block g lg).trans hcg
      rw [e, HH6.out.hb] at e6
      simp at e6
    exact (hsame g ngb (by omega)).trans (hkeep g _ u2 u1 (hb9.block g lg))
  · have s1 : Chg (fun k => k = b ∨ (φ k).1 = 1) w w6 := Chg.below hb9
    have s2 := s1.after HCH.out (fun j hj hx => by
      have h2 : (ψ j).1 = 1 := hx
      rw [HP1.out j hj] at h2
      exact .inr h2)
    have s3 := s2.after h8c (fun j hj hx => .inl hx)
    exact s3.after k9c (fun j hj hx => absurd (show j = w.heap.size from hx) (by omega))

end Go.Proofs.YtfgfomkhlhiiiaaR
