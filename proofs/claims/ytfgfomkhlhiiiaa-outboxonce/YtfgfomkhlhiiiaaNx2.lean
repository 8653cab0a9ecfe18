/- outbox: Next and Waits where nothing is due. -/
import Derived.Test.YtfgfomkhlhiiiaaNxt
namespace Go.Proofs.YtfgfomkhlhiiiaaR
open Go.RowKit Go.Shelf Go.Lib Go.Maps
set_option linter.unusedVariables false

variable {φ : Nat → Nat × Nat} {w : World} {b A A2 cm n cp : Nat} {o : Option Addr} {rm base sent en : Int} {V : Int → Prop}

set_option maxRecDepth 100000 in
theorem waits_no (limit : Int) (h : Ob φ w b A A2 cm o n cp rm base sent en V (fun _ => False)) (h0 : 0 ≤ base) (hb : base + n ≤ 4611686018427387903) (hs : ¬ sent < min limit (base + n)) (hE : EndQ sent (base + n) en = false) :
    Calls Try.prog 23 #[.pointer (some ⟨b, 0, none⟩), .int .i64 limit] w fun e w' => e = .returned (.bool false) ∧ Below w.heap.size w w' := by
  have H : Aside _ := h
  have hnn := none_ob _ b A h.c4
  have eg := eg48
  have hdue := due_end h (fun _ h => h) limit h0 hb hs
  clear h
  go_enter Try.func23, Try.ntmps23
  go_wp2_with fail
  refine hnn.mono ?_
  rintro e w' ⟨rfl, hw'⟩
  subst w'
  clear hnn
  go_wp2_with fail
  refine hdue.mono ?_
  rintro e w1 ⟨B2, rfl, d2, hb1⟩
  have H1 := H.out.below hb1
  have hd3 := due3_c w1 b B2 n cp o 1 base sent en d2 H1.c1 H1.c2 H1.c3 H1.c6 h0 hb
  rw [hE] at hd3
  have HB1 : Aside _ := hb1
  clear hdue hb1 d2 H1 hs
  go_wp2_with fail
  refine hd3.mono ?_
  rintro e w2 ⟨rfl, hb2⟩
  have HB2 : Aside (Below w.heap.size w w2) := HB1.out.trans (hb2.mono HB1.out.size)
  clear hd3 hb2
  go_wp2
  go_ret
  exact ⟨rfl, HB2.out⟩

set_option maxRecDepth 100000 in
theorem next_none (most limit : Int) (h : Ob φ w b A A2 cm o n cp rm base sent en V (fun _ => False)) (h0 : 0 ≤ base) (hb : base + n ≤ 4611686018427387903) (hm0 : 0 ≤ most) (hs : ¬ sent < min limit (base + n)) (hE : EndQ sent (base + n) en = false) :
    Calls Try.prog 13 #[.pointer (some ⟨b, 0, none⟩), .int .i64 most, .int .i64 limit] w fun e w' => e = .returned (.tuple #[.agg #[.int .i64 0, .slice none 0 0, .bool false], .bool false]) ∧ Below w.heap.size w w' := by
  have i1 : ¬ most < 0 := by omega
  obtain ⟨W0, hW0⟩ : ∃ W0, W0 = w.alloc (.cells #[.int .i64 0, .slice none 0 0, .bool false] 42) := ⟨_, rfl⟩
  have hb0 : Below w.heap.size w W0 := by rw [hW0]; exact (Below.refl _ w).alloc (Nat.le_refl _) _
  have hd0 : W0.heap[w.heap.size]? = some (.cells #[.int .i64 0, .slice none 0 0, .bool false] 42 (0, 0)) := by rw [hW0]; exact World.alloc_heap_new w _
  have h' := h.below hb0
  have hnn := none_ob _ b A h'.c4
  have hdue := due_end h' (fun _ h => h) limit h0 hb hs
  have H0 : Aside _ := h'
  have HB0 : Aside _ := hb0
  have HD0 : Aside _ := hd0
  have eg := eg48
  rw [hW0] at hnn hdue
  have HW0 : Aside _ := hW0
  clear h h' hb0 hd0 hW0
  go_enter Try.func13, Try.ntmps13
  go_wp2_with fail
  refine hnn.mono ?_
  rintro e w' ⟨rfl, hw'⟩
  subst w'
  clear hnn
  go_wp2_with fail
  refine hdue.mono ?_
  rintro e w1 ⟨B2, rfl, d2, hb1⟩
  rw [← HW0.out] at hb1
  have H1 := H0.out.below hb1
  have hd3 := due3_c w1 b B2 n cp o most base sent en d2 H1.c1 H1.c2 H1.c3 H1.c6 h0 hb
  rw [hE] at hd3
  have HB1 : Aside _ := hb1
  have HD1 : Aside _ := (hb1.block _ (Array.getElem?_eq_some_iff.1 HD0.out).1).trans HD0.out
  clear hdue hb1 d2 H1 hs
  go_wp2_with fail
  refine hd3.mono ?_
  rintro e w2 ⟨rfl, hb2⟩
  have HB2 : Aside (Below w.heap.size w w2) := HB0.out.trans ((HB1.out.mono HB0.out.size).trans (hb2.mono (Nat.le_trans HB0.out.size HB1.out.size)))
  have hD2 := (hb2.block _ (Array.getElem?_eq_some_iff.1 HD1.out).1).trans HD1.out
  have HHD : Aside _ := hD2
  have z0 : w2.cell? ⟨w.heap.size, 0, none⟩ = some (.int .i64 0) := by simp [World.cell?, hD2]
  have z1 : w2.cell? ⟨w.heap.size, 1, none⟩ = some (.slice none 0 0) := by simp [World.cell?, hD2]
  have z2 : w2.cell? ⟨w.heap.size, 2, none⟩ = some (.bool false) := by simp [World.cell?, hD2]
  have g0 : w2.frozen? ⟨w.heap.size, 0, none⟩ = false := by simp [World.frozen?, hD2]
  have g1 : w2.frozen? ⟨w.heap.size, 1, none⟩ = false := by simp [World.frozen?, hD2]
  have g2 : w2.frozen? ⟨w.heap.size, 2, none⟩ = false := by simp [World.frozen?, hD2]
  clear hd3 hb2 hD2
  go_wp2
  have hD2 := HHD.out
  clear z0 z1 z2 g0 g1 g2
  obtain ⟨W9, hW9⟩ : ∃ W9, W9 = ((w2.setCell ⟨w.heap.size, 0, none⟩ (.int .i64 0)).setCell ⟨w.heap.size, 1, none⟩ (.slice none 0 0)).setCell ⟨w.heap.size, 2, none⟩ (.bool false) := ⟨_, rfl⟩
  have e0 : (w2.setCell ⟨w.heap.size, 0, none⟩ (.int .i64 0)).heap[w.heap.size]? = some (.cells #[.int .i64 0, .slice none 0 0, .bool false] 42 (0, 0)) := by
    rw [setCell_eq_setRow w2 w.heap.size 0 _ 42 (0, 0) _ hD2, setRow_heap w2 w.heap.size _ _ 42 (0, 0) hD2]; simp
  have e1 : ((w2.setCell ⟨w.heap.size, 0, none⟩ (.int .i64 0)).setCell ⟨w.heap.size, 1, none⟩ (.slice none 0 0)).heap[w.heap.size]? = some (.cells #[.int .i64 0, .slice none 0 0, .bool false] 42 (0, 0)) := by
    rw [setCell_eq_setRow _ w.heap.size 1 _ 42 (0, 0) _ e0, setRow_heap _ w.heap.size _ _ 42 (0, 0) e0]; simp
  have k9a : W9.heap[w.heap.size]? = some (.cells #[.int .i64 0, .slice none 0 0, .bool false] 42 (0, 0)) := by
    rw [hW9, setCell_eq_setRow _ w.heap.size 2 _ 42 (0, 0) _ e1, setRow_heap _ w.heap.size _ _ 42 (0, 0) e1]; simp
  have k9c : Chg (fun k => k = w.heap.size) w2 W9 := by
    rw [hW9, setCell_eq_setRow _ w.heap.size 2 _ 42 (0, 0) _ e1, setCell_eq_setRow _ w.heap.size 1 _ 42 (0, 0) _ e0, setCell_eq_setRow w2 w.heap.size 0 _ 42 (0, 0) _ hD2]
    exact (((Chg.refl (fun k => k = w.heap.size) w2).set _ _ (.inl rfl)).set _ _ (.inl rfl)).set _ _ (.inl rfl)
  rw [← hW9]
  have r0 : W9.cell? ⟨w.heap.size, 0, none⟩ = some (.int .i64 0) := by simp [World.cell?, k9a]
  have r1 : W9.cell? ⟨w.heap.size, 1, none⟩ = some (.slice none 0 0) := by simp [World.cell?, k9a]
  have r2 : W9.cell? ⟨w.heap.size, 2, none⟩ = some (.bool false) := by simp [World.cell?, k9a]
  refine bodyPost_ret (v := .tuple #[.agg #[.int .i64 0, .slice none 0 0, .bool false], .bool false]) (by simp [results, Try.results13, go_sem, r0, r1, r2]) rfl ⟨rfl, HB2.out.trans ⟨k9c.1, k9c.2.1, k9c.2.2.1, k9c.2.2.2.1, fun k hk => k9c.2.2.2.2 k (Nat.lt_of_lt_of_le hk HB2.out.size) (show ¬ k = _ by omega)⟩⟩

end Go.Proofs.YtfgfomkhlhiiiaaR
