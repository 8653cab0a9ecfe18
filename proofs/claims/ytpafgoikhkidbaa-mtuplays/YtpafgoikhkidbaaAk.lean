/- mtu: New, wrong, Acked, Lost, Hole. -/
import Derived.Test.YtpafgoikhkidbaaWn
namespace Go.Proofs.Ytpafgoikhkidbaa
open Go.RowKit
set_option linter.unusedVariables false

/-- Whether New makes one. -/
def may (b m : Int) : Bool := decide (1200 ≤ b) && decide (b ≤ m) && decide (m ≤ 65527)
def mv0 (b m : Int) : Mv := ⟨b, b, m, 0⟩
theorem mv0_ok {b m : Int} (h : may b m = true) : (mv0 b m).ok := by
  simp only [may, Bool.and_eq_true, decide_eq_true_eq] at h
  constructor <;> simp only [mv0] <;> omega
theorem new_no (b m : Int) (w : World) (h : may b m = false) : Calls Try.prog 7 #[.int .i64 b, .int .i64 m] w fun e w' => e = .returned (.tuple #[.pointer none, .int .i64 2]) ∧ w' = w := by
  simp only [may, Bool.and_eq_false_iff, decide_eq_false_iff_not] at h
  by_cases h1 : b < 1200
  · clear h
    go_enter Try.func7, Try.ntmps7
    go_wp2
    go_ret2
    exact ⟨rfl, rfl⟩
  · by_cases h2 : m < b
    · clear h
      go_enter Try.func7, Try.ntmps7
      go_wp2
      go_ret2
      exact ⟨rfl, rfl⟩
    · have h3 : 65527 < m := by omega
      clear h
      go_enter Try.func7, Try.ntmps7
      go_wp2
      go_ret2
      exact ⟨rfl, rfl⟩
theorem new_c (b m : Int) (w : World) (h : may b m = true) : Calls Try.prog 7 #[.int .i64 b, .int .i64 m] w fun e w' => e = .returned (.tuple #[.pointer (some ⟨w.heap.size, 0, none⟩), .int .i64 0]) ∧ Rt 42 w' w.heap.size (mv0 b m) ∧ Below w.heap.size w w' := by
  simp only [may, Bool.and_eq_true, decide_eq_true_eq] at h
  have h0 : ¬ b < 1200 := by omega
  have h2 : ¬ m < b := by omega
  have h3 : ¬ 65527 < m := by omega
  have h1 : Rt 42 (w.alloc (.cells #[.int .i64 b, .int .i64 b, .int .i64 m, .int .i64 0] 42)) w.heap.size (mv0 b m) := heap_alloc_new w _
  clear h
  go_enter Try.func7, Try.ntmps7
  go_wp2
  go_ret2
  exact ⟨rfl, h1, bel1 _ _⟩
/-- The code that is told where something is wrong. -/
def Mv.er (v : Mv) (n : Int) : Int := if v.wr n then 2 else 0
set_option maxRecDepth 100000 in
theorem wrong_c (b : Nat) (v : Mv) (n : Int) (w : World) (h : Rt 42 w b v) (ho : v.ok) : Calls Try.prog 21 #[.pointer (some ⟨b, 0, none⟩), .int .i64 n] w fun e w' => e = .returned (.int .i64 (v.er n)) ∧ Below w.heap.size w w' := by
  have h1 := none_c b v w h ho
  have h2 := probe_c b v w h ho
  have hE : Aside (v.er n = if (!v.on || n != v.prb) then 2 else 0) := rfl
  generalize v.er n = E at *
  generalize v.on = ON at *
  generalize v.prb = P at *
  clear h ho
  cases ON
  · obtain rfl : E = 2 := by rw [hE.out]; rfl
    clear hE
    go_enter Try.func21, Try.ntmps21
    go_wp2_with fail
    refine h1.mono ?_
    rintro e w' ⟨rfl, hw⟩
    subst w'
    go_wp2_with fail
    refine h2.mono ?_
    rintro e w' ⟨rfl, hb⟩
    have HB : Aside (Below w.heap.size w w') := hb
    clear hb
    go_wp2
    go_ret
    exact ⟨rfl, HB.out⟩
  · by_cases hn : n = P
    · obtain rfl : E = 0 := by rw [hE.out]; simp [hn]
      clear hE
      have hn' : (n != P) = false := by simp [hn]
      subst n
      go_enter Try.func21, Try.ntmps21
      go_wp2_with fail
      refine h1.mono ?_
      rintro e w' ⟨rfl, hw⟩
      subst w'
      go_wp2_with fail
      refine h2.mono ?_
      rintro e w' ⟨rfl, hb⟩
      have HB : Aside (Below w.heap.size w w') := hb
      clear hb
      go_wp2
      go_ret
      exact ⟨rfl, HB.out⟩
    · obtain rfl : E = 2 := by rw [hE.out]; simp [hn]
      clear hE
      have hn' : (n != P) = true := by simp [hn]
      have hn2 : (n == P) = false := by simp [hn]
      go_enter Try.func21, Try.ntmps21
      go_wp2_with fail
      refine h1.mono ?_
      rintro e w' ⟨rfl, hw⟩
      subst w'
      go_wp2_with fail
      refine h2.mono ?_
      rintro e w' ⟨rfl, hb⟩
      have HB : Aside (Below w.heap.size w w') := hb
      clear hb
      go_wp2
      go_ret
      exact ⟨rfl, HB.out⟩
set_option maxRecDepth 100000 in
theorem acked_c (b : Nat) (v : Mv) (n : Int) (w : World) (h : Rt 42 w b v) (ho : v.ok) : Calls Try.prog 13 #[.pointer (some ⟨b, 0, none⟩), .int .i64 n] w fun e w' => e = .returned (.int .i64 (v.ack n).1) ∧ Rt 42 w' b (v.ack n).2 ∧ Tn b w w' := by
  have h1 := wrong_c b v n w h ho
  have H : Aside (Rt 42 w b v) := h
  have hL : Aside (v.ack n = if v.wr n then (2, v) else (0, { v with s := n, l := 0 })) := rfl
  clear h ho
  unfold Mv.er at h1
  generalize v.ack n = Q at *
  cases hw : v.wr n
  · rw [hw] at h1
    simp only [Bool.false_eq_true, if_false] at h1
    obtain rfl : Q = (0, { v with s := n, l := 0 }) := by rw [hL.out, hw]; rfl
    clear hL hw
    go_enter Try.func13, Try.ntmps13
    go_wp2_with fail
    refine h1.mono ?_
    rintro e w1 ⟨rfl, hb⟩
    have r0 := H.out.below hb
    have r1 := r0.set 1 (.int .i64 n) { v with s := n } rfl
    have r2 := r1.set 3 (.int .i64 0) { v with s := n, l := 0 } rfl
    have HT : Aside (Tn b w ((w1.setCell ⟨b, 1, none⟩ (.int .i64 n)).setCell ⟨b, 3, none⟩ (.int .i64 0))) := ((Tn.below hb).trans (Tn.set r0 1 _)).trans (Tn.set r1 3 _)
    have f1 := r0.frozen 1
    have f3 := r0.frozen 3
    obtain ⟨c0, c1, c2, c3⟩ := r0.cells
    have HR : Aside (Rt 42 ((w1.setCell ⟨b, 1, none⟩ (.int .i64 n)).setCell ⟨b, 3, none⟩ (.int .i64 0)) b { v with s := n, l := 0 }) := r2
    clear h1 hb H r0 r1 r2
    go_wp2
    go_ret
    exact ⟨rfl, HR.out, HT.out⟩
  · rw [hw] at h1
    simp only [if_true] at h1
    obtain rfl : Q = (2, v) := by rw [hL.out, hw]; rfl
    clear hL hw
    go_enter Try.func13, Try.ntmps13
    go_wp2_with fail
    refine h1.mono ?_
    rintro e w1 ⟨rfl, hb⟩
    have HB : Aside (Below w.heap.size w w1) := hb
    clear hb
    go_wp2
    go_ret
    exact ⟨rfl, H.out.below HB.out, Tn.below HB.out⟩
set_option maxRecDepth 100000 in
theorem lost_c (b : Nat) (v : Mv) (n : Int) (w : World) (h : Rt 42 w b v) (ho : v.ok) : Calls Try.prog 15 #[.pointer (some ⟨b, 0, none⟩), .int .i64 n] w fun e w' => e = .returned (.int .i64 (v.lose n).1) ∧ Rt 42 w' b (v.lose n).2 ∧ Tn b w w' := by
  have h1 := wrong_c b v n w h ho
  have H : Aside (Rt 42 w b v) := h
  have hL : Aside (v.lose n = if v.wr n then (2, v) else (0, if v.l = 2 then { v with c := n - 1, l := 0 } else { v with l := v.l + 1 })) := rfl
  have hl0 := ho.l0
  have hl1 := ho.l1
  have hpb := v.prb_b ho
  unfold Mv.er at h1
  generalize v.lose n = Q at *
  cases hw : v.wr n
  · obtain ⟨g1, g2⟩ := Mv.wr_no hw
    obtain ⟨p0, p1, p2⟩ := hpb g1
    rw [← g2] at p0 p1 p2
    have i1 : IntKind.i64.wrap (v.l + 1) = v.l + 1 := wrp _ (by omega) (by omega)
    have i2 : IntKind.i64.wrap (n - 1) = n - 1 := wrp _ (by have := ho.b0; have := ho.s0; omega) (by omega)
    rw [hw] at h1
    simp only [Bool.false_eq_true, if_false] at h1
    rw [hw] at hL
    obtain ⟨bb, s, c, l⟩ := v
    dsimp only at *
    clear g1 g2 hw h ho hpb
    by_cases hl : l = 2
    · subst hl
      obtain rfl : Q = (0, ⟨bb, s, n - 1, 0⟩) := by rw [hL.out]; rfl
      clear hL hl0 hl1
      go_enter Try.func15, Try.ntmps15
      go_wp2_with fail
      refine h1.mono ?_
      rintro e w1 ⟨rfl, hb⟩
      have r0 := H.out.below hb
      have r1 := r0.set 3 (.int .i64 3) ⟨bb, s, c, 3⟩ rfl
      have r2 := r1.set 2 (.int .i64 (n - 1)) ⟨bb, s, n - 1, 3⟩ rfl
      have r3 := r2.set 3 (.int .i64 0) ⟨bb, s, n - 1, 0⟩ rfl
      have HT : Aside (Tn b w (((w1.setCell ⟨b, 3, none⟩ (.int .i64 3)).setCell ⟨b, 2, none⟩ (.int .i64 (n - 1))).setCell ⟨b, 3, none⟩ (.int .i64 0))) := (((Tn.below hb).trans (Tn.set r0 3 _)).trans (Tn.set r1 2 _)).trans (Tn.set r2 3 _)
      have f2 := r0.frozen 2
      have f3 := r0.frozen 3
      obtain ⟨c0, c1, c2, c3⟩ := r0.cells
      dsimp only at c0 c1 c2 c3
      have HR : Aside (Rt 42 (((w1.setCell ⟨b, 3, none⟩ (.int .i64 3)).setCell ⟨b, 2, none⟩ (.int .i64 (n - 1))).setCell ⟨b, 3, none⟩ (.int .i64 0)) b ⟨bb, s, n - 1, 0⟩) := r3
      clear h1 hb H r0 r1 r2 r3 p0 p1 p2 i1
      go_wp2
      go_ret
      exact ⟨rfl, HR.out, HT.out⟩
    · obtain rfl : Q = (0, ⟨bb, s, c, l + 1⟩) := by rw [hL.out]; simp [hl]
      have hl3 : (l + 1 == 3) = false := by simp; omega
      have hl4 : ¬ l + 1 = 3 := by omega
      clear hL hl0 hl1 hl
      go_enter Try.func15, Try.ntmps15
      go_wp2_with fail
      refine h1.mono ?_
      rintro e w1 ⟨rfl, hb⟩
      have r0 := H.out.below hb
      have r1 := r0.set 3 (.int .i64 (l + 1)) ⟨bb, s, c, l + 1⟩ rfl
      have HT : Aside (Tn b w (w1.setCell ⟨b, 3, none⟩ (.int .i64 (l + 1)))) := (Tn.below hb).trans (Tn.set r0 3 _)
      have f3 := r0.frozen 3
      obtain ⟨c0, c1, c2, c3⟩ := r0.cells
      dsimp only at c0 c1 c2 c3
      have HR : Aside (Rt 42 (w1.setCell ⟨b, 3, none⟩ (.int .i64 (l + 1))) b ⟨bb, s, c, l + 1⟩) := r1
      clear h1 hb H r0 r1 p0 p1 p2 i2
      go_wp2
      go_ret
      exact ⟨rfl, HR.out, HT.out⟩
  · rw [hw] at h1
    simp only [if_true] at h1
    obtain rfl : Q = (2, v) := by rw [hL.out, hw]; rfl
    clear hL hw hl0 hl1 hpb h ho
    go_enter Try.func15, Try.ntmps15
    go_wp2_with fail
    refine h1.mono ?_
    rintro e w1 ⟨rfl, hb⟩
    have HB : Aside (Below w.heap.size w w1) := hb
    clear hb
    go_wp2
    go_ret
    exact ⟨rfl, H.out.below HB.out, Tn.below HB.out⟩
end Go.Proofs.Ytpafgoikhkidbaa
