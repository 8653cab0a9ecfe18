/- mtu: Hole; the reference. -/
import Derived.Test.YtpafgoikhkidbaaAk
namespace Go.Proofs.Ytpafgoikhkidbaa
open Go.RowKit
set_option linter.unusedVariables false

set_option maxRecDepth 100000 in
theorem hole_c (b : Nat) (v : Mv) (w : World) (h : Rt 42 w b v) (ho : v.ok) : Calls Try.prog 17 #[.pointer (some ⟨b, 0, none⟩)] w fun e w' => e = .returned (.tuple #[]) ∧ Rt 42 w' b v.hole ∧ Tn b w w' := by
  have h1 := none_c b v w h ho
  have i1 : IntKind.i64.wrap (v.s - 1) = v.s - 1 := wrp _ (by have := ho.s0; have := ho.b0; omega) (by have := ho.c0; have := ho.c1; omega)
  have i2 := max_if (v.s - 1) v.b
  have r1 := h.set 2 (.int .i64 (max (v.s - 1) v.b)) { v with c := max (v.s - 1) v.b } rfl
  have T1 : Tn b w (w.setCell ⟨b, 2, none⟩ (.int .i64 (max (v.s - 1) v.b))) := Tn.set h 2 _
  have hHole : v.hole = { v with c := max (v.s - 1) v.b, s := v.b, l := 0 } := rfl
  rw [hHole]
  clear hHole
  obtain ⟨d0, d1, d2, d3⟩ := (h.below (Below.refl _ w).drew).cells
  have f2 : w.drew.frozen? ⟨b, 2, none⟩ = false := h.frozen 2
  generalize max (v.s - 1) v.b = M at *
  obtain ⟨W, hW⟩ : ∃ W, (w.setCell ⟨b, 2, none⟩ (.int .i64 M)).drew = W := ⟨_, rfl⟩
  have r2 : Rt 42 W b { v with c := M } := by rw [← hW]; exact r1
  have T2 : Tn b w W := by rw [← hW]; exact T1.trans (Tn.below (Below.refl _ _).drew)
  have r3 := r2.set 1 (.int .i64 v.b) { v with c := M, s := v.b } rfl
  have r4 := r3.set 3 (.int .i64 0) { v with c := M, s := v.b, l := 0 } rfl
  have HT : Aside (Tn b w ((W.setCell ⟨b, 1, none⟩ (.int .i64 v.b)).setCell ⟨b, 3, none⟩ (.int .i64 0))) := (T2.trans (Tn.set r2 1 _)).trans (Tn.set r3 3 _)
  have HR : Aside (Rt 42 ((W.setCell ⟨b, 1, none⟩ (.int .i64 v.b)).setCell ⟨b, 3, none⟩ (.int .i64 0)) b { v with c := M, s := v.b, l := 0 }) := r4
  have g1 := r2.frozen 1
  have g2 := r2.frozen 2
  have g3 := r2.frozen 3
  obtain ⟨e0, e1, e2, e3⟩ := r2.cells
  dsimp only at e0 e1 e2 e3
  clear r1 r2 r3 r4 T1 T2 h ho
  have E : Aside (W.cell? ⟨b, 1, none⟩ = some (.int .i64 v.s) ∧ W.cell? ⟨b, 0, none⟩ = some (.int .i64 v.b)) := ⟨e1, e0⟩
  go_enter Try.func17, Try.ntmps17
  go_wp2_with fail
  refine h1.mono ?_
  rintro e w' ⟨rfl, hw⟩
  subst w'
  go_wp2_with fail
  go_region_held3 (fun w' => w'.cell? ⟨b, 1, none⟩ = some (.int .i64 v.s) ∧ w'.cell? ⟨b, 0, none⟩ = some (.int .i64 v.b)) (first | exact ⟨d1, d0⟩ | exact E.out) (fail)
  go_wp2
  go_end0
  exact ⟨rfl, HR.out, HT.out⟩

theorem names_c (w : World) : Calls Try.prog 9 #[] w fun e w' => e = .returned (.bool true) ∧ w' = w := by
  go_enter Try.func9, Try.ntmps9
  go_wp2
  go_ret
  exact ⟨rfl, rfl⟩
theorem rnew_no (b m : Int) (w : World) (h : may b m = false) : Calls Try.prog 8 #[.int .i64 b, .int .i64 m] w fun e w' => e = .returned (.tuple #[.pointer none, .int .i64 2]) ∧ w' = w := by
  simp only [may, Bool.and_eq_false_iff, decide_eq_false_iff_not] at h
  by_cases h1 : b < 1200
  · clear h
    go_enter Try.func8, Try.ntmps8
    go_wp2
    go_ret2
    exact ⟨rfl, rfl⟩
  · by_cases h4 : 65527 < b
    · clear h
      go_enter Try.func8, Try.ntmps8
      go_wp2
      go_ret2
      exact ⟨rfl, rfl⟩
    · by_cases h2 : m < b
      · clear h
        go_enter Try.func8, Try.ntmps8
        go_wp2
        go_ret2
        exact ⟨rfl, rfl⟩
      · have h3 : 65527 < m := by omega
        clear h
        go_enter Try.func8, Try.ntmps8
        go_wp2
        go_ret2
        exact ⟨rfl, rfl⟩
theorem rnew_c (b m : Int) (w : World) (h : may b m = true) : Calls Try.prog 8 #[.int .i64 b, .int .i64 m] w fun e w' => e = .returned (.tuple #[.pointer (some ⟨w.heap.size, 0, none⟩), .int .i64 0]) ∧ Rt 35 w' w.heap.size (mv0 b m) ∧ Below w.heap.size w w' := by
  simp only [may, Bool.and_eq_true, decide_eq_true_eq] at h
  have h0 : ¬ b < 1200 := by omega
  have h4 : ¬ 65527 < b := by omega
  have h2 : ¬ m < b := by omega
  have h3 : ¬ 65527 < m := by omega
  have h1 : Rt 35 (w.alloc (.cells #[.int .i64 b, .int .i64 b, .int .i64 m, .int .i64 0] 35)) w.heap.size (mv0 b m) := heap_alloc_new w _
  clear h
  go_enter Try.func8, Try.ntmps8
  go_wp2
  go_ret2
  exact ⟨rfl, h1, bel1 _ _⟩
set_option maxRecDepth 100000 in
theorem rprobe_c (b : Nat) (v : Mv) (W : World) (h : Rt 35 W b v) (ho : v.ok) : Calls Try.prog 11 #[.pointer (some ⟨b, 0, none⟩)] W fun e w' => e = .returned (.tuple #[.int .i64 v.prb, .bool v.on]) ∧ Below W.heap.size W w' := by
  have i0 : IntKind.i64.wrap (v.c - v.s) = v.c - v.s := wrp _ (by have := ho.c0; have := ho.c1; omega) (by have := ho.s0; have := ho.b0; have := ho.c1; omega)
  have i1 : IntKind.i64.wrap (v.s + v.c) = v.s + v.c := wrp _ (by have := ho.c0; have := ho.s0; have := ho.b0; omega) (by have := ho.c0; have := ho.c1; omega)
  have i2 : IntKind.i64.wrap (v.s + v.c + 1) = v.s + v.c + 1 := wrp _ (by have := ho.c0; have := ho.s0; have := ho.b0; omega) (by have := ho.c0; have := ho.c1; omega)
  have i3 : (v.s + v.c + 1).tdiv 2 = (v.s + v.c + 1) / 2 := Int.tdiv_eq_ediv_of_nonneg (by have := ho.c0; have := ho.s0; have := ho.b0; omega)
  have i4 : IntKind.i64.wrap ((v.s + v.c + 1) / 2) = (v.s + v.c + 1) / 2 := wrp _ (by have := ho.c0; have := ho.s0; have := ho.b0; omega) (by have := ho.c0; have := ho.c1; omega)
  have hp0 : v.c - v.s < 20 → v.on = false ∧ v.prb = 0 := fun hx => ⟨decide_eq_false (by omega), by unfold Mv.prb; rw [if_pos (by omega)]⟩
  have hp1 : ¬ v.c - v.s < 20 → v.on = true ∧ v.prb = (v.s + v.c + 1) / 2 := fun hx => ⟨decide_eq_true (by omega), by unfold Mv.prb; rw [if_neg (by omega)]⟩
  obtain ⟨c0, c1, c2, c3⟩ := (h.below (Below.refl _ W).drew).cells
  have d1 : W.drew.drew.cell? ⟨b, 1, none⟩ = some (.int .i64 v.s) := c1
  have d2 : W.drew.drew.cell? ⟨b, 2, none⟩ = some (.int .i64 v.c) := c2
  have HB : Aside (Below W.heap.size W W.drew) := (Below.refl _ _).drew
  have HB2 : Aside (Below W.heap.size W W.drew.drew) := (Below.refl _ _).drew.drew
  clear h ho c0 c3
  by_cases hx : v.c - v.s < 20
  · obtain ⟨h1, h2⟩ := hp0 hx
    rw [h1, h2]
    clear hp0 hp1 h1 h2
    go_enter Try.func11, Try.ntmps11
    go_wp2_with fail
    go_region_held3 (fun w' => w'.cell? ⟨b, 1, none⟩ = some (.int .i64 v.s) ∧ w'.cell? ⟨b, 2, none⟩ = some (.int .i64 v.c)) (exact ⟨c1, c2⟩) (fail)
    go_wp2
    go_ret2
    exact ⟨rfl, HB.out⟩
  · obtain ⟨h1, h2⟩ := hp1 hx
    rw [h1, h2]
    clear hp0 hp1 h1 h2
    generalize (v.s + v.c + 1) / 2 = Q at *
    go_enter Try.func11, Try.ntmps11
    go_wp2_with fail
    go_region_held3 (fun w' => w'.cell? ⟨b, 1, none⟩ = some (.int .i64 v.s) ∧ w'.cell? ⟨b, 2, none⟩ = some (.int .i64 v.c)) (exact ⟨c1, c2⟩) (fail)
    go_wp2_with fail
    go_region_held3 (fun w' => w'.cell? ⟨b, 1, none⟩ = some (.int .i64 v.s) ∧ w'.cell? ⟨b, 2, none⟩ = some (.int .i64 v.c)) (exact ⟨d1, d2⟩) (fail)
    go_wp2
    go_ret2
    exact ⟨rfl, HB2.out⟩
end Go.Proofs.Ytpafgoikhkidbaa
