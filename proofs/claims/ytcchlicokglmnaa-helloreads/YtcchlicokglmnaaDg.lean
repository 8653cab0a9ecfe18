/- The reader's two flags. -/
import Derived.Test.YtcchlicokglmnaaDf
namespace Go.Proofs.Ytcchlicokglmnaa
open Go.ChangeShapes Go.WideShapes Go.ChangeAt Go.RowKit Go.Lib
set_option linter.unusedVariables false

section
variable {w : World} {p : Nat} {o : Option Addr} {L : List UInt8} {c : Nat} {s : Sd}
/-- What flags leaves that fills in two flags. -/
def Df2 (p : Nat) (o : Option Addr) (L : List UInt8) (c : Nat) (s' : Sd) (q : Nat) (cs' : Array Value) (t : Nat) (q1 : Nat) (cs1 : Array Value) (t1 : Nat) (w : World) (e : Ending) (w' : World) : Prop :=
  e = .returned (.tuple #[]) ∧ Rr w' p o L c s'.1 s'.2 ∧ w'.heap[q]? = some (.cells cs' t (0, 0)) ∧ w'.heap[q1]? = some (.cells cs1 t1 (0, 0)) ∧ Gs (fun k => k = p ∨ k = q ∨ k = q1) w w'
set_option maxRecDepth 10000 in
set_option maxHeartbeats 1000000 in
theorem dflags2_c (h : Rr w p o L c s.1 s.2) (hL : L.length ≤ 9223372036854775000) (k : Nat) (q j : Nat) (cs : Array Value) (t : Nat) (b0 : Bool) (q1 j1 : Nat) (cs1 : Array Value) (t1 : Nat) (b1 : Bool) (hk : w.heap[k]? = some (.cells #[.pointer (some ⟨q, j, none⟩), .pointer (some ⟨q1, j1, none⟩)] 84 (0, 0))) (hkp : k ≠ p) (hkq : k ≠ q) (hq : w.heap[q]? = some (.cells cs t (0, 0))) (hj : cs[j]? = some (.bool b0)) (hqp : q ≠ p) (hqb : ∀ x, o = some x → L ≠ [] → x.block ≠ q)
    (hq1 : w.heap[q1]? = some (.cells cs1 t1 (0, 0))) (hj1 : cs1[j1]? = some (.bool b1)) (hqp1 : q1 ≠ p) (hqb1 : ∀ x, o = some x → L ≠ [] → x.block ≠ q1) (hqq : q ≠ q1) :
    Calls Try.prog 61 #[.pointer (some ⟨p, 0, none⟩), .slice (some ⟨k, 0, none⟩) 2 2] w (Df2 p o L c (dN L 1 0 3 s).1 q (cs.setIfInBounds j (.bool (decide ((dN L 1 0 3 s).2 % 2 = 1)))) t q1 (cs1.setIfInBounds j1 (.bool (decide ((dN L 1 0 3 s).2 / 2 = 1)))) t1 w) := by
  have HN : Hid _ := dnum_box h hL 1 (by decide) (by decide) 0 3
  have hql := lt_block hq
  have hql1 := lt_block hq1
  have hkl := lt_block hk
  have hv : (dN L 1 0 3 s).2 ≤ 3 := dN_le L 1 3 s
  have HEND : Hid (∀ X, Gs (fun k => k = p) w X → Rr X p o L c (dN L 1 0 3 s).1.1 (dN L 1 0 3 s).1.2 → X.cell? ⟨k, 0, none⟩ = some (.pointer (some ⟨q, j, none⟩)) ∧ X.cell? ⟨q, j, none⟩ = some (.bool b0) ∧ X.frozen? ⟨q, j, none⟩ = false ∧
      (X.setCell ⟨q, j, none⟩ (.bool (decide ((dN L 1 0 3 s).2 % 2 = 1)))).cell? ⟨k, 1, none⟩ = some (.pointer (some ⟨q1, j1, none⟩)) ∧ (X.setCell ⟨q, j, none⟩ (.bool (decide ((dN L 1 0 3 s).2 % 2 = 1)))).cell? ⟨w.heap.size, 0, none⟩ = X.cell? ⟨w.heap.size, 0, none⟩ ∧ (X.setCell ⟨q, j, none⟩ (.bool (decide ((dN L 1 0 3 s).2 % 2 = 1)))).cell? ⟨q1, j1, none⟩ = some (.bool b1) ∧ (X.setCell ⟨q, j, none⟩ (.bool (decide ((dN L 1 0 3 s).2 % 2 = 1)))).frozen? ⟨q1, j1, none⟩ = false ∧
      Df2 p o L c (dN L 1 0 3 s).1 q (cs.setIfInBounds j (.bool (decide ((dN L 1 0 3 s).2 % 2 = 1)))) t q1 (cs1.setIfInBounds j1 (.bool (decide ((dN L 1 0 3 s).2 / 2 = 1)))) t1 w (.returned (.tuple #[])) ((X.setCell ⟨q, j, none⟩ (.bool (decide ((dN L 1 0 3 s).2 % 2 = 1)))).setCell ⟨q1, j1, none⟩ (.bool (decide ((dN L 1 0 3 s).2 / 2 = 1))))) := by
    intro X hg hr
    have hrow : X.heap[q]? = some (.cells cs t (0, 0)) := (hg.block q hql hqp).trans hq
    have hrow1 : X.heap[q1]? = some (.cells cs1 t1 (0, 0)) := (hg.block q1 hql1 hqp1).trans hq1
    have hkrow := (hg.block k hkl hkp).trans hk
    have hg3 : Gs (fun k => k = q) X (X.setCell ⟨q, j, none⟩ (.bool (decide ((dN L 1 0 3 s).2 % 2 = 1)))) := Gs.set _ rfl
    have hnew : (X.setCell ⟨q, j, none⟩ (.bool (decide ((dN L 1 0 3 s).2 % 2 = 1)))).heap[q]? = some (.cells (cs.setIfInBounds j (.bool (decide ((dN L 1 0 3 s).2 % 2 = 1)))) t (0, 0)) := by rw [heap_setCell_same X q j _ t _ hrow]
    have hk3 := (hg3.block k (Nat.lt_of_lt_of_le hkl hg.size) hkq).trans hkrow
    have hq3 := (hg3.block q1 (Nat.lt_of_lt_of_le hql1 hg.size) (fun hh => hqq hh.symm)).trans hrow1
    have hr3 := hr.gs hg3 (fun hh => hqp hh.symm) (fun x hx hl hh => hqb x hx hl hh)
    have hbx : (X.setCell ⟨q, j, none⟩ (.bool (decide ((dN L 1 0 3 s).2 % 2 = 1)))).heap[w.heap.size]? = X.heap[w.heap.size]? := Below.heap_setCell _ _ _ _ (by show w.heap.size ≠ q; omega)
    generalize X.setCell ⟨q, j, none⟩ (.bool (decide ((dN L 1 0 3 s).2 % 2 = 1))) = Y at *
    have hg4 : Gs (fun k => k = q1) Y (Y.setCell ⟨q1, j1, none⟩ (.bool (decide ((dN L 1 0 3 s).2 / 2 = 1)))) := Gs.set _ rfl
    have hgY : Gs (fun k => k = p ∨ k = q ∨ k = q1) w Y := (hg.mono fun k hk => .inl hk).trans (hg3.mono fun k hk => .inr (.inl hk))
    refine ⟨by unfold World.cell?; rw [hkrow]; rfl, by unfold World.cell?; rw [hrow]; exact hj, by unfold World.frozen?; rw [hrow]; simp, by unfold World.cell?; rw [hk3]; rfl, by unfold World.cell?; rw [hbx], by unfold World.cell?; rw [hq3]; exact hj1, by unfold World.frozen?; rw [hq3]; simp, rfl, ?_, ?_, ?_, hgY.trans (hg4.mono fun k hk => .inr (.inr hk))⟩
    · exact hr3.gs hg4 (fun hh => hqp1 hh.symm) (fun x hx hl hh => hqb1 x hx hl hh)
    · exact (hg4.block q (lt_block hnew) hqq).trans hnew
    · rw [heap_setCell_same Y q1 j1 _ t1 _ hq3]
  have o1 : bits .and .i64 0 1 = 0 := by rfl
  have o2 : bits .and .i64 1 1 = 1 := by rfl
  have o3 : bits .and .i64 2 1 = 0 := by rfl
  have o4 : bits .and .i64 3 1 = 1 := by rfl
  clear h hk hq hj hqb hq1 hj1 hqb1
  generalize Df2 p o L c (dN L 1 0 3 s).1 q (cs.setIfInBounds j (.bool (decide ((dN L 1 0 3 s).2 % 2 = 1)))) t q1 (cs1.setIfInBounds j1 (.bool (decide ((dN L 1 0 3 s).2 / 2 = 1)))) t1 w = QQ at *
  obtain ⟨V, hV⟩ : ∃ V, (dN L 1 0 3 s).2 = V := ⟨_, rfl⟩
  rw [hV] at HN HEND hv
  generalize (dN L 1 0 3 s).1 = s1 at *
  clear hV
  obtain rfl | rfl | rfl | rfl : V = 0 ∨ V = 1 ∨ V = 2 ∨ V = 3 := by omega
  · go_enter Try.func61, Try.ntmps61
    go_wp2_with fail
    refine Calls.mono HN.out ?_
    rintro e W2 ⟨rfl, h2, c2, g2⟩
    obtain ⟨k1, k2, k3, k4, k5, k6, k7, k8⟩ := HEND.out W2 g2 h2
    rw [c2] at k5
    obtain ⟨W3, hW3⟩ : ∃ W3, W3 = W2.setCell ⟨q, j, none⟩ (.bool false) := ⟨_, rfl⟩
    have K4 : Hid (W3.cell? ⟨k, 1, none⟩ = some (.pointer (some ⟨q1, j1, none⟩))) := by rw [hW3]; exact k4
    have K5 : Hid (W3.cell? ⟨w.heap.size, 0, none⟩ = some (.int .i64 0)) := by rw [hW3]; exact k5
    have K6 : Hid (W3.cell? ⟨q1, j1, none⟩ = some (.bool b1)) := by rw [hW3]; exact k6
    have K7 : Hid (W3.frozen? ⟨q1, j1, none⟩ = false) := by rw [hW3]; exact k7
    have HF : Hid (QQ (.returned (.tuple #[])) (W3.setCell ⟨q1, j1, none⟩ (.bool false))) := by rw [hW3]; exact k8
    have HW : Hid _ := hW3
    clear h2 g2 HN HEND k8 k4 k5 k6 k7 hW3
    as_aux_lemma =>
    go_wp2_with fail
    refine wp_loop_rounds 3 ?_
    rw [rounds_succ]
    go_wp2_with fail
    rw [rounds_succ]
    rw [← HW.out]
    have k4 := K4.out
    have k5 := K5.out
    have k6 := K6.out
    have k7 := K7.out
    clear k1 k2 k3 c2 HW K4 K5 K6 K7
    as_aux_lemma =>
    go_wp2_with fail
    rw [rounds_succ]
    go_wp2_with fail
    go_end0
    exact HF.out
  · go_enter Try.func61, Try.ntmps61
    go_wp2_with fail
    refine Calls.mono HN.out ?_
    rintro e W2 ⟨rfl, h2, c2, g2⟩
    obtain ⟨k1, k2, k3, k4, k5, k6, k7, k8⟩ := HEND.out W2 g2 h2
    rw [c2] at k5
    obtain ⟨W3, hW3⟩ : ∃ W3, W3 = W2.setCell ⟨q, j, none⟩ (.bool true) := ⟨_, rfl⟩
    have K4 : Hid (W3.cell? ⟨k, 1, none⟩ = some (.pointer (some ⟨q1, j1, none⟩))) := by rw [hW3]; exact k4
    have K5 : Hid (W3.cell? ⟨w.heap.size, 0, none⟩ = some (.int .i64 1)) := by rw [hW3]; exact k5
    have K6 : Hid (W3.cell? ⟨q1, j1, none⟩ = some (.bool b1)) := by rw [hW3]; exact k6
    have K7 : Hid (W3.frozen? ⟨q1, j1, none⟩ = false) := by rw [hW3]; exact k7
    have HF : Hid (QQ (.returned (.tuple #[])) (W3.setCell ⟨q1, j1, none⟩ (.bool false))) := by rw [hW3]; exact k8
    have HW : Hid _ := hW3
    clear h2 g2 HN HEND k8 k4 k5 k6 k7 hW3
    as_aux_lemma =>
    go_wp2_with fail
    refine wp_loop_rounds 3 ?_
    rw [rounds_succ]
    go_wp2_with fail
    rw [rounds_succ]
    rw [← HW.out]
    have k4 := K4.out
    have k5 := K5.out
    have k6 := K6.out
    have k7 := K7.out
    clear k1 k2 k3 c2 HW K4 K5 K6 K7
    as_aux_lemma =>
    go_wp2_with fail
    rw [rounds_succ]
    go_wp2_with fail
    go_end0
    exact HF.out
  · go_enter Try.func61, Try.ntmps61
    go_wp2_with fail
    refine Calls.mono HN.out ?_
    rintro e W2 ⟨rfl, h2, c2, g2⟩
    obtain ⟨k1, k2, k3, k4, k5, k6, k7, k8⟩ := HEND.out W2 g2 h2
    rw [c2] at k5
    obtain ⟨W3, hW3⟩ : ∃ W3, W3 = W2.setCell ⟨q, j, none⟩ (.bool false) := ⟨_, rfl⟩
    have K4 : Hid (W3.cell? ⟨k, 1, none⟩ = some (.pointer (some ⟨q1, j1, none⟩))) := by rw [hW3]; exact k4
    have K5 : Hid (W3.cell? ⟨w.heap.size, 0, none⟩ = some (.int .i64 2)) := by rw [hW3]; exact k5
    have K6 : Hid (W3.cell? ⟨q1, j1, none⟩ = some (.bool b1)) := by rw [hW3]; exact k6
    have K7 : Hid (W3.frozen? ⟨q1, j1, none⟩ = false) := by rw [hW3]; exact k7
    have HF : Hid (QQ (.returned (.tuple #[])) (W3.setCell ⟨q1, j1, none⟩ (.bool true))) := by rw [hW3]; exact k8
    have HW : Hid _ := hW3
    clear h2 g2 HN HEND k8 k4 k5 k6 k7 hW3
    as_aux_lemma =>
    go_wp2_with fail
    refine wp_loop_rounds 3 ?_
    rw [rounds_succ]
    go_wp2_with fail
    rw [rounds_succ]
    rw [← HW.out]
    have k4 := K4.out
    have k5 := K5.out
    have k6 := K6.out
    have k7 := K7.out
    clear k1 k2 k3 c2 HW K4 K5 K6 K7
    as_aux_lemma =>
    go_wp2_with fail
    rw [rounds_succ]
    go_wp2_with fail
    go_end0
    exact HF.out
  · go_enter Try.func61, Try.ntmps61
    go_wp2_with fail
    refine Calls.mono HN.out ?_
    rintro e W2 ⟨rfl, h2, c2, g2⟩
    obtain ⟨k1, k2, k3, k4, k5, k6, k7, k8⟩ := HEND.out W2 g2 h2
    rw [c2] at k5
    obtain ⟨W3, hW3⟩ : ∃ W3, W3 = W2.setCell ⟨q, j, none⟩ (.bool true) := ⟨_, rfl⟩
    have K4 : Hid (W3.cell? ⟨k, 1, none⟩ = some (.pointer (some ⟨q1, j1, none⟩))) := by rw [hW3]; exact k4
    have K5 : Hid (W3.cell? ⟨w.heap.size, 0, none⟩ = some (.int .i64 3)) := by rw [hW3]; exact k5
    have K6 : Hid (W3.cell? ⟨q1, j1, none⟩ = some (.bool b1)) := by rw [hW3]; exact k6
    have K7 : Hid (W3.frozen? ⟨q1, j1, none⟩ = false) := by rw [hW3]; exact k7
    have HF : Hid (QQ (.returned (.tuple #[])) (W3.setCell ⟨q1, j1, none⟩ (.bool true))) := by rw [hW3]; exact k8
    have HW : Hid _ := hW3
    clear h2 g2 HN HEND k8 k4 k5 k6 k7 hW3
    as_aux_lemma =>
    go_wp2_with fail
    refine wp_loop_rounds 3 ?_
    rw [rounds_succ]
    go_wp2_with fail
    rw [rounds_succ]
    rw [← HW.out]
    have k4 := K4.out
    have k5 := K5.out
    have k6 := K6.out
    have k7 := K7.out
    clear k1 k2 k3 c2 HW K4 K5 K6 K7
    as_aux_lemma =>
    go_wp2_with fail
    rw [rounds_succ]
    go_wp2_with fail
    go_end0
    exact HF.out
end
end Go.Proofs.Ytcchlicokglmnaa