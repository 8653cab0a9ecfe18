/- The reader's flags. -/
import Derived.Test.YtcchlicokglmnaaDl
import Derived.Test.YtcchlicokglmnaaHf
namespace Go.Proofs.Ytcchlicokglmnaa
open Go.ChangeShapes Go.WideShapes Go.ChangeAt Go.RowKit Go.Lib
set_option linter.unusedVariables false

theorem dN_le (L : List UInt8) (n : Nat) (most : Nat) (s : Sd) : (dN L n 0 most s).2 ≤ most := by
  unfold dN
  simp only
  split
  · omega
  · rename_i h
    simp [nmOk] at h
    omega
section
variable {w : World} {p : Nat} {o : Option Addr} {L : List UInt8} {c : Nat} {s : Sd}
/-- What flags leaves that fills in one flag. -/
def Df1 (p : Nat) (o : Option Addr) (L : List UInt8) (c : Nat) (s' : Sd) (q : Nat) (cs' : Array Value) (t : Nat) (w : World) (e : Ending) (w' : World) : Prop :=
  e = .returned (.tuple #[]) ∧ Rr w' p o L c s'.1 s'.2 ∧ w'.heap[q]? = some (.cells cs' t (0, 0)) ∧ Gs (fun k => k = p ∨ k = q) w w'
set_option maxRecDepth 10000 in
set_option maxHeartbeats 1000000 in
theorem dflags1_c (h : Rr w p o L c s.1 s.2) (hL : L.length ≤ 9223372036854775000) (k : Nat) (q j : Nat) (cs : Array Value) (t : Nat) (b0 : Bool) (hk : w.heap[k]? = some (.cells #[.pointer (some ⟨q, j, none⟩)] 84 (0, 0))) (hkp : k ≠ p) (hq : w.heap[q]? = some (.cells cs t (0, 0))) (hj : cs[j]? = some (.bool b0)) (hqp : q ≠ p) (hqb : ∀ x, o = some x → L ≠ [] → x.block ≠ q) :
    Calls Try.prog 61 #[.pointer (some ⟨p, 0, none⟩), .slice (some ⟨k, 0, none⟩) 1 1] w (Df1 p o L c (dN L 1 0 1 s).1 q (cs.setIfInBounds j (.bool (decide ((dN L 1 0 1 s).2 = 1)))) t w) := by
  have HN : Hid _ := dnum_box h hL 1 (by decide) (by decide) 0 1
  have hql := lt_block hq
  have hkl := lt_block hk
  have hv : (dN L 1 0 1 s).2 ≤ 1 := dN_le L 1 1 s
  have HEND : Hid (∀ X, Gs (fun k => k = p) w X → Rr X p o L c (dN L 1 0 1 s).1.1 (dN L 1 0 1 s).1.2 → X.cell? ⟨k, 0, none⟩ = some (.pointer (some ⟨q, j, none⟩)) ∧ X.cell? ⟨q, j, none⟩ = some (.bool b0) ∧ X.frozen? ⟨q, j, none⟩ = false ∧ Df1 p o L c (dN L 1 0 1 s).1 q (cs.setIfInBounds j (.bool (decide ((dN L 1 0 1 s).2 = 1)))) t w (.returned (.tuple #[])) (X.setCell ⟨q, j, none⟩ (.bool (decide ((dN L 1 0 1 s).2 = 1))))) := by
    intro X hg hr
    have hrow : X.heap[q]? = some (.cells cs t (0, 0)) := (hg.block q hql hqp).trans hq
    have hkrow := (hg.block k hkl hkp).trans hk
    have hg3 : Gs (fun k => k = q) X (X.setCell ⟨q, j, none⟩ (.bool (decide ((dN L 1 0 1 s).2 = 1)))) := Gs.set _ rfl
    refine ⟨by unfold World.cell?; rw [hkrow]; rfl, by unfold World.cell?; rw [hrow]; exact hj, by unfold World.frozen?; rw [hrow]; simp, rfl, ?_, ?_, (hg.mono fun k hk => .inl hk).trans (hg3.mono fun k hk => .inr hk)⟩
    · exact hr.gs hg3 (fun hh => hqp hh.symm) (fun x hx hl hh => hqb x hx hl hh)
    · rw [heap_setCell_same X q j _ t _ hrow]
  have o1 : bits .and .i64 0 1 = 0 := by rfl
  have o2 : bits .and .i64 1 1 = 1 := by rfl
  clear h hk hq hj hqb
  generalize Df1 p o L c (dN L 1 0 1 s).1 q (cs.setIfInBounds j (.bool (decide ((dN L 1 0 1 s).2 = 1)))) t w = QQ at *
  obtain ⟨V, hV⟩ : ∃ V, (dN L 1 0 1 s).2 = V := ⟨_, rfl⟩
  rw [hV] at HN HEND hv
  generalize (dN L 1 0 1 s).1 = s1 at *
  clear hV
  obtain rfl | rfl : V = 0 ∨ V = 1 := by omega
  · go_enter Try.func61, Try.ntmps61
    go_wp2_with fail
    refine Calls.mono HN.out ?_
    rintro e W2 ⟨rfl, h2, c2, g2⟩
    obtain ⟨k1, k2, k3, k4⟩ := HEND.out W2 g2 h2
    have HF : Hid (QQ (.returned (.tuple #[])) (W2.setCell ⟨q, j, none⟩ (.bool false))) := k4
    clear h2 g2 HN HEND k4
    as_aux_lemma =>
    go_wp2_with fail
    refine wp_loop_rounds 2 ?_
    rw [rounds_succ]
    go_wp2_with fail
    rw [rounds_succ]
    go_wp2_with fail
    go_end0
    exact HF.out
  · go_enter Try.func61, Try.ntmps61
    go_wp2_with fail
    refine Calls.mono HN.out ?_
    rintro e W2 ⟨rfl, h2, c2, g2⟩
    obtain ⟨k1, k2, k3, k4⟩ := HEND.out W2 g2 h2
    have HF : Hid (QQ (.returned (.tuple #[])) (W2.setCell ⟨q, j, none⟩ (.bool true))) := k4
    clear h2 g2 HN HEND k4
    as_aux_lemma =>
    go_wp2_with fail
    refine wp_loop_rounds 2 ?_
    rw [rounds_succ]
    go_wp2_with fail
    rw [rounds_succ]
    go_wp2_with fail
    go_end0
    exact HF.out
end
end Go.Proofs.Ytcchlicokglmnaa