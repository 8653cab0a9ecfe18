/- The reader's short. -/
import Derived.Test.YtcchlicokglmnaaDn
namespace Go.Proofs.Ytcchlicokglmnaa
open Go.ChangeShapes Go.WideShapes Go.ChangeAt Go.RowKit Go.Lib
set_option linter.unusedVariables false

/-- Where a reader stands: whether something was wrong, and the place. -/
abbrev Sd := Bool × Nat
/-- A number read: the reader behind it, and the number. -/
def dN (L : List UInt8) (n : Nat) (least most : Int) (s : Sd) : Sd × Nat :=
  ((s.1 || !(nmOk L s.2 n least most), if (s.1 || !(nmOk L s.2 n least most)) then s.2 else s.2 + n), if (s.1 || !(nmOk L s.2 n least most)) then 0 else num (sub L s.2 n))
/-- So many bytes taken: the reader behind them, and they. -/
def dT (L : List UInt8) (n : Nat) (s : Sd) : Sd × List UInt8 :=
  ((s.1 || !(decide (s.2 + n ≤ L.length)), if (s.1 || !(decide (s.2 + n ≤ L.length))) then s.2 else s.2 + n), if (s.1 || !(decide (s.2 + n ≤ L.length))) then [] else sub L s.2 n)
/-- A short text read. -/
def dS (L : List UInt8) (least : Int) (s : Sd) : Sd × List UInt8 := dT L (dN L 1 least 255 s).2 (dN L 1 least 255 s).1
theorem dN_lt (L : List UInt8) (n : Nat) (least most : Int) (s : Sd) (hn : n ≤ 4) : (dN L n least most s).2 < 4294967296 := by
  unfold dN
  simp only
  split
  · omega
  · have h1 := num_lt (sub L s.2 n)
    have h2 : (sub L s.2 n).length ≤ n := by simp [sub]; omega
    have h3 : 256 ^ (sub L s.2 n).length ≤ 256 ^ 4 := Nat.pow_le_pow_right (by decide) (by omega)
    omega
section
variable {w : World} {p : Nat} {o : Option Addr} {L : List UInt8} {c : Nat} {s : Sd}
/-- What a method of the reader leaves that fills in one cell. -/
def DpR (p : Nat) (o : Option Addr) (L : List UInt8) (c : Nat) (s' : Sd) (q : Nat) (cs' : Array Value) (t : Nat) (w : World) (e : Ending) (w' : World) : Prop :=
  e = .returned (.tuple #[]) ∧ Rr w' p o L c s'.1 s'.2 ∧ w'.heap[q]? = some (.cells cs' t (0, 0)) ∧ Gs (fun k => k = p ∨ k = q) w w'
/-- number into a box of one's own. -/
theorem dnum_box (h : Rr w p o L c s.1 s.2) (hL : L.length ≤ 9223372036854775000) (n : Nat) (hn1 : 1 ≤ n) (hn4 : n ≤ 4) (least most : Int) :
    Calls Try.prog 64 #[.pointer (some ⟨p, 0, none⟩), .pointer (some ⟨w.heap.size, 0, none⟩), .int .i64 n, .int .i64 least, .int .i64 most] (w.alloc (.cells #[.int .i64 0] 3)) fun e w' => e = .returned (.tuple #[]) ∧ Rr w' p o L c (dN L n least most s).1.1 (dN L n least most s).1.2 ∧ w'.cell? ⟨w.heap.size, 0, none⟩ = some (.int .i64 ((dN L n least most s).2 : Int)) ∧ Gs (fun k => k = p) w w' := by
  have hb := bl1 w (.cells #[.int .i64 0] 3)
  have hlt := lt_block h.row
  refine (rnumber_c (h.bel hb) hL w.heap.size 0 #[.int .i64 0] 3 0 (heap_alloc_new w _) rfl (by omega) (fun x hx hl e => by have h1 := h.sl; rw [hx] at h1; have := Sl_lt h1 hl; omega) n hn1 hn4 least most).mono ?_
  rintro e w' ⟨h1, h2, h3, h4⟩
  refine ⟨h1, h2, ?_, ⟨h4.os.trans hb.os, h4.tape.trans hb.tape, h4.output.trans hb.output, Nat.le_trans hb.size h4.size, fun k hk hn => (h4.block k (Nat.lt_of_lt_of_le hk hb.size) (fun hh => by rcases hh with hh | hh; exact hn hh; omega)).trans (hb.block k hk)⟩⟩
  unfold dN
  simp only
  generalize (s.1 || !(nmOk L s.2 n least most)) = d at h3 ⊢
  unfold World.cell?
  rw [h3]
  cases d
  · rfl
  · rfl
set_option maxRecDepth 10000 in
set_option maxHeartbeats 1000000 in
theorem dshort_c (h : Rr w p o L c s.1 s.2) (hL : L.length ≤ 9223372036854775000) (q j : Nat) (cs : Array Value) (t : Nat) (s0 : ByteArray) (hq : w.heap[q]? = some (.cells cs t (0, 0))) (hj : cs[j]? = some (.string s0)) (hqp : q ≠ p) (hqb : ∀ x, o = some x → L ≠ [] → x.block ≠ q) (least : Int) :
    Calls Try.prog 66 #[.pointer (some ⟨p, 0, none⟩), .pointer (some ⟨q, j, none⟩), .int .i64 least] w (DpR p o L c (dS L least s).1 q (cs.setIfInBounds j (.string ⟨(dS L least s).2.toArray⟩)) t w) := by
  have HN : Hid _ := dnum_box h hL 1 (by decide) (by decide) least 255
  have hql := lt_block hq
  have hv := dN_lt L 1 least 255 s (by decide)
  have HT : Hid (∀ X, Rr X p o L c (dN L 1 least 255 s).1.1 (dN L 1 least 255 s).1.2 → Calls Try.prog 67 #[.pointer (some ⟨p, 0, none⟩), .int .i64 ((dN L 1 least 255 s).2 : Int)] X (TkR p o L c (dN L 1 least 255 s).1.1 (dN L 1 least 255 s).1.2 (dN L 1 least 255 s).2 X)) := fun X hX => rtake_c hX _ (by omega)
  have HEND : Hid (∀ X X' e, Gs (fun k => k = p) w X → TkR p o L c (dN L 1 least 255 s).1.1 (dN L 1 least 255 s).1.2 (dN L 1 least 255 s).2 X e X' → ∃ v, e = .returned v ∧ (convert 25 9 v).run Try.prog X' = .ok (.string ⟨(dS L least s).2.toArray⟩) X' ∧ X'.cell? ⟨q, j, none⟩ = some (.string s0) ∧ X'.frozen? ⟨q, j, none⟩ = false ∧ DpR p o L c (dS L least s).1 q (cs.setIfInBounds j (.string ⟨(dS L least s).2.toArray⟩)) t w (.returned (.tuple #[])) (X'.setCell ⟨q, j, none⟩ (.string ⟨(dS L least s).2.toArray⟩))) := by
    rintro X X' e hg ⟨o', c', h1, h2, h3, h4, h5, h6⟩
    have hg2 : Gs (fun k => k = p) w X' := hg.trans h6
    have hrow : X'.heap[q]? = some (.cells cs t (0, 0)) := (hg2.block q hql hqp).trans hq
    have hg3 : Gs (fun k => k = q) X' (X'.setCell ⟨q, j, none⟩ (.string ⟨(dS L least s).2.toArray⟩)) := Gs.set _ rfl
    refine ⟨_, h1, str_any h2 rfl h3, by unfold World.cell?; rw [hrow]; exact hj, by unfold World.frozen?; rw [hrow]; simp, rfl, ?_, ?_, (hg2.mono fun k hk => .inl hk).trans (hg3.mono fun k hk => .inr hk)⟩
    · exact h5.gs hg3 (fun hh => hqp hh.symm) (fun x hx hl hh => hqb x hx hl hh)
    · rw [heap_setCell_same X' q j _ t _ hrow]
  generalize DpR p o L c (dS L least s).1 q (cs.setIfInBounds j (.string ⟨(dS L least s).2.toArray⟩)) t w = QQ at *
  generalize (dS L least s).2.toArray = SA at *
  clear h hq hj hqb
  obtain ⟨V, hV⟩ : ∃ V, (dN L 1 least 255 s).2 = V := ⟨_, rfl⟩
  rw [hV] at HN HT HEND
  generalize (dN L 1 least 255 s).1 = s1 at *
  clear hV hv
  go_enter Try.func66, Try.ntmps66
  go_wp2_with fail
  refine Calls.mono HN.out ?_
  rintro e W2 ⟨rfl, h2, c2, g2⟩
  have H2 : Hid _ := h2
  have G2 : Hid _ := g2
  clear h2 g2 HN
  as_aux_lemma =>
  go_wp2_with fail
  refine Calls.mono (HT.out W2 H2.out) ?_
  intro e W3 hk
  obtain ⟨v, rfl, k1, k2, k3, k4⟩ := HEND.out W2 W3 e G2.out hk
  have HF : Hid _ := k4
  clear hk HEND HT H2 G2 k4 c2
  as_aux_lemma =>
  go_wp2_with fail
  go_end0
  exact HF.out
end
end Go.Proofs.Ytcchlicokglmnaa
