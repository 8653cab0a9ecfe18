/- bytes.Clone; the reader's long. -/
import Derived.Test.YtcchlicokglmnaaDs
import Derived.Test.YtcchlicokglmnaaRa
namespace Go.Proofs.Ytcchlicokglmnaa
open Go.ChangeShapes Go.WideShapes Go.ChangeAt Go.RowKit Go.Lib
set_option linter.unusedVariables false

theorem eql_nil (w : World) : Sem.run Try.prog (binOp BinOp.eql 25 (.slice none 0 0) (.slice none 0 0)) w = .ok (.bool true) w := by kernel_rfl
theorem eql_some (ad : Addr) (n c : Nat) (w : World) : Sem.run Try.prog (binOp BinOp.eql 25 (.slice (some ad) n c) (.slice none 0 0)) w = .ok (.bool false) w := by kernel_rfl
/-- What Clone answers: bytes of its own. -/
def ClR (X : List UInt8) (w : World) (e : Ending) (w' : World) : Prop :=
  ∃ oa cp, e = .returned (.slice oa X.length cp) ∧ By w.heap.size w' (.slice oa X.length cp) X ∧ Below w.heap.size w w'
set_option maxRecDepth 10000 in
theorem clone_b (ao : Option Addr) (X : List UInt8) (c : Nat) (w : World) (hs : Sl w ao X) (hl : X.length ≤ 900000) (hnil : ao = none → X.length = 0 ∧ c = 0) :
    Calls Try.prog 68 #[.slice ao X.length c] w (ClR X w) := by
  cases ao with
  | none =>
    obtain ⟨h1, rfl⟩ := hnil rfl
    obtain rfl : X = [] := List.eq_nil_of_length_eq_zero h1
    have HF : Hid (ClR [] w (.returned (.slice none 0 0)) w) := ⟨none, 0, rfl, ⟨rfl, .inl ⟨rfl, rfl⟩⟩, Below.refl _ _⟩
    clear hs hnil hl
    have q := eql_nil
    show Calls Try.prog 68 #[.slice none 0 0] w _
    go_enter Try.func68, Try.ntmps68
    go_wp2_with fail
    go_ret
    exact HF.out
  | some ad =>
    have hb := bl1 w (.cells #[] 5)
    obtain ⟨o1, c1, X1, r1, b1, g1⟩ := app_b (n := w.heap.size) (X := w.alloc (.cells #[] 5)) (o := some ⟨w.heap.size, 0, none⟩) (c := 0) (l := []) (World.ownsRow_made w #[] 0 (Nat.le_refl _) (by decide) rfl) hb.size (some ad) c X (Sl_bel hs hb) (fun h => by cases h) (by simp; omega)
    rw [List.nil_append] at r1 b1
    have HF : Hid (ClR X w (.returned (.slice o1 X.length c1)) X1) := ⟨o1, c1, rfl, b1, hb.trans (g1.below hb.size (Nat.le_refl _))⟩
    have R1 : Hid _ := r1
    clear hs hnil r1 b1 g1 hb hl
    generalize X.length = XL at *
    have q := eql_some
    go_enter Try.func68, Try.ntmps68
    go_wp2_with (refine appr rfl _ _ 25 25 rfl _ _ rfl rfl R1.out (Hid.out ?_))
    refine mkHid ?_
    go_wp2_with fail
    go_ret
    exact HF.out
/-- Long bytes read. -/
def dL (L : List UInt8) (least most : Int) (s : Sd) : Sd × List UInt8 := dT L (dN L 2 least most s).2 (dN L 2 least most s).1
section
variable {w : World} {p : Nat} {o : Option Addr} {L : List UInt8} {c : Nat} {s : Sd}
/-- What long leaves: bytes of its own in the one cell. -/
def DlR (p : Nat) (o : Option Addr) (L : List UInt8) (c : Nat) (s' : Sd) (q j : Nat) (cs : Array Value) (t : Nat) (S : List UInt8) (w : World) (e : Ending) (w' : World) : Prop :=
  ∃ v, e = .returned (.tuple #[]) ∧ Rr w' p o L c s'.1 s'.2 ∧ w'.heap[q]? = some (.cells (cs.setIfInBounds j v) t (0, 0)) ∧ By w.heap.size w' v S ∧ Gs (fun k => k = p ∨ k = q) w w'
theorem dT_len (L : List UInt8) (n : Nat) (s : Sd) : (dT L n s).2.length ≤ n := by
  unfold dT
  simp only
  split
  · simp
  · simp [sub]; omega
set_option maxRecDepth 10000 in
set_option maxHeartbeats 1000000 in
theorem dlong_c (h : Rr w p o L c s.1 s.2) (hL : L.length ≤ 9223372036854775000) (q j : Nat) (cs : Array Value) (t : Nat) (x0 : Value) (hq : w.heap[q]? = some (.cells cs t (0, 0))) (hj : cs[j]? = some x0) (hqp : q ≠ p) (hqb : ∀ x, o = some x → L ≠ [] → x.block ≠ q) (least most : Int) (hm : most ≤ 65535) (hok : (dL L least most s).2.length ≤ 900000) :
    Calls Try.prog 63 #[.pointer (some ⟨p, 0, none⟩), .pointer (some ⟨q, j, none⟩), .int .i64 least, .int .i64 most] w (DlR p o L c (dL L least most s).1 q j cs t (dL L least most s).2 w) := by
  have HN : Hid _ := dnum_box h hL 2 (by decide) (by decide) least most
  have hql := lt_block hq
  have hv := dN_lt L 2 least most s (by decide)
  have HT : Hid (∀ X, Rr X p o L c (dN L 2 least most s).1.1 (dN L 2 least most s).1.2 → Calls Try.prog 67 #[.pointer (some ⟨p, 0, none⟩), .int .i64 ((dN L 2 least most s).2 : Int)] X (TkR p o L c (dN L 2 least most s).1.1 (dN L 2 least most s).1.2 (dN L 2 least most s).2 X)) := fun X hX => rtake_c hX _ (by omega)
  have HTD : Hid (∀ X X' e, Gs (fun k => k = p) w X → TkR p o L c (dN L 2 least most s).1.1 (dN L 2 least most s).1.2 (dN L 2 least most s).2 X e X' → ∃ o' n' c', e = .returned (.slice o' n' c') ∧ Rr X' p o L c (dL L least most s).1.1 (dL L least most s).1.2 ∧ Gs (fun k => k = p) w X' ∧ Calls Try.prog 68 #[.slice o' n' c'] X' (ClR (dL L least most s).2 X')) := by
    rintro X X' e hg ⟨o', c', h1, h2, h3, h4, h5, h6⟩
    exact ⟨o', _, c', h1, h5, hg.trans h6, clone_b o' (dL L least most s).2 c' X' h2 hok h3⟩
  have HEND : Hid (∀ X X' e, Gs (fun k => k = p) w X → Rr X p o L c (dL L least most s).1.1 (dL L least most s).1.2 → ClR (dL L least most s).2 X e X' → ∃ oa n1 cp, e = .returned (.slice oa n1 cp) ∧ X'.cell? ⟨q, j, none⟩ = some x0 ∧ X'.frozen? ⟨q, j, none⟩ = false ∧ DlR p o L c (dL L least most s).1 q j cs t (dL L least most s).2 w (.returned (.tuple #[])) (X'.setCell ⟨q, j, none⟩ (.slice oa n1 cp))) := by
    rintro X X' e hg hr ⟨oa, cp, h1, h2, h3⟩
    have hg2 : Gs (fun k => k = p) w X' := hg.trans (Gs.of_below h3)
    have hrow : X'.heap[q]? = some (.cells cs t (0, 0)) := (hg2.block q hql hqp).trans hq
    have hg3 : Gs (fun k => k = q) X' (X'.setCell ⟨q, j, none⟩ (.slice oa (dL L least most s).2.length cp)) := Gs.set _ rfl
    refine ⟨_, _, _, h1, by unfold World.cell?; rw [hrow]; exact hj, by unfold World.frozen?; rw [hrow]; simp, (.slice oa (dL L least most s).2.length cp), rfl, ?_, ?_, ?_, (hg2.mono fun k hk => .inl hk).trans (hg3.mono fun k hk => .inr hk)⟩
    · exact (hr.bel h3).gs hg3 (fun hh => hqp hh.symm) (fun x hx hl hh => hqb x hx hl hh)
    · rw [heap_setCell_same X' q j _ t _ hrow]
    · obtain ⟨hl, ⟨k1, k2⟩ | ⟨g, cap, cur, he, k1, k2, k3⟩⟩ := h2
      · exact ⟨hl, .inl ⟨k1, k2⟩⟩
      · exact ⟨hl, .inr ⟨g, cap, cur, he, Nat.le_trans hg.size k1, (Below.heap_setCell _ _ _ _ (by show g ≠ q; have := hg.size; omega)).trans k2, k3⟩⟩
  generalize DlR p o L c (dL L least most s).1 q j cs t (dL L least most s).2 w = QQ at *
  clear h hq hj hqb hok
  obtain ⟨V, hV⟩ : ∃ V, (dN L 2 least most s).2 = V := ⟨_, rfl⟩
  rw [hV] at HN HT HTD
  generalize (dN L 2 least most s).1 = s1 at *
  generalize (dL L least most s).1 = s2 at *
  generalize (dL L least most s).2 = S2 at *
  clear hV hv
  go_enter Try.func63, Try.ntmps63
  go_wp2_with fail
  refine Calls.mono HN.out ?_
  rintro e W2 ⟨rfl, h2, c2, g2⟩
  have H2 : Hid _ := h2
  have G2 : Hid _ := g2
  clear h2 g2 HN
  as_aux_lemma =>
  go_wp2_with fail
  refine Calls.mono (HT.out W2 H2.out) ?_
  intro e W3 hk
  obtain ⟨o', n', c', rfl, k1, k2, k3⟩ := HTD.out W2 W3 e G2.out hk
  have HF : Hid _ := k3
  have H3 : Hid _ := k1
  have G3 : Hid _ := k2
  clear hk HTD HT H2 G2 k1 k2 k3 c2
  as_aux_lemma =>
  go_wp2_with fail
  refine Calls.mono HF.out ?_
  intro e W4 hk
  obtain ⟨oa, n1, cp, rfl, k1, k2, k3⟩ := HEND.out W3 W4 e G3.out H3.out hk
  have HZ : Hid _ := k3
  clear hk HEND HF H3 G3 k3
  as_aux_lemma =>
  go_wp2_with fail
  go_end0
  exact HZ.out
end
end Go.Proofs.Ytcchlicokglmnaa
