/- A reader and the message that it fills in: Client. -/
import Derived.Test.YtcchlicokglmnaaIt
import Derived.Test.YtcchlicokglmnaaWd
namespace Go.Proofs.Ytcchlicokglmnaa
open Go.ChangeShapes Go.WideShapes Go.ChangeAt Go.RowKit Go.Lib
set_option linter.unusedVariables false

section
variable {W0 W : World} {p : Nat} {o : Option Addr} {L : List UInt8} {c M : Nat} {s : Sd} {m : Msg}
/-- A block of an other type is not one that is owned. -/
theorem own_box {B e z n k t : Nat} {W W' : World} {v : Value} {xs : List Value} {cs : Array Value} (h : W.ownsRow B e z v n xs) (hk : W.heap[k]? = some (.cells cs t (0, 0))) (ht : t ≠ e) (hb : ∀ i, B ≤ i → i < W.heap.size → i ≠ k → W'.heap[i]? = W.heap[i]?) : W'.ownsRow B e z v n xs := by
  obtain ⟨hl, ⟨hv, hn⟩ | ⟨g, cap, cur, he, k1, k2, k3⟩⟩ := h
  · exact ⟨hl, .inl ⟨hv, hn⟩⟩
  · refine ⟨hl, .inr ⟨g, cap, cur, he, k1, (hb g k1 (lt_block k2) ?_).trans k2, k3⟩⟩
    rintro rfl
    rw [hk] at k2; injection k2 with k2; injection k2 with _ k2 _; exact ht k2
/-- A part that fills in a box of its own, and early. -/
theorem Im.box (h : Im W0 p o L c M s m W) (cr : Cr W0 p o L M) {k t : Nat} {cs : Array Value} (hk : W.heap[k]? = some (.cells cs t (0, 0))) (t9 : t ≠ 9) (t5 : t ≠ 5) (hB : W0.heap.size ≤ k) {w' : World} {s' : Sd} (E : Bool) (rr : Rr w' p o L c s'.1 s'.2)
    (row : w'.heap[M]? = some (.cells ({ m with early := E } : Msg).cells.toArray 27 (0, 0))) (hg : Gs (fun i => i = p ∨ i = k ∨ i = M) W w') : Im W0 p o L c M s' { m with early := E } w' := by
  have hpl := cr.pl
  have hml := cr.ml
  have hb : ∀ i, W0.heap.size ≤ i → i < W.heap.size → i ≠ k → w'.heap[i]? = W.heap[i]? := fun i h1 h2 h3 => hg.block i h2 (by rintro (h4 | h4 | h4) <;> omega)
  refine ⟨rr, row, ⟨h.len.r, h.len.s, h.len.b, h.len.k⟩, own_box h.nm hk t9 hb, own_box h.pa hk t5 hb, own_box h.ti hk t5 hb, ?_⟩
  have hs := h.gs.size
  exact ⟨hg.os.trans h.gs.os, hg.tape.trans h.gs.tape, hg.output.trans h.gs.output, Nat.le_trans h.gs.size hg.size, fun i hi hn => (hg.block i (by omega) (by rintro (h4 | h4 | h4); exact hn (.inl h4); omega; exact hn (.inr h4))).trans (h.gs.block i hi hn)⟩
/-- A box is not where the bytes are. -/
theorem Im.ob (h : Im W0 p o L c M s m W0) {k : Nat} (hB : W0.heap.size ≤ k) : ∀ x, o = some x → L ≠ [] → x.block ≠ k := by
  intro x hx hn he
  have hl : 0 < L.length := List.length_pos_iff.2 hn
  obtain ⟨b, off, e, hc⟩ := h.rr.sl 0 hl
  rw [hx] at e
  cases e
  unfold World.cell? at hc
  have he' : b = k := he
  subst he'
  simp [Array.getElem?_eq_none hB] at hc
theorem dN_le1 (L : List UInt8) (s : Sd) : (dN L 1 1 8 s).2 ≤ 8 := by
  unfold dN
  simp only
  split
  · omega
  · rename_i h
    simp [nmOk] at h
    omega
/-- number, into the box of the count. -/
theorem ir_c (h : Im W0 p o L c M s m W) (cr : Cr W0 p o L M) (k : Nat) (hk : W.heap[k]? = some (.cells #[.int .i64 0] 3 (0, 0))) (hB : W0.heap.size ≤ k) (hob : ∀ x, o = some x → L ≠ [] → x.block ≠ k) : Calls Try.prog 64 #[.pointer (some ⟨p, 0, none⟩), .pointer (some ⟨k, 0, none⟩), .int .i64 1, .int .i64 1, .int .i64 8] W fun e w' => e = .returned un ∧ Im W0 p o L c M (dN L 1 1 8 s).1 m w' ∧ w'.heap[k]? = some (.cells #[.int .i64 ((dN L 1 1 8 s).2 : Int)] 3 (0, 0)) := by
  obtain ⟨k1, k2⟩ := h.kp hk (by decide)
  refine (rnumber_c h.rr (by have := cr.lb; omega) k 0 #[.int .i64 0] 3 0 hk rfl k1 hob 1 (by decide) (by decide) 1 8).mono ?_
  rintro e w' ⟨h1, h2, h3, h4⟩
  have hM : w'.heap[M]? = some (.cells m.cells.toArray 27 (0, 0)) := by
    rw [h4.block M (lt_block h.row) (by rintro (h5 | h5); exact cr.mp h5; exact k2 h5.symm)]; exact h.row
  refine ⟨h1, Im.box h cr hk (by decide) (by decide) hB (s' := (dN L 1 1 8 s).1) m.early h2 hM ⟨h4.os, h4.tape, h4.output, h4.size, fun i hi hn => h4.block i hi (by rintro (h5 | h5); exact hn (.inl h5); exact hn (.inr (.inl h5)))⟩, ?_⟩
  rw [h3]
  unfold dN
  simp only
  split
  · rfl
  · rfl
/-- two flags, into a box and early. -/
theorem ir_f (h : Im W0 p o L c M s m W) (cr : Cr W0 p o L M) (k b : Nat) (b0 : Bool) (hb : W.heap[b]? = some (.cells #[.bool b0] 4 (0, 0))) (hB : W0.heap.size ≤ b) (hob : ∀ x, o = some x → L ≠ [] → x.block ≠ b) (hk : W.heap[k]? = some (.cells #[.pointer (some ⟨b, 0, none⟩), .pointer (some ⟨M, 53, none⟩)] 84 (0, 0))) : Calls Try.prog 61 #[.pointer (some ⟨p, 0, none⟩), .slice (some ⟨k, 0, none⟩) 2 2] W fun e w' => e = .returned un ∧ Im W0 p o L c M (dN L 1 0 3 s).1 { m with early := decide ((dN L 1 0 3 s).2 / 2 = 1) } w' ∧ w'.heap[b]? = some (.cells #[.bool (decide ((dN L 1 0 3 s).2 % 2 = 1))] 4 (0, 0)) := by
  obtain ⟨k1, k2⟩ := h.kp hk (by decide)
  obtain ⟨b1, b2⟩ := h.kp hb (by decide)
  have hkb : k ≠ b := by rintro rfl; rw [hk] at hb; injection hb with hb; injection hb with _ hb _; cases hb
  refine (dflags2_c h.rr (by have := cr.lb; omega) k b 0 #[.bool b0] 4 b0 M 53 m.cells.toArray 27 m.early hk k1 hkb hb rfl b1 hob h.row (h.cell (Msg.get h.len).2.2.2.2.2.1) cr.mp cr.ob b2).mono ?_
  rintro e w' ⟨h1, h2, h3, h4, h5⟩
  rw [Msg.early' h.len] at h4
  exact ⟨h1, Im.box h cr hb (by decide) (by decide) hB (s' := (dN L 1 0 3 s).1) _ h2 h4 h5, h3⟩
end
/-- The parts of a Client as they are read, one behind the other. -/
def ck1 (L : List UInt8) (s : Sd) : Sd × List UInt8 := dT L 16 (dT L 16 s).1
def ck2 (L : List UInt8) (s : Sd) : Sd × List UInt8 := dS L 0 (ck1 L s).1
def ck3 (L : List UInt8) (s : Sd) : Sd × Nat := dN L 1 1 8 (ck2 L s).1
def ck4 (L : List UInt8) (s : Sd) : Sd × List ByteArray := dPs L (ck3 L s).2 (ck3 L s).1 []
def ck5 (L : List UInt8) (s : Sd) : Sd × List UInt8 := dL L 0 4096 (ck4 L s).1
def ck6 (L : List UInt8) (s : Sd) : Sd × Nat := dN L 1 0 3 (ck5 L s).1
def ck7 (L : List UInt8) (s : Sd) : Sd × List UInt8 := dL L 1 512 (ck6 L s).1
def ck8 (L : List UInt8) (s : Sd) : Sd × List UInt8 := dT L 16 (ck7 L s).1
def ckE (L : List UInt8) (s : Sd) : Bool := decide ((ck6 L s).2 / 2 = 1)
/-- The message behind each. -/
def cm1 (m : Msg) (L : List UInt8) (s : Sd) : Msg := { m with random := newH m.random (dT L 16 s).2, share := newH m.share (ck1 L s).2 }
def cm2 (m : Msg) (L : List UInt8) (s : Sd) : Msg := { cm1 m L s with name := ⟨(ck2 L s).2.toArray⟩ }
def cm4 (m : Msg) (L : List UInt8) (s : Sd) (po : Option Addr) (pc : Nat) : Msg := { cm2 m L s with po := po, protos := (ck4 L s).2, pc := pc }
def cm5 (m : Msg) (L : List UInt8) (s : Sd) (po : Option Addr) (pc : Nat) (ao : Option Addr) (ac : Nat) : Msg := { cm4 m L s po pc with ao := ao, params := (ck5 L s).2, ac := ac }
def cm6 (m : Msg) (L : List UInt8) (s : Sd) (po : Option Addr) (pc : Nat) (ao : Option Addr) (ac : Nat) : Msg := { cm5 m L s po pc ao ac with early := ckE L s }
def cm7 (m : Msg) (L : List UInt8) (s : Sd) (po : Option Addr) (pc : Nat) (ao : Option Addr) (ac : Nat) (to : Option Addr) (tc : Nat) : Msg := { cm6 m L s po pc ao ac with to := to, ticket := (ck7 L s).2, tc := tc }
def cm8 (m : Msg) (L : List UInt8) (s : Sd) (po : Option Addr) (pc : Nat) (ao : Option Addr) (ac : Nat) (to : Option Addr) (tc : Nat) : Msg := { cm7 m L s po pc ao ac to tc with binder := newH m.binder (ck8 L s).2 }
/-- What reading a Client leaves. -/
def Jc (W0 : World) (p : Nat) (o : Option Addr) (L : List UInt8) (c M : Nat) (s : Sd) (m : Msg) (X : World) : Prop :=
  if (ck6 L s).2 % 2 = 1 then ∃ po pc ao ac to tc, Im W0 p o L c M (ck8 L s).1 (cm8 m L s po pc ao ac to tc) X
  else ∃ po pc ao ac, Im W0 p o L c M ((ck6 L s).1.1 || !(!ckE L s && (m.binder == z16)), (ck6 L s).1.2) (cm6 m L s po pc ao ac) X
section
variable {W0 W : World} {p : Nat} {o : Option Addr} {L : List UInt8} {c M : Nat} {s : Sd} {m : Msg}
theorem Im.at (h : Im W0 p o L c M s m W) {j : Nat} {v : Value} (hj : m.cells[j]? = some v) : W.cell? ⟨M, j, none⟩ = some v := by
  unfold World.cell?
  rw [h.row]
  exact h.cell hj
/-- Client. -/
theorem rw1 (cr : Cr W0 p o L M) (hk : m.kind = 1) (h0 : m.po = none ∧ m.protos = [] ∧ m.pc = 0) (h : Im W0 p o L c M s m W0) : rwalk p M W0 (Jc W0 p o L c M s m) := by
  refine walk1 (I0 := Im W0 p o L c M s m) (fun X hX => by rw [← hk]; exact hX.kind) (fun X hX => ?_) W0 h
  have hob : ∀ k, W0.heap.size ≤ k → ∀ x, o = some x → L ≠ [] → x.block ≠ k := fun k hB => h.ob hB
  refine client_d (Bk := W0.heap.size) (ms_read p) (I0 := Im W0 p o L c M s m) (I1 := Im W0 p o L c M (ck1 L s).1 (cm1 m L s)) (I2 := Im W0 p o L c M (ck2 L s).1 (cm2 m L s))
    (I3 := fun z X => z = ((ck3 L s).2 : Int) ∧ Im W0 p o L c M (ck3 L s).1 (cm2 m L s) X)
    (I4 := fun X => ∃ po pc, Im W0 p o L c M (ck4 L s).1 (cm4 m L s po pc) X)
    (I5 := fun X => ∃ po pc ao ac, Im W0 p o L c M (ck5 L s).1 (cm5 m L s po pc ao ac) X)
    (I6 := fun t X => t = decide ((ck6 L s).2 % 2 = 1) ∧ ∃ po pc ao ac, Im W0 p o L c M (ck6 L s).1 (cm6 m L s po pc ao ac) X)
    (I7 := fun X => (ck6 L s).2 % 2 = 1 ∧ ∃ po pc ao ac to tc, Im W0 p o L c M (ck7 L s).1 (cm7 m L s po pc ao ac to tc) X)
    (J := Jc W0 p o L c M s m) (ao := none) (N := 0) (cp := 0) (to := m.to) (tn := m.ticket.length) (tc := m.tc)
    { st0 := Im.stb cr, st1 := Im.stb cr, st2 := Im.stb cr
      st3 := fun z X Y ⟨e, h⟩ hb => ⟨e, h.bel cr hb⟩
      st4 := fun X Y ⟨po, pc, h⟩ hb => ⟨po, pc, h.bel cr hb⟩
      st5 := fun X Y ⟨po, pc, ao, ac, h⟩ hb => ⟨po, pc, ao, ac, h.bel cr hb⟩
      st6 := fun t X Y ⟨e, po, pc, ao, ac, h⟩ hb => ⟨e, po, pc, ao, ac, h.bel cr hb⟩
      st7 := fun X Y ⟨e, po, pc, ao, ac, to, tc, h⟩ hb => ⟨e, po, pc, ao, ac, to, tc, h.bel cr hb⟩
      h1 := fun X k hX hk => ir_h hX cr k hk
      h2 := fun X hX => ir_s hX cr 0
      n2 := fun X hX => ?_
      h3 := fun X k hX hk hB => (ir_c hX cr k hk hB (hob k hB)).mono fun e w' ⟨h1, h2, h3⟩ => ⟨h1, _, ⟨rfl, h2⟩, h3⟩
      h4 := ?_
      h5 := fun X ⟨po, pc, hX⟩ => (ir_l hX cr 0 4096 (by decide)).mono fun e w' ⟨h1, ao, ac, h2⟩ => ⟨h1, po, pc, ao, ac, h2⟩
      n5 := fun X ⟨po, pc, ao, ac, hX⟩ => hX.at (Msg.get hX.len).2.2.2.2.1
      h6 := fun X k b ⟨po, pc, ao, ac, hX⟩ hb hB hk => (ir_f hX cr k b _ hb hB (hob b hB) hk).mono fun e w' ⟨h1, h2, h3⟩ => ⟨h1, _, ⟨rfl, po, pc, ao, ac, h2⟩, h3⟩
      h7 := ?_
      h8 := fun X ⟨e, po, pc, ao, ac, hX⟩ => (ir_t hX cr 1 512 (by decide)).mono fun e' w' ⟨h1, to, tc, h2⟩ => ⟨h1, by simpa using e.symm, po, pc, ao, ac, to, tc, h2⟩
      h9 := fun X k ⟨e, po, pc, ao, ac, to, tc, hX⟩ hk => (ir_b hX cr k hk).mono fun e' w' ⟨h1, h2⟩ => ⟨h1, by unfold Jc; rw [if_pos e]; exact ⟨po, pc, ao, ac, to, tc, h2⟩⟩
      pl := fun X hX => hX.gs.size }
    (fun X hX => hX.gs.size) (fun X ⟨po, pc, ao, ac, hX⟩ => hX.gs.size) X hX
  · have := hX.at (Msg.get hX.len).2.2.1
    have e1 : (cm2 m L s).po = none := h0.1
    have e2 : (cm2 m L s).protos = [] := h0.2.1
    have e3 : (cm2 m L s).pc = 0 := h0.2.2
    rw [e1, e2, e3] at this
    exact this
  · rintro X z ⟨rfl, hX⟩
    exact ir_p hX cr h0 (ck3 L s).2 (by have := dN_le1 L (ck2 L s).1; have e : (ck3 L s).2 = (dN L 1 1 8 (ck2 L s).1).2 := rfl; omega)
  · rintro X ⟨e, po, pc, ao, ac, hX⟩
    have hn : ¬ (ck6 L s).2 % 2 = 1 := by simpa using e.symm
    refine ⟨ckE L s, m.binder, h.len.b, hX.at (Msg.get hX.len).2.2.2.2.2.1, (Msg.hs hX.len hX.row).2.2.1.range, ?_⟩
    refine (ir_m hX cr (!ckE L s && (m.binder == z16))).mono fun e' w' ⟨h1, h2⟩ => ⟨h1, ?_⟩
    unfold Jc
    rw [if_neg hn]
    exact ⟨po, pc, ao, ac, h2⟩
end
end Go.Proofs.Ytcchlicokglmnaa
