/- A reader and the message that it fills in: handles, numbers, two flags. -/
import Derived.Test.YtcchlicokglmnaaIr
namespace Go.Proofs.Ytcchlicokglmnaa
open Go.ChangeShapes Go.WideShapes Go.ChangeAt Go.RowKit Go.Lib
set_option linter.unusedVariables false

/-- A handle's bytes: the new ones, if there are. -/
def newH (old new : List UInt8) : List UInt8 := if new.length = 16 then new else old
theorem newH_len {old new : List UInt8} (h : old.length = 16) : (newH old new).length = 16 := by unfold newH; split <;> assumption
section
variable {m : Msg}
theorem Msg.random2 (h : m.len) (T : List UInt8) (hT : T.length = 0 ∨ T.length = 16) : wrC m.cells.toArray 1 T = ({ m with random := newH m.random T } : Msg).cells.toArray := by
  rcases hT with h0 | h16
  · obtain rfl : T = [] := List.eq_nil_of_length_eq_zero h0
    rw [wrC_nil]; rfl
  · rw [Msg.random' h T h16]; unfold newH; rw [if_pos h16]
theorem Msg.share2 (h : m.len) (T : List UInt8) (hT : T.length = 0 ∨ T.length = 16) : wrC m.cells.toArray 17 T = ({ m with share := newH m.share T } : Msg).cells.toArray := by
  rcases hT with h0 | h16
  · obtain rfl : T = [] := List.eq_nil_of_length_eq_zero h0
    rw [wrC_nil]; rfl
  · rw [Msg.share' h T h16]; unfold newH; rw [if_pos h16]
theorem Msg.binder2 (h : m.len) (T : List UInt8) (hT : T.length = 0 ∨ T.length = 16) : wrC m.cells.toArray 37 T = ({ m with binder := newH m.binder T } : Msg).cells.toArray := by
  rcases hT with h0 | h16
  · obtain rfl : T = [] := List.eq_nil_of_length_eq_zero h0
    rw [wrC_nil]; rfl
  · rw [Msg.binder' h T h16]; unfold newH; rw [if_pos h16]
theorem Msg.mark2 (h : m.len) (T : List UInt8) (hT : T.length = 0 ∨ T.length = 16) : wrC m.cells.toArray 55 T = ({ m with mark := newH m.mark T } : Msg).cells.toArray := by
  rcases hT with h0 | h16
  · obtain rfl : T = [] := List.eq_nil_of_length_eq_zero h0
    rw [wrC_nil]; rfl
  · rw [Msg.mark' h T h16]; unfold newH; rw [if_pos h16]
theorem Msg.cells_size (h : m.len) : m.cells.toArray.size = 72 := by simp [Msg.cells, bc_length, h.r, h.s, h.b, h.k]
end
section
variable {W0 W : World} {p : Nat} {o : Option Addr} {L : List UInt8} {c M : Nat} {s : Sd} {m : Msg}
theorem Im.kp (h : Im W0 p o L c M s m W) {k t : Nat} {cs : Array Value} (hk : W.heap[k]? = some (.cells cs t (0, 0))) (ht : t ≠ 64 ∧ t ≠ 27) : k ≠ p ∧ k ≠ M := by
  constructor
  · rintro rfl; rw [h.rr.row] at hk; injection hk with hk; injection hk with _ hk _; exact ht.1 hk.symm
  · rintro rfl; rw [h.row] at hk; injection hk with hk; injection hk with _ hk _; exact ht.2 hk.symm
/-- handles: the mark. -/
theorem ir_k (h : Im W0 p o L c M s m W) (cr : Cr W0 p o L M) (k : Nat) (hk : W.heap[k]? = some (.cells #[.pointer (some ⟨M, 55, none⟩)] 82 (0, 0))) : Calls Try.prog 62 #[.pointer (some ⟨p, 0, none⟩), .slice (some ⟨k, 0, none⟩) 1 1] W fun e w' => e = .returned un ∧ Im W0 p o L c M (dT L 16 s).1 { m with mark := newH m.mark (dT L 16 s).2 } w' := by
  obtain ⟨k1, k2⟩ := h.kp hk (by decide)
  refine (dhandles_c h.rr k [55] M 27 m.cells.toArray hk k1 k2 h.row (by rw [Msg.cells_size h.len]; simp) cr.mp cr.ob (by simp)).mono ?_
  rintro e w' ⟨h1, h2, h3, h4⟩
  have h3' : w'.heap[M]? = some (.cells (wrC m.cells.toArray 55 (dT L 16 s).2) 27 (0, 0)) := h3
  rw [Msg.mark2 h.len _ (dT_16 L s)] at h3'
  exact ⟨h1, h2, h3', ⟨h.len.r, h.len.s, h.len.b, newH_len h.len.k⟩, h.old cr h4 h.nm, h.old cr h4 h.pa, h.old cr h4 h.ti, h.gs.trans h4⟩
/-- handles: the binder. -/
theorem ir_b (h : Im W0 p o L c M s m W) (cr : Cr W0 p o L M) (k : Nat) (hk : W.heap[k]? = some (.cells #[.pointer (some ⟨M, 37, none⟩)] 82 (0, 0))) : Calls Try.prog 62 #[.pointer (some ⟨p, 0, none⟩), .slice (some ⟨k, 0, none⟩) 1 1] W fun e w' => e = .returned un ∧ Im W0 p o L c M (dT L 16 s).1 { m with binder := newH m.binder (dT L 16 s).2 } w' := by
  obtain ⟨k1, k2⟩ := h.kp hk (by decide)
  refine (dhandles_c h.rr k [37] M 27 m.cells.toArray hk k1 k2 h.row (by rw [Msg.cells_size h.len]; simp) cr.mp cr.ob (by simp)).mono ?_
  rintro e w' ⟨h1, h2, h3, h4⟩
  have h3' : w'.heap[M]? = some (.cells (wrC m.cells.toArray 37 (dT L 16 s).2) 27 (0, 0)) := h3
  rw [Msg.binder2 h.len _ (dT_16 L s)] at h3'
  exact ⟨h1, h2, h3', ⟨h.len.r, h.len.s, newH_len h.len.b, h.len.k⟩, h.old cr h4 h.nm, h.old cr h4 h.pa, h.old cr h4 h.ti, h.gs.trans h4⟩
/-- handles: the random and the share. -/
theorem ir_h (h : Im W0 p o L c M s m W) (cr : Cr W0 p o L M) (k : Nat) (hk : W.heap[k]? = some (.cells #[.pointer (some ⟨M, 1, none⟩), .pointer (some ⟨M, 17, none⟩)] 82 (0, 0))) : Calls Try.prog 62 #[.pointer (some ⟨p, 0, none⟩), .slice (some ⟨k, 0, none⟩) 2 2] W fun e w' => e = .returned un ∧ Im W0 p o L c M (dT L 16 (dT L 16 s).1).1 { m with random := newH m.random (dT L 16 s).2, share := newH m.share (dT L 16 (dT L 16 s).1).2 } w' := by
  obtain ⟨k1, k2⟩ := h.kp hk (by decide)
  refine (dhandles_c h.rr k [1, 17] M 27 m.cells.toArray hk k1 k2 h.row (by rw [Msg.cells_size h.len]; simp) cr.mp cr.ob (by simp)).mono ?_
  rintro e w' ⟨h1, h2, h3, h4⟩
  have h3' : w'.heap[M]? = some (.cells (wrC (wrC m.cells.toArray 1 (dT L 16 s).2) 17 (dT L 16 (dT L 16 s).1).2) 27 (0, 0)) := h3
  have l1 : ({ m with random := newH m.random (dT L 16 s).2 } : Msg).len := ⟨newH_len h.len.r, h.len.s, h.len.b, h.len.k⟩
  rw [Msg.random2 h.len _ (dT_16 L s), Msg.share2 l1 _ (dT_16 L _)] at h3'
  exact ⟨h1, h2, h3', ⟨newH_len h.len.r, newH_len h.len.s, h.len.b, h.len.k⟩, h.old cr h4 h.nm, h.old cr h4 h.pa, h.old cr h4 h.ti, h.gs.trans h4⟩
theorem Im.stb (cr : Cr W0 p o L M) : Stb (Im W0 p o L c M s m) := fun X Y h hb => h.bel cr hb
theorem Im.kind (h : Im W0 p o L c M s m W) : W.cell? ⟨M, 0, none⟩ = some (.int .i64 m.kind) := by
  unfold World.cell?
  rw [h.row]
  exact h.cell (Msg.get h.len).1
abbrev rwalk (p M : Nat) (W0 : World) (I : World → Prop) : Prop := Calls Try.prog 17 #[.iface 65 (.pointer (some ⟨p, 0, none⟩)), .pointer (some ⟨M, 0, none⟩)] W0 fun e w' => e = .returned un ∧ I w'
/-- Server. -/
theorem rw2 (cr : Cr W0 p o L M) (hk : m.kind = 2) (h : Im W0 p o L c M s m W0) : rwalk p M W0 (Im W0 p o L c M (dN L 1 0 1 (dT L 16 (dT L 16 s).1).1).1 { m with random := newH m.random (dT L 16 s).2, share := newH m.share (dT L 16 (dT L 16 s).1).2, again := decide ((dN L 1 0 1 (dT L 16 (dT L 16 s).1).1).2 = 1) }) :=
  walk2 (ms_read p) (I0 := Im W0 p o L c M s m) (Im.stb cr) (Im.stb cr) (fun X hX => by rw [← hk]; exact hX.kind) (fun X k hX hk => ir_h hX cr k hk) (fun X k hX hk => ir_a hX cr k hk) W0 h
/-- Proof. -/
theorem rw15 (cr : Cr W0 p o L M) (hk : m.kind = 15) (h : Im W0 p o L c M s m W0) : rwalk p M W0 (Im W0 p o L c M (dT L 16 s).1 { m with mark := newH m.mark (dT L 16 s).2 }) :=
  walk15 (ms_read p) (I0 := Im W0 p o L c M s m) (Im.stb cr) (fun X hX => by rw [← hk]; exact hX.kind) (fun X k hX hk => ir_k hX cr k hk) W0 h
/-- Finished. -/
theorem rw20 (cr : Cr W0 p o L M) (hk : m.kind = 20) (h : Im W0 p o L c M s m W0) : rwalk p M W0 (Im W0 p o L c M (dT L 16 s).1 { m with mark := newH m.mark (dT L 16 s).2 }) :=
  walk20 (ms_read p) (I0 := Im W0 p o L c M s m) (Im.stb cr) (fun X hX => by rw [← hk]; exact hX.kind) (fun X k hX hk => ir_k hX cr k hk) W0 h
/-- Identity. -/
theorem rw11 (cr : Cr W0 p o L M) (hk : m.kind = 11) (h : Im W0 p o L c M s m W0) : rwalk p M W0 (Im W0 p o L c M (dT L 16 (dS L 0 s).1).1 { m with name := ⟨(dS L 0 s).2.toArray⟩, mark := newH m.mark (dT L 16 (dS L 0 s).1).2 }) :=
  walk11 (ms_read p) (I0 := Im W0 p o L c M s m) (Im.stb cr) (Im.stb cr) (fun X hX => by rw [← hk]; exact hX.kind) (fun X hX => ir_s hX cr 0) (fun X k hX hk => ir_k hX cr k hk) W0 h
/-- Extensions. -/
theorem rw8 (cr : Cr W0 p o L M) (hk : m.kind = 8) (h0 : m.po = none ∧ m.protos = [] ∧ m.pc = 0) (h : Im W0 p o L c M s m W0) : rwalk p M W0 (fun X => ∃ po pc ao ac, Im W0 p o L c M (dN L 1 0 1 (dL L 0 4096 (dPs L 1 s []).1).1).1 { m with po := po, protos := (dPs L 1 s []).2, pc := pc, ao := ao, params := (dL L 0 4096 (dPs L 1 s []).1).2, ac := ac, early := decide ((dN L 1 0 1 (dL L 0 4096 (dPs L 1 s []).1).1).2 = 1) } X) :=
  walk8 (ms_read p) (I0 := Im W0 p o L c M s m)
    (I1 := fun X => ∃ po pc, Im W0 p o L c M (dPs L 1 s []).1 { m with po := po, protos := (dPs L 1 s []).2, pc := pc } X)
    (I2 := fun X => ∃ po pc ao ac, Im W0 p o L c M (dL L 0 4096 (dPs L 1 s []).1).1 { m with po := po, protos := (dPs L 1 s []).2, pc := pc, ao := ao, params := (dL L 0 4096 (dPs L 1 s []).1).2, ac := ac } X)
    (Im.stb cr) (fun X Y ⟨po, pc, h⟩ hb => ⟨po, pc, h.bel cr hb⟩) (fun X Y ⟨po, pc, ao, ac, h⟩ hb => ⟨po, pc, ao, ac, h.bel cr hb⟩) (fun X hX => by rw [← hk]; exact hX.kind) (fun X hX => ir_p hX cr h0 1 (by decide))
    (fun X ⟨po, pc, hX⟩ => (ir_l hX cr 0 4096 (by decide)).mono fun e w' ⟨h1, ao, ac, h2⟩ => ⟨h1, po, pc, ao, ac, h2⟩)
    (fun X k ⟨po, pc, ao, ac, hX⟩ hk => (ir_e hX cr k hk).mono fun e w' ⟨h1, h2⟩ => ⟨h1, po, pc, ao, ac, h2⟩) W0 h
end
end Go.Proofs.Ytcchlicokglmnaa
