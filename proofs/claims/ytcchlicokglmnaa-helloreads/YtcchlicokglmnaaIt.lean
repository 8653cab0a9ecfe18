/- A reader and the message that it fills in: Ticket. -/
import Derived.Test.YtcchlicokglmnaaIs
namespace Go.Proofs.Ytcchlicokglmnaa
open Go.ChangeShapes Go.WideShapes Go.ChangeAt Go.RowKit Go.Lib
set_option linter.unusedVariables false

/-- A number read into a cell: the old one, where something was wrong. -/
def newN (L : List UInt8) (n : Nat) (least most : Int) (s : Sd) (old : Int) : Int := if (s.1 || !(nmOk L s.2 n least most)) then old else (num (sub L s.2 n) : Int)
section
variable {W0 W : World} {p : Nat} {o : Option Addr} {L : List UInt8} {c M : Nat} {s : Sd} {m : Msg}
/-- number, into the life. -/
theorem ir_n (h : Im W0 p o L c M s m W) (cr : Cr W0 p o L M) (least most : Int) : Calls Try.prog 64 #[.pointer (some ⟨p, 0, none⟩), .pointer (some ⟨M, 71, none⟩), .int .i64 4, .int .i64 least, .int .i64 most] W fun e w' => e = .returned un ∧ Im W0 p o L c M (dN L 4 least most s).1 { m with life := newN L 4 least most s m.life } w' := by
  refine (rnumber_c h.rr (by have := cr.lb; omega) M 71 m.cells.toArray 27 m.life h.row (h.cell (Msg.get h.len).2.2.2.2.2.2.2) cr.mp cr.ob 4 (by decide) (by decide) least most).mono ?_
  rintro e w' ⟨h1, h2, h3, h4⟩
  have h3' : w'.heap[M]? = some (.cells ({ m with life := newN L 4 least most s m.life } : Msg).cells.toArray 27 (0, 0)) := by
    rw [h3]
    unfold newN
    by_cases hb : (s.1 || !(nmOk L s.2 4 least most)) = true
    · rw [if_pos hb, if_pos hb]
    · rw [if_neg hb, if_neg hb, Msg.life' h.len]
  exact ⟨h1, h2, h3', ⟨h.len.r, h.len.s, h.len.b, h.len.k⟩, h.old cr h4 h.nm, h.old cr h4 h.pa, h.old cr h4 h.ti, h.gs.trans h4⟩
/-- Ticket. -/
theorem rw4 (cr : Cr W0 p o L M) (hk : m.kind = 4) (h : Im W0 p o L c M s m W0) : rwalk p M W0 (fun X => ∃ ao ac, Im W0 p o L c M (dN L 1 0 1 (dL L 1 512 (dN L 4 0 4294967295 s).1).1).1 { m with life := newN L 4 0 4294967295 s m.life, to := ao, ticket := (dL L 1 512 (dN L 4 0 4294967295 s).1).2, tc := ac, early := decide ((dN L 1 0 1 (dL L 1 512 (dN L 4 0 4294967295 s).1).1).2 = 1) } X) :=
  walk4 (ms_read p) (I0 := Im W0 p o L c M s m) (I1 := Im W0 p o L c M (dN L 4 0 4294967295 s).1 { m with life := newN L 4 0 4294967295 s m.life })
    (I2 := fun X => ∃ ao ac, Im W0 p o L c M (dL L 1 512 (dN L 4 0 4294967295 s).1).1 { m with life := newN L 4 0 4294967295 s m.life, to := ao, ticket := (dL L 1 512 (dN L 4 0 4294967295 s).1).2, tc := ac } X)
    (Im.stb cr) (Im.stb cr) (fun X Y ⟨ao, ac, h⟩ hb => ⟨ao, ac, h.bel cr hb⟩) (fun X hX => by rw [← hk]; exact hX.kind) (fun X hX => ir_n hX cr 0 4294967295)
    (fun X hX => ir_t hX cr 1 512 (by decide))
    (fun X k ⟨ao, ac, hX⟩ hk => (ir_e hX cr k hk).mono fun e w' ⟨h1, h2⟩ => ⟨h1, ao, ac, h2⟩) W0 h
end
end Go.Proofs.Ytcchlicokglmnaa
