/- A reader and the message that it fills in. -/
import Derived.Test.YtcchlicokglmnaaMc
import Derived.Test.YtcchlicokglmnaaDq
import Derived.Test.YtcchlicokglmnaaDg
namespace Go.Proofs.Ytcchlicokglmnaa
open Go.ChangeShapes Go.WideShapes Go.ChangeAt Go.RowKit Go.Lib
set_option linter.unusedVariables false

/-- What surrounds a reader: the block of its message, and its bytes. -/
structure Cr (W0 : World) (p : Nat) (o : Option Addr) (L : List UInt8) (M : Nat) : Prop where
  pl : p < W0.heap.size
  ml : M < W0.heap.size
  mp : M ≠ p
  lb : L.length ≤ 16777216
  ob : ∀ x, o = some x → L ≠ [] → x.block ≠ M
/-- A reader, and the message so far. -/
structure Im (W0 : World) (p : Nat) (o : Option Addr) (L : List UInt8) (c M : Nat) (s : Sd) (m : Msg) (W : World) : Prop where
  rr : Rr W p o L c s.1 s.2
  row : W.heap[M]? = some (.cells m.cells.toArray 27 (0, 0))
  len : m.len
  nm : W.ownsRow W0.heap.size 9 1 (.slice m.po m.protos.length m.pc) m.protos.length (m.protos.map .string)
  pa : By W0.heap.size W (.slice m.ao m.params.length m.ac) m.params
  ti : By W0.heap.size W (.slice m.to m.ticket.length m.tc) m.ticket
  gs : Gs (fun k => k = p ∨ k = M) W0 W
theorem dN_lt2 (L : List UInt8) (least most : Int) (s : Sd) : (dN L 2 least most s).2 < 65536 := by
  unfold dN
  simp only
  split
  · omega
  · have h1 := num_lt (sub L s.2 2)
    have h2 : (sub L s.2 2).length ≤ 2 := by simp [sub]; omega
    have h3 : 256 ^ (sub L s.2 2).length ≤ 256 ^ 2 := Nat.pow_le_pow_right (by decide) h2
    omega
theorem dL_len (L : List UInt8) (least most : Int) (s : Sd) : (dL L least most s).2.length ≤ 900000 := by
  have h1 := dT_len L (dN L 2 least most s).2 (dN L 2 least most s).1
  have h2 := dN_lt2 L least most s
  unfold dL
  omega
section
variable {W0 W : World} {p : Nat} {o : Option Addr} {L : List UInt8} {c M : Nat} {s : Sd} {m : Msg}
theorem Im.bel (h : Im W0 p o L c M s m W) (cr : Cr W0 p o L M) {X : World} (hb : Below W.heap.size W X) : Im W0 p o L c M s m X :=
  ⟨h.rr.bel hb, (hb.block M (lt_block h.row)).trans h.row, h.len, own_at h.nm fun k _ hk => hb.block k hk, own_at h.pa fun k _ hk => hb.block k hk, own_at h.ti fun k _ hk => hb.block k hk, h.gs.trans (Gs.of_below hb)⟩
theorem own_low {B B' e z n : Nat} {W : World} {v : Value} {xs : List Value} (h : W.ownsRow B e z v n xs) (hb : B' ≤ B) : W.ownsRow B' e z v n xs := by
  obtain ⟨hl, ⟨hv, hn⟩ | ⟨g, cap, cur, he, k1, k2⟩⟩ := h
  · exact ⟨hl, .inl ⟨hv, hn⟩⟩
  · exact ⟨hl, .inr ⟨g, cap, cur, he, Nat.le_trans hb k1, k2⟩⟩
theorem Im.old (h : Im W0 p o L c M s m W) (cr : Cr W0 p o L M) {X : World} (hg : Gs (fun k => k = p ∨ k = M) W X) {e z n : Nat} {v : Value} {xs : List Value} (ho : W.ownsRow W0.heap.size e z v n xs) : X.ownsRow W0.heap.size e z v n xs :=
  own_at ho fun k hk hl => hg.block k hl (fun hh => by have := cr.pl; have := cr.ml; rcases hh with hh | hh <;> omega)
theorem Im.cell (h : Im W0 p o L c M s m W) {j : Nat} {v : Value} (hj : m.cells[j]? = some v) : m.cells.toArray[j]? = some v := by simpa using hj
/-- short, into the name. -/
theorem ir_s (h : Im W0 p o L c M s m W) (cr : Cr W0 p o L M) (least : Int) : Calls Try.prog 66 #[.pointer (some ⟨p, 0, none⟩), .pointer (some ⟨M, 33, none⟩), .int .i64 least] W fun e w' => e = .returned un ∧ Im W0 p o L c M (dS L least s).1 { m with name := ⟨(dS L least s).2.toArray⟩ } w' := by
  refine (dshort_c h.rr (by have := cr.lb; omega) M 33 m.cells.toArray 27 m.name h.row (h.cell (Msg.get h.len).2.1) cr.mp cr.ob least).mono ?_
  rintro e w' ⟨h1, h2, h3, h4⟩
  rw [Msg.name' h.len] at h3
  exact ⟨h1, h2, h3, ⟨h.len.r, h.len.s, h.len.b, h.len.k⟩, h.old cr h4 h.nm, h.old cr h4 h.pa, h.old cr h4 h.ti, h.gs.trans h4⟩
/-- long, into the params. -/
theorem ir_l (h : Im W0 p o L c M s m W) (cr : Cr W0 p o L M) (least most : Int) (hm : most ≤ 65535) : Calls Try.prog 63 #[.pointer (some ⟨p, 0, none⟩), .pointer (some ⟨M, 35, none⟩), .int .i64 least, .int .i64 most] W fun e w' => e = .returned un ∧ ∃ ao ac, Im W0 p o L c M (dL L least most s).1 { m with ao := ao, params := (dL L least most s).2, ac := ac } w' := by
  have hlen : (dL L least most s).2.length ≤ 900000 := dL_len L least most s
  refine (dlong_c h.rr (by have := cr.lb; omega) M 35 m.cells.toArray 27 _ h.row (h.cell (Msg.get h.len).2.2.2.1) cr.mp cr.ob least most hm hlen).mono ?_
  rintro e w' ⟨v, h1, h2, h3, h4, h5⟩
  obtain ⟨ao, ac, rfl, _⟩ := own_shape h4
  rw [Msg.params' h.len] at h3
  exact ⟨h1, ao, ac, h2, h3, ⟨h.len.r, h.len.s, h.len.b, h.len.k⟩, h.old cr h5 h.nm, own_low h4 h.gs.size, h.old cr h5 h.ti, h.gs.trans h5⟩
/-- long, into the ticket. -/
theorem ir_t (h : Im W0 p o L c M s m W) (cr : Cr W0 p o L M) (least most : Int) (hm : most ≤ 65535) : Calls Try.prog 63 #[.pointer (some ⟨p, 0, none⟩), .pointer (some ⟨M, 36, none⟩), .int .i64 least, .int .i64 most] W fun e w' => e = .returned un ∧ ∃ ao ac, Im W0 p o L c M (dL L least most s).1 { m with to := ao, ticket := (dL L least most s).2, tc := ac } w' := by
  have hlen : (dL L least most s).2.length ≤ 900000 := dL_len L least most s
  refine (dlong_c h.rr (by have := cr.lb; omega) M 36 m.cells.toArray 27 _ h.row (h.cell (Msg.get h.len).2.2.2.2.1) cr.mp cr.ob least most hm hlen).mono ?_
  rintro e w' ⟨v, h1, h2, h3, h4, h5⟩
  obtain ⟨ao, ac, rfl, _⟩ := own_shape h4
  rw [Msg.ticket' h.len] at h3
  exact ⟨h1, ao, ac, h2, h3, ⟨h.len.r, h.len.s, h.len.b, h.len.k⟩, h.old cr h5 h.nm, h.old cr h5 h.pa, own_low h4 h.gs.size, h.gs.trans h5⟩
/-- one flag, into early. -/
theorem ir_e (h : Im W0 p o L c M s m W) (cr : Cr W0 p o L M) (k : Nat) (hk : W.heap[k]? = some (.cells #[.pointer (some ⟨M, 53, none⟩)] 84 (0, 0))) : Calls Try.prog 61 #[.pointer (some ⟨p, 0, none⟩), .slice (some ⟨k, 0, none⟩) 1 1] W fun e w' => e = .returned un ∧ Im W0 p o L c M (dN L 1 0 1 s).1 { m with early := decide ((dN L 1 0 1 s).2 = 1) } w' := by
  have hkp : k ≠ p := by rintro rfl; rw [h.rr.row] at hk; injection hk with hk; injection hk with _ hk _; cases hk
  refine (dflags1_c h.rr (by have := cr.lb; omega) k M 53 m.cells.toArray 27 m.early hk hkp h.row (h.cell (Msg.get h.len).2.2.2.2.2.1) cr.mp cr.ob).mono ?_
  rintro e w' ⟨h1, h2, h3, h4⟩
  rw [Msg.early' h.len] at h3
  exact ⟨h1, h2, h3, ⟨h.len.r, h.len.s, h.len.b, h.len.k⟩, h.old cr h4 h.nm, h.old cr h4 h.pa, h.old cr h4 h.ti, h.gs.trans h4⟩
/-- one flag, into again. -/
theorem ir_a (h : Im W0 p o L c M s m W) (cr : Cr W0 p o L M) (k : Nat) (hk : W.heap[k]? = some (.cells #[.pointer (some ⟨M, 54, none⟩)] 84 (0, 0))) : Calls Try.prog 61 #[.pointer (some ⟨p, 0, none⟩), .slice (some ⟨k, 0, none⟩) 1 1] W fun e w' => e = .returned un ∧ Im W0 p o L c M (dN L 1 0 1 s).1 { m with again := decide ((dN L 1 0 1 s).2 = 1) } w' := by
  have hkp : k ≠ p := by rintro rfl; rw [h.rr.row] at hk; injection hk with hk; injection hk with _ hk _; cases hk
  refine (dflags1_c h.rr (by have := cr.lb; omega) k M 54 m.cells.toArray 27 m.again hk hkp h.row (h.cell (Msg.get h.len).2.2.2.2.2.2.1) cr.mp cr.ob).mono ?_
  rintro e w' ⟨h1, h2, h3, h4⟩
  rw [Msg.again' h.len] at h3
  exact ⟨h1, h2, h3, ⟨h.len.r, h.len.s, h.len.b, h.len.k⟩, h.old cr h4 h.nm, h.old cr h4 h.pa, h.old cr h4 h.ti, h.gs.trans h4⟩
/-- protos, where there are none yet. -/
theorem ir_p (h : Im W0 p o L c M s m W) (cr : Cr W0 p o L M) (h0 : m.po = none ∧ m.protos = [] ∧ m.pc = 0) (N : Nat) (hN : N ≤ 1000) : Calls Try.prog 65 #[.pointer (some ⟨p, 0, none⟩), .pointer (some ⟨M, 34, none⟩), .int .i64 (N : Int)] W fun e w' => e = .returned un ∧ ∃ po pc, Im W0 p o L c M (dPs L N s []).1 { m with po := po, protos := (dPs L N s []).2, pc := pc } w' := by
  have hc := h.cell (Msg.get h.len).2.2.1
  rw [h0.1, h0.2.1, h0.2.2] at hc
  refine (dprotos_c h.rr (by have := cr.lb; omega) h.row hc cr.mp cr.ob N hN).mono ?_
  rintro e w' ⟨h1, v, h2, h3, h4, h5⟩
  obtain ⟨po, pc, rfl, _⟩ := own_shape h4
  rw [Msg.protos' h.len] at h3
  exact ⟨h1, po, pc, h2, h3, ⟨h.len.r, h.len.s, h.len.b, h.len.k⟩, own_low h4 h.gs.size, h.old cr h5 h.pa, h.old cr h5 h.ti, h.gs.trans h5⟩
/-- must. -/
theorem ir_m (h : Im W0 p o L c M s m W) (cr : Cr W0 p o L M) (ok : Bool) : Calls Try.prog 23 #[.pointer (some ⟨p, 0, none⟩), .bool ok] W fun e w' => e = .returned un ∧ Im W0 p o L c M (s.1 || !ok, s.2) m w' := by
  refine (must_g W p s.1 ok h.rr.c0 (h.rr.fr 0)).mono ?_
  rintro e w' ⟨h1, rfl⟩
  have hg : Gs (fun k => k = p ∨ k = M) W (W.setCell ⟨p, 0, none⟩ (.bool (s.1 || !ok))) := Gs.set _ (.inl rfl)
  exact ⟨h1, h.rr.set0 _, (Below.heap_setCell _ _ _ _ (by show M ≠ p; exact cr.mp)).trans h.row, h.len, h.old cr hg h.nm, h.old cr hg h.pa, h.old cr hg h.ti, h.gs.trans hg⟩
end
end Go.Proofs.Ytcchlicokglmnaa
