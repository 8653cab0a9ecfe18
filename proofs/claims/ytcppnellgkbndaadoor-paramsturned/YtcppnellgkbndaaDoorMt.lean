/- params: the table's rows, and what their methods answer. -/
import Derived.Test.YtcppnellgkbndaaDoorMf
import Derived.Test.YtcppnellgkbndaaDoorMm
namespace Go.Proofs.YtcppnellgkbndaaDoor
open Go.ChangeShapes Go.WideShapes Go.ChangeAt Go.RowKit Go.Shelf
set_option linter.unusedVariables false
set_option maxRecDepth 100000

/-- Bytes of a list, and where they lie. -/
structure Bl where
  o : Option Addr
  l : List UInt8
  c : Nat
/-- They lie so. -/
def Bl.at (w : World) (b : Bl) : Prop := Sl w b.o b.l ∧ (b.o = none → b.l.length = 0 ∧ b.c = 0)
theorem Bl.at.bel {w X : World} {b : Bl} (h : b.at w) (hb : Below w.heap.size w X) : b.at X := ⟨Sl_below h.1 hb, h.2⟩
/-- Parameters. -/
structure Ps where
  idle : Int
  payload : Int
  data : Int
  bl : Int
  br : Int
  un : Int
  sb : Int
  su : Int
  ex : Int
  de : Int
  still : Bool
  ids : Int
  dg : Int
  orig : Bl
  first : Bl
  again : Bl
  hasAgain : Bool
  reset : List UInt8
  hasReset : Bool
def Ps.cells (p : Ps) : List Value := [.int .i64 p.idle, .int .i64 p.payload, .int .i64 p.data, .int .i64 p.bl, .int .i64 p.br, .int .i64 p.un, .int .i64 p.sb, .int .i64 p.su, .int .i64 p.ex, .int .i64 p.de, .bool p.still, .int .i64 p.ids, .int .i64 p.dg, .slice p.orig.o p.orig.l.length p.orig.c, .slice p.first.o p.first.l.length p.first.c, .slice p.again.o p.again.l.length p.again.c, .bool p.hasAgain] ++ (hl p.reset ++ [.bool p.hasReset])
theorem Ps.last (p : Ps) (h : p.reset.length = 16) : p.cells[33]? = some (.bool p.hasReset) := by
  unfold Ps.cells
  rw [List.getElem?_append_right (by simp), List.getElem?_append_right (by simp [hl, h])]
  simp [hl, h]
/-- Parameters as they lie. -/
structure Pm (w : World) (P : Nat) (p : Ps) : Prop where
  row : w.heap[P]? = some (.cells p.cells.toArray 25 (0, 0))
  orig : p.orig.at w
  first : p.first.at w
  again : p.again.at w
  r16 : p.reset.length = 16
theorem cellb {w : World} {g j : Nat} {cs : Array Value} {t : TypeId} {fr : Nat × Nat} {v : Value} (h : w.heap[g]? = some (.cells cs t fr)) (hj : cs[j]? = some v) : w.cell? ⟨g, j, none⟩ = some v := by
  unfold World.cell?
  rw [h]
  simpa using hj
theorem Pm.cell {w : World} {P : Nat} {p : Ps} (h : Pm w P p) (j : Nat) (v : Value) (hv : p.cells[j]? = some v) : w.cell? ⟨P, j, none⟩ = some v := cellb h.row (by simpa using hv)
theorem Pm.rr {w : World} {P : Nat} {p : Ps} (h : Pm w P p) : w.rangeAt P 17 (hl p.reset) := fun j v hv => by
  refine h.cell (17 + j) v ?_
  have hj : j < (hl p.reset).length := (List.getElem?_eq_some_iff.1 hv).1
  unfold Ps.cells
  rw [List.getElem?_append_right (by simp), List.getElem?_append_left (by simpa using hj)]
  simpa using hv
theorem Pm.rs {w : World} {P : Nat} {p : Ps} (h : Pm w P p) : Sl w (some ⟨P, 17, none⟩) p.reset := by
  exact fun j hj => ⟨P, 17, rfl, h.rr j _ (hl_get hj)⟩
theorem Pm.bel {w X : World} {P : Nat} {p : Ps} (h : Pm w P p) (hb : Below w.heap.size w X) : Pm X P p := ⟨(hb.block P (lt_block h.row)).trans h.row, h.orig.bel hb, h.first.bel hb, h.again.bel hb, h.r16⟩
/-- A row with its bytes. -/
structure RowB where
  r : Row
  bs : List UInt8
/-- The table's rows over parameters. -/
def tab (P : Nat) (p : Ps) : List RowB := [⟨⟨0, true, true, 87, idV P 13, decide (p.orig.l.length ≤ 20), decide (0 < p.orig.l.length)⟩, p.orig.l⟩, ⟨⟨1, false, false, 83, numV P 0 0 4611686018427387903 0, decide (0 ≤ p.idle ∧ p.idle ≤ 4611686018427387903), !(p.idle == 0)⟩, enc (szN p.idle) p.idle⟩, ⟨⟨2, true, false, 91, resetV P 17 33, p.hasReset || (p.reset == List.replicate 16 0), p.hasReset⟩, p.reset⟩, ⟨⟨3, false, false, 83, numV P 1 1200 4611686018427387903 65527, decide (1200 ≤ p.payload ∧ p.payload ≤ 4611686018427387903), !(p.payload == 65527)⟩, enc (szN p.payload) p.payload⟩, ⟨⟨4, false, false, 83, numV P 2 0 4611686018427387903 0, decide (0 ≤ p.data ∧ p.data ≤ 4611686018427387903), !(p.data == 0)⟩, enc (szN p.data) p.data⟩, ⟨⟨5, false, false, 83, numV P 3 0 4611686018427387903 0, decide (0 ≤ p.bl ∧ p.bl ≤ 4611686018427387903), !(p.bl == 0)⟩, enc (szN p.bl) p.bl⟩, ⟨⟨6, false, false, 83, numV P 4 0 4611686018427387903 0, decide (0 ≤ p.br ∧ p.br ≤ 4611686018427387903), !(p.br == 0)⟩, enc (szN p.br) p.br⟩, ⟨⟨7, false, false, 83, numV P 5 0 4611686018427387903 0, decide (0 ≤ p.un ∧ p.un ≤ 4611686018427387903), !(p.un == 0)⟩, enc (szN p.un) p.un⟩, ⟨⟨8, false, false, 83, numV P 6 0 1152921504606846976 0, decide (0 ≤ p.sb ∧ p.sb ≤ 1152921504606846976), !(p.sb == 0)⟩, enc (szN p.sb) p.sb⟩, ⟨⟨9, false, false, 83, numV P 7 0 1152921504606846976 0, decide (0 ≤ p.su ∧ p.su ≤ 1152921504606846976), !(p.su == 0)⟩, enc (szN p.su) p.su⟩, ⟨⟨10, false, false, 83, numV P 8 0 20 3, decide (0 ≤ p.ex ∧ p.ex ≤ 20), !(p.ex == 3)⟩, enc (szN p.ex) p.ex⟩, ⟨⟨11, false, false, 83, numV P 9 0 16383 25, decide (0 ≤ p.de ∧ p.de ≤ 16383), !(p.de == 25)⟩, enc (szN p.de) p.de⟩, ⟨⟨12, false, false, 93, flagV P 10, true, p.still⟩, []⟩, ⟨⟨14, false, false, 83, numV P 11 2 4611686018427387903 2, decide (2 ≤ p.ids ∧ p.ids ≤ 4611686018427387903), !(p.ids == 2)⟩, enc (szN p.ids) p.ids⟩, ⟨⟨15, false, true, 87, idV P 14, decide (p.first.l.length ≤ 20), decide (0 < p.first.l.length)⟩, p.first.l⟩, ⟨⟨16, true, false, 95, optV P 15 16, decide (p.again.l.length ≤ 20) && (p.hasAgain || !decide (0 < p.again.l.length)), p.hasAgain⟩, p.again.l⟩, ⟨⟨32, false, false, 83, numV P 12 0 4611686018427387903 0, decide (0 ≤ p.dg ∧ p.dg ≤ 4611686018427387903), !(p.dg == 0)⟩, enc (szN p.dg) p.dg⟩]
theorem tab_may {w : World} {P : Nat} {p : Ps} (h : Pm w P p) : ∀ x ∈ tab P p, x.r.may w := by
  have c0 : w.cell? ⟨P, 0, none⟩ = some (.int .i64 p.idle) := h.cell 0 _ rfl
  have c1 : w.cell? ⟨P, 1, none⟩ = some (.int .i64 p.payload) := h.cell 1 _ rfl
  have c2 : w.cell? ⟨P, 2, none⟩ = some (.int .i64 p.data) := h.cell 2 _ rfl
  have c3 : w.cell? ⟨P, 3, none⟩ = some (.int .i64 p.bl) := h.cell 3 _ rfl
  have c4 : w.cell? ⟨P, 4, none⟩ = some (.int .i64 p.br) := h.cell 4 _ rfl
  have c5 : w.cell? ⟨P, 5, none⟩ = some (.int .i64 p.un) := h.cell 5 _ rfl
  have c6 : w.cell? ⟨P, 6, none⟩ = some (.int .i64 p.sb) := h.cell 6 _ rfl
  have c7 : w.cell? ⟨P, 7, none⟩ = some (.int .i64 p.su) := h.cell 7 _ rfl
  have c8 : w.cell? ⟨P, 8, none⟩ = some (.int .i64 p.ex) := h.cell 8 _ rfl
  have c9 : w.cell? ⟨P, 9, none⟩ = some (.int .i64 p.de) := h.cell 9 _ rfl
  have c10 : w.cell? ⟨P, 10, none⟩ = some (.bool p.still) := h.cell 10 _ rfl
  have c11 : w.cell? ⟨P, 11, none⟩ = some (.int .i64 p.ids) := h.cell 11 _ rfl
  have c12 : w.cell? ⟨P, 12, none⟩ = some (.int .i64 p.dg) := h.cell 12 _ rfl
  have c13 : w.cell? ⟨P, 13, none⟩ = some (.slice p.orig.o p.orig.l.length p.orig.c) := h.cell 13 _ rfl
  have c14 : w.cell? ⟨P, 14, none⟩ = some (.slice p.first.o p.first.l.length p.first.c) := h.cell 14 _ rfl
  have c15 : w.cell? ⟨P, 15, none⟩ = some (.slice p.again.o p.again.l.length p.again.c) := h.cell 15 _ rfl
  have c16 : w.cell? ⟨P, 16, none⟩ = some (.bool p.hasAgain) := h.cell 16 _ rfl
  have c33 : w.cell? ⟨P, 33, none⟩ = some (.bool p.hasReset) := h.cell 33 _ (p.last h.r16)
  intro x hx
  simp only [tab, List.mem_cons, List.not_mem_nil, or_false] at hx
  rcases hx with rfl | rfl | rfl | rfl | rfl | rfl | rfl | rfl | rfl | rfl | rfl | rfl | rfl | rfl | rfl | rfl | rfl
  · exact ⟨mb_id_a P 13 w _ _ _ c13, mb_id_t P 13 w _ _ _ c13⟩
  · exact ⟨mb_num_a P 0 w _ _ _ _ c0, mb_num_t P 0 w _ _ _ _ c0⟩
  · exact ⟨mb_reset_a P 17 33 w _ _ h.r16 h.rr c33, mb_reset_t P 17 33 w _ c33⟩
  · exact ⟨mb_num_a P 1 w _ _ _ _ c1, mb_num_t P 1 w _ _ _ _ c1⟩
  · exact ⟨mb_num_a P 2 w _ _ _ _ c2, mb_num_t P 2 w _ _ _ _ c2⟩
  · exact ⟨mb_num_a P 3 w _ _ _ _ c3, mb_num_t P 3 w _ _ _ _ c3⟩
  · exact ⟨mb_num_a P 4 w _ _ _ _ c4, mb_num_t P 4 w _ _ _ _ c4⟩
  · exact ⟨mb_num_a P 5 w _ _ _ _ c5, mb_num_t P 5 w _ _ _ _ c5⟩
  · exact ⟨mb_num_a P 6 w _ _ _ _ c6, mb_num_t P 6 w _ _ _ _ c6⟩
  · exact ⟨mb_num_a P 7 w _ _ _ _ c7, mb_num_t P 7 w _ _ _ _ c7⟩
  · exact ⟨mb_num_a P 8 w _ _ _ _ c8, mb_num_t P 8 w _ _ _ _ c8⟩
  · exact ⟨mb_num_a P 9 w _ _ _ _ c9, mb_num_t P 9 w _ _ _ _ c9⟩
  · exact ⟨mb_flag_a P 10 w, mb_flag_t P 10 w _ c10⟩
  · exact ⟨mb_num_a P 11 w _ _ _ _ c11, mb_num_t P 11 w _ _ _ _ c11⟩
  · exact ⟨mb_id_a P 14 w _ _ _ c14, mb_id_t P 14 w _ _ _ c14⟩
  · exact ⟨mb_opt_a P 15 16 w _ _ _ _ c15 c16, mb_opt_t P 15 16 w _ c16⟩
  · exact ⟨mb_num_a P 12 w _ _ _ _ c12, mb_num_t P 12 w _ _ _ _ c12⟩
theorem tab_by {w : World} {P : Nat} {p : Ps} (h : Pm w P p) (ht : Tb w) : ∀ x ∈ tab P p, x.r.al = true → MBy w x.r.T x.r.v x.bs := by
  have c0 : w.cell? ⟨P, 0, none⟩ = some (.int .i64 p.idle) := h.cell 0 _ rfl
  have c1 : w.cell? ⟨P, 1, none⟩ = some (.int .i64 p.payload) := h.cell 1 _ rfl
  have c2 : w.cell? ⟨P, 2, none⟩ = some (.int .i64 p.data) := h.cell 2 _ rfl
  have c3 : w.cell? ⟨P, 3, none⟩ = some (.int .i64 p.bl) := h.cell 3 _ rfl
  have c4 : w.cell? ⟨P, 4, none⟩ = some (.int .i64 p.br) := h.cell 4 _ rfl
  have c5 : w.cell? ⟨P, 5, none⟩ = some (.int .i64 p.un) := h.cell 5 _ rfl
  have c6 : w.cell? ⟨P, 6, none⟩ = some (.int .i64 p.sb) := h.cell 6 _ rfl
  have c7 : w.cell? ⟨P, 7, none⟩ = some (.int .i64 p.su) := h.cell 7 _ rfl
  have c8 : w.cell? ⟨P, 8, none⟩ = some (.int .i64 p.ex) := h.cell 8 _ rfl
  have c9 : w.cell? ⟨P, 9, none⟩ = some (.int .i64 p.de) := h.cell 9 _ rfl
  have c10 : w.cell? ⟨P, 10, none⟩ = some (.bool p.still) := h.cell 10 _ rfl
  have c11 : w.cell? ⟨P, 11, none⟩ = some (.int .i64 p.ids) := h.cell 11 _ rfl
  have c12 : w.cell? ⟨P, 12, none⟩ = some (.int .i64 p.dg) := h.cell 12 _ rfl
  have c13 : w.cell? ⟨P, 13, none⟩ = some (.slice p.orig.o p.orig.l.length p.orig.c) := h.cell 13 _ rfl
  have c14 : w.cell? ⟨P, 14, none⟩ = some (.slice p.first.o p.first.l.length p.first.c) := h.cell 14 _ rfl
  have c15 : w.cell? ⟨P, 15, none⟩ = some (.slice p.again.o p.again.l.length p.again.c) := h.cell 15 _ rfl
  have c16 : w.cell? ⟨P, 16, none⟩ = some (.bool p.hasAgain) := h.cell 16 _ rfl
  have c33 : w.cell? ⟨P, 33, none⟩ = some (.bool p.hasReset) := h.cell 33 _ (p.last h.r16)
  intro x hx ha
  simp only [tab, List.mem_cons, List.not_mem_nil, or_false] at hx
  rcases hx with rfl | rfl | rfl | rfl | rfl | rfl | rfl | rfl | rfl | rfl | rfl | rfl | rfl | rfl | rfl | rfl | rfl
  · exact mb_id_b P 13 w _ _ _ h.orig.1 h.orig.2 c13
  · exact mb_num_b P 0 w _ _ _ _ ht (by have := of_decide_eq_true ha; omega) c0
  · exact mb_reset_b P 17 33 w _ h.r16 h.rs
  · exact mb_num_b P 1 w _ _ _ _ ht (by have := of_decide_eq_true ha; omega) c1
  · exact mb_num_b P 2 w _ _ _ _ ht (by have := of_decide_eq_true ha; omega) c2
  · exact mb_num_b P 3 w _ _ _ _ ht (by have := of_decide_eq_true ha; omega) c3
  · exact mb_num_b P 4 w _ _ _ _ ht (by have := of_decide_eq_true ha; omega) c4
  · exact mb_num_b P 5 w _ _ _ _ ht (by have := of_decide_eq_true ha; omega) c5
  · exact mb_num_b P 6 w _ _ _ _ ht (by have := of_decide_eq_true ha; omega) c6
  · exact mb_num_b P 7 w _ _ _ _ ht (by have := of_decide_eq_true ha; omega) c7
  · exact mb_num_b P 8 w _ _ _ _ ht (by have := of_decide_eq_true ha; omega) c8
  · exact mb_num_b P 9 w _ _ _ _ ht (by have := of_decide_eq_true ha; omega) c9
  · exact mb_flag_b P 10 w
  · exact mb_num_b P 11 w _ _ _ _ ht (by have := of_decide_eq_true ha; omega) c11
  · exact mb_id_b P 14 w _ _ _ h.first.1 h.first.2 c14
  · exact mb_opt_b P 15 16 w _ _ _ h.again.1 h.again.2 c15
  · exact mb_num_b P 12 w _ _ _ _ ht (by have := of_decide_eq_true ha; omega) c12
theorem tab_fs {w : World} {g P : Nat} (p : Ps) (h : w.heap[g]? = some (.cells ((rowsV P).flatMap fun v => v.cells.toList).toArray 58 (0, 0))) : Fs w g ((tab P p).map (·.r)) := by
  intro k hk
  match k, hk with
  | 0, _ => exact ⟨cellb h (by kernel_rfl), cellb h (by kernel_rfl), cellb h (by kernel_rfl), cellb h (by kernel_rfl)⟩
  | 1, _ => exact ⟨cellb h (by kernel_rfl), cellb h (by kernel_rfl), cellb h (by kernel_rfl), cellb h (by kernel_rfl)⟩
  | 2, _ => exact ⟨cellb h (by kernel_rfl), cellb h (by kernel_rfl), cellb h (by kernel_rfl), cellb h (by kernel_rfl)⟩
  | 3, _ => exact ⟨cellb h (by kernel_rfl), cellb h (by kernel_rfl), cellb h (by kernel_rfl), cellb h (by kernel_rfl)⟩
  | 4, _ => exact ⟨cellb h (by kernel_rfl), cellb h (by kernel_rfl), cellb h (by kernel_rfl), cellb h (by kernel_rfl)⟩
  | 5, _ => exact ⟨cellb h (by kernel_rfl), cellb h (by kernel_rfl), cellb h (by kernel_rfl), cellb h (by kernel_rfl)⟩
  | 6, _ => exact ⟨cellb h (by kernel_rfl), cellb h (by kernel_rfl), cellb h (by kernel_rfl), cellb h (by kernel_rfl)⟩
  | 7, _ => exact ⟨cellb h (by kernel_rfl), cellb h (by kernel_rfl), cellb h (by kernel_rfl), cellb h (by kernel_rfl)⟩
  | 8, _ => exact ⟨cellb h (by kernel_rfl), cellb h (by kernel_rfl), cellb h (by kernel_rfl), cellb h (by kernel_rfl)⟩
  | 9, _ => exact ⟨cellb h (by kernel_rfl), cellb h (by kernel_rfl), cellb h (by kernel_rfl), cellb h (by kernel_rfl)⟩
  | 10, _ => exact ⟨cellb h (by kernel_rfl), cellb h (by kernel_rfl), cellb h (by kernel_rfl), cellb h (by kernel_rfl)⟩
  | 11, _ => exact ⟨cellb h (by kernel_rfl), cellb h (by kernel_rfl), cellb h (by kernel_rfl), cellb h (by kernel_rfl)⟩
  | 12, _ => exact ⟨cellb h (by kernel_rfl), cellb h (by kernel_rfl), cellb h (by kernel_rfl), cellb h (by kernel_rfl)⟩
  | 13, _ => exact ⟨cellb h (by kernel_rfl), cellb h (by kernel_rfl), cellb h (by kernel_rfl), cellb h (by kernel_rfl)⟩
  | 14, _ => exact ⟨cellb h (by kernel_rfl), cellb h (by kernel_rfl), cellb h (by kernel_rfl), cellb h (by kernel_rfl)⟩
  | 15, _ => exact ⟨cellb h (by kernel_rfl), cellb h (by kernel_rfl), cellb h (by kernel_rfl), cellb h (by kernel_rfl)⟩
  | 16, _ => exact ⟨cellb h (by kernel_rfl), cellb h (by kernel_rfl), cellb h (by kernel_rfl), cellb h (by kernel_rfl)⟩
  | k + 17, hk => exact absurd hk (by simp [tab])
end Go.Proofs.YtcppnellgkbndaaDoor
