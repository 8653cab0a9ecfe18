/- The reader's protos. -/
import Derived.Test.YtcchlicokglmnaaDh
namespace Go.Proofs.Ytcchlicokglmnaa
open Go.ChangeShapes Go.WideShapes Go.ChangeAt Go.RowKit Go.Lib
set_option linter.unusedVariables false

theorem own_at {B e z n : Nat} {W W' : World} {v : Value} {xs : List Value} (h : W.ownsRow B e z v n xs) (hb : ∀ k, B ≤ k → k < W.heap.size → W'.heap[k]? = W.heap[k]?) : W'.ownsRow B e z v n xs := by
  obtain ⟨hl, ⟨hv, hn⟩ | ⟨g, cap, cur, he, k1, k2, k3⟩⟩ := h
  · exact ⟨hl, .inl ⟨hv, hn⟩⟩
  · exact ⟨hl, .inr ⟨g, cap, cur, he, k1, (hb g k1 (lt_block k2)).trans k2, k3⟩⟩
theorem own_shape {B e z n : Nat} {w : World} {v : Value} {xs : List Value} (h : w.ownsRow B e z v n xs) : ∃ o c, v = .slice o n c ∧ ∀ k, some k = v.ownBlock → B ≤ k := by
  obtain ⟨hl, ⟨hv, hn⟩ | ⟨g, cap, cur, he, k1, _⟩⟩ := h
  · subst hn hv; exact ⟨none, 0, rfl, fun k hk => by cases hk⟩
  · subst he; exact ⟨_, _, rfl, fun k hk => by simp [Value.ownBlock] at hk; omega⟩
/-- Texts read. -/
def dPs (L : List UInt8) : Nat → Sd → List ByteArray → Sd × List ByteArray
  | 0, s, ns => (s, ns)
  | n + 1, s, ns => if (dS L 1 s).1.1 = true then ((dS L 1 s).1, ns) else dPs L n (dS L 1 s).1 (ns ++ [⟨(dS L 1 s).2.toArray⟩])
/-- The texts as they lie behind so many. -/
structure DpS (w : World) (p : Nat) (o : Option Addr) (L : List UInt8) (c : Nat) (q j : Nat) (cs : Array Value) (t : Nat) (s : Sd) (ns : List ByteArray) (v : Value) (W : World) : Prop where
  rr : Rr W p o L c s.1 s.2
  row : W.heap[q]? = some (.cells (cs.setIfInBounds j v) t (0, 0))
  own : W.ownsRow w.heap.size 9 1 v ns.length (ns.map .string)
  gs : Gs (fun k => k = p ∨ k = q) w W
section
variable {w : World} {p : Nat} {o : Option Addr} {L : List UInt8} {c : Nat} {q j : Nat} {cs : Array Value} {t : Nat} {s : Sd} {ns : List ByteArray} {v : Value} {W : World}
theorem info9 : (Try.prog.info? 9).map (fun i => (i.zero, i.size, i.bytes)) = some (some (.string ⟨#[]⟩), 1, 16) := by kernel_rfl
/-- One text more. -/
theorem DpS.step (h : DpS w p o L c q j cs t s ns v W) (hp : p < w.heap.size) (hq : q < w.heap.size) (hqp : q ≠ p) (hqb : ∀ x, o = some x → L ≠ [] → x.block ≠ q) (hob : ∀ x, o = some x → L ≠ [] → x.block < w.heap.size) (hj : j < cs.size) (hn : ns.length ≤ 1000) {s' : Sd} {S : ByteArray} {e : Ending} {W2 : World}
    (hs : DpR p o L c s' W.heap.size #[.string S] 9 (W.alloc (.cells #[.string ⟨#[]⟩] 9)) e W2) :
    e = .returned (.tuple #[]) ∧ DpS w p o L c q j cs t s' ns v W2 ∧ W2.cell? ⟨p, 0, none⟩ = some (.bool s'.1) ∧ (W2.cell? ⟨q, j, none⟩ = some v ∧ W2.cell? ⟨W.heap.size, 0, none⟩ = some (.string S)) ∧ ((W2.drew.alloc (.cells #[.string S] 9)).cell? ⟨q, j, none⟩ = some v ∧ (W2.drew.alloc (.cells #[.string S] 9)).cell? ⟨W.heap.size, 0, none⟩ = some (.string S)) ∧
      ∃ o' c' X3, (Builtin.append_ #[24, 24] 24 #[v, .slice (some ⟨W2.heap.size, 0, none⟩) 1 1]).run Try.prog (W2.drew.alloc (.cells #[.string S] 9)) = .ok (.slice o' (ns.length + 1) c') X3 ∧ X3.cell? ⟨q, j, none⟩ = some v ∧ X3.frozen? ⟨q, j, none⟩ = false ∧ DpS w p o L c q j cs t s' (ns ++ [S]) (.slice o' (ns.length + 1) c') (X3.setCell ⟨q, j, none⟩ (.slice o' (ns.length + 1) c')) := by
  obtain ⟨h1, h2, h3, h4⟩ := hs
  have ha := bl1 W (.cells #[.string ⟨#[]⟩] 9)
  have hW := h.gs.size
  have hblk : ∀ k, k < W.heap.size → k ≠ p → W2.heap[k]? = W.heap[k]? := fun k hk hkp => (h4.block k (Nat.lt_of_lt_of_le hk ha.size) (fun hh => by rcases hh with hh | hh; exact hkp hh; omega)).trans (ha.block k hk)
  have hsz : W.heap.size ≤ W2.heap.size := Nat.le_trans ha.size h4.size
  have hrow : W2.heap[q]? = some (.cells (cs.setIfInBounds j v) t (0, 0)) := (hblk q (by omega) hqp).trans h.row
  have hg2 : Gs (fun k => k = p ∨ k = q) w W2 := ⟨(h4.os.trans ha.os).trans h.gs.os, (h4.tape.trans ha.tape).trans h.gs.tape, (h4.output.trans ha.output).trans h.gs.output, Nat.le_trans hW hsz, fun k hk hn => (hblk k (by omega) (fun hh => hn (.inl hh))).trans (h.gs.block k hk hn)⟩
  have hown : W2.ownsRow w.heap.size 9 1 v ns.length (ns.map .string) := own_at h.own (fun k hk hl => hblk k hl (by omega))
  have hD : DpS w p o L c q j cs t s' ns v W2 := ⟨h2, hrow, hown, hg2⟩
  have hb2 : Below W2.heap.size W2 (W2.drew.alloc (.cells #[.string S] 9)) := (bld W2).trans (bl1 W2.drew _)
  have cq : W2.cell? ⟨q, j, none⟩ = some v := by unfold World.cell?; rw [hrow]; simp [hj]
  have cb : W2.cell? ⟨W.heap.size, 0, none⟩ = some (.string S) := by unfold World.cell?; rw [h3]; rfl
  refine ⟨h1, hD, h2.c0, ⟨cq, cb⟩, ⟨(hb2.cell (p := ⟨q, j, none⟩) (World.block_lt_of_cell? _ _ cq)).trans cq, (hb2.cell (p := ⟨W.heap.size, 0, none⟩) (World.block_lt_of_cell? _ _ cb)).trans cb⟩, ?_⟩
  obtain ⟨i0, hi, hz0, hz1, hz2⟩ := info_parts info9
  have hown3 : (W2.drew.alloc (.cells #[.string S] 9)).ownsRow w.heap.size 9 1 v ns.length (ns.map .string) := own_at hown (fun k _ hl => hb2.block k hl)
  obtain ⟨v', X3, hrun, ho, hg, _, _⟩ := run_append_own_at (P := Try.prog) (W2.drew.alloc (.cells #[.string S] 9)) w.heap.size 24 24 9 i0 (.string ⟨#[]⟩) 1 16 Try.underlying24 hi hz0 hz1 hz2 rfl (by decide) v ns.length _ hown3 ⟨W2.drew.heap.size, 0, none⟩ 1 1 [.string S] rfl (cell_one_new W2.drew _ 9) (by simp [Value.oneCell']) (by unfold maxLen; omega) (by omega) (Nat.le_trans hg2.size hb2.size)
  obtain ⟨o', c', rfl, _⟩ := own_shape ho
  obtain ⟨_, _, _, hvB⟩ := own_shape hown
  have hb3 : ∀ k, k < w.heap.size → X3.heap[k]? = W2.heap[k]? := fun k hk => (hg.block k (by have := hg2.size; have := hb2.size; omega) (fun hh => by have := hvB k hh; omega)).trans (hb2.block k (by have := hg2.size; omega))
  have hrow3 : X3.heap[q]? = some (.cells (cs.setIfInBounds j v) t (0, 0)) := (hb3 q hq).trans hrow
  have hg3 : Gs (fun k => k = p ∨ k = q) w X3 := ⟨(hg.os.trans hb2.os).trans hg2.os, (hg.tape.trans hb2.tape).trans hg2.tape, (hg.output.trans hb2.output).trans hg2.output, Nat.le_trans hg2.size (Nat.le_trans hb2.size hg.size), fun k hk hn => (hb3 k hk).trans (hg2.block k hk hn)⟩
  have hg4 : Gs (fun k => k = q) X3 (X3.setCell ⟨q, j, none⟩ (.slice o' (ns.length + 1) c')) := Gs.set _ rfl
  have hr3 : Rr X3 p o L c s'.1 s'.2 := by
    refine ⟨(hb3 p hp).trans h2.row, ?_, h2.le, h2.cap, h2.ne, h2.big, h2.ap⟩
    intro i hi
    obtain ⟨b, off, e1, hc⟩ := h2.sl i hi
    have hl : L ≠ [] := by rintro rfl; simp at hi
    exact ⟨b, off, e1, (World.cell?_of_block (a := ⟨b, off + i, none⟩) (hb3 b (hob _ e1 hl))).trans hc⟩
  refine ⟨o', c', X3, hrun, by unfold World.cell?; rw [hrow3]; simp [hj], by unfold World.frozen?; rw [hrow3]; simp, hr3.gs hg4 (fun hh => hqp hh.symm) (fun x hx hl hh => hqb x hx hl hh), ?_, ?_, hg3.trans (hg4.mono fun k hk => .inr hk)⟩
  · rw [heap_setCell_same X3 q j _ t _ hrow3]
    simp
  · have e1 : (ns ++ [S]).length = ns.length + 1 := by simp
    rw [e1, List.map_append]
    exact own_at ho (fun k hk hl => Below.heap_setCell _ _ _ _ (by show k ≠ q; omega))
end
end Go.Proofs.Ytcchlicokglmnaa
