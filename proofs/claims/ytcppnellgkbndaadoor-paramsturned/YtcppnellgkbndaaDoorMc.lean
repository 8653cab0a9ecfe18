/- params: Check. -/
import Derived.Test.YtcppnellgkbndaaDoorMt
namespace Go.Proofs.YtcppnellgkbndaaDoor
open Go.ChangeShapes Go.WideShapes Go.ChangeAt Go.RowKit Go.Shelf
set_option linter.unusedVariables false
set_option maxRecDepth 100000

/-- Parameters that may not be. -/
def Ps.bad (p : Ps) (s : Bool) : Bool := (tab 0 p).any fun x => x.r.bad s
theorem tab_bad (P : Nat) (p : Ps) (s : Bool) : ((tab P p).map (·.r)).any (Row.bad s) = p.bad s := rfl
theorem tab_len (P : Nat) (p : Ps) : (tab P p).length = 17 := rfl
/-- The lists of parameters as they lie. -/
structure Pl (w : World) (p : Ps) : Prop where
  orig : p.orig.at w
  first : p.first.at w
  again : p.again.at w
  r16 : p.reset.length = 16
theorem Pl.bel {w X : World} {p : Ps} (h : Pl w p) (hb : Below w.heap.size w X) : Pl X p := ⟨h.orig.bel hb, h.first.bel hb, h.again.bel hb, h.r16⟩
theorem Pl.pm {w : World} {p : Ps} (h : Pl w p) : Pm (w.alloc (.cells p.cells.toArray 25)) w.heap.size p := ⟨heap_alloc_new w _, h.orig.bel (bel1 w _), h.first.bel (bel1 w _), h.again.bel (bel1 w _), h.r16⟩
set_option maxHeartbeats 1000000 in
theorem check_c (p : Ps) (s : Bool) (w : World) (h : Pl w p) : Calls Tryd.prog 11 #[.agg p.cells.toArray, .bool s] w fun e w' => e = .returned (.int .i64 (if p.bad s then 2 else 0)) ∧ Below w.heap.size w w' := by
  obtain ⟨W1, hW1, hpm, hb1, hs1⟩ : ∃ W1, w.alloc (.cells p.cells.toArray 25) = W1 ∧ Pm W1 w.heap.size p ∧ Below w.heap.size w W1 ∧ W1.heap.size = w.heap.size + 1 := ⟨_, rfl, h.pm, bel1 w _, by simp⟩
  obtain ⟨W2, hW2, hc2, hb2⟩ : ∃ W2, W1.alloc (.cells #[.bool s] 4) = W2 ∧ W2.cell? ⟨W1.heap.size, 0, none⟩ = some (.bool s) ∧ Below W1.heap.size W1 W2 := ⟨_, rfl, cell_new W1 _ 4 0 _ rfl, bel1 W1 _⟩
  rw [hs1] at hc2
  have hf := fields_c w.heap.size W2
  have HB2 : Aside (Below w.heap.size w W2) := bel_trans hb1 hb2
  have HCN : Aside (∀ (g : Nat) (X : World), X.heap[g]? = some (.cells ((rowsV w.heap.size).flatMap fun v => v.cells.toList).toArray 58 (0, 0)) → Below W2.heap.size W2 X → Calls Tryd.prog 28 #[.slice (some ⟨g, 0, none⟩) 17 17, .func (.func 26) #[] #[.pointer (some ⟨w.heap.size + 1, 0, none⟩)]] X fun r w' => r = .returned (.bool (p.bad s)) ∧ Below X.heap.size X w') := fun g X hg hb => by
    have hpX : Pm X w.heap.size p := (hpm.bel hb2).bel hb
    have := contains_c (sb := w.heap.size + 1) (s := s) (c := 17) (tab_fs p hg) (fun r hr => by
      obtain ⟨x, hx, rfl⟩ := List.mem_map.1 hr
      exact tab_may hpX x hx) (cell_bel hc2 hb) (by rw [List.length_map, tab_len]; exact Nat.le_refl _)
    rw [List.length_map, tab_len, tab_bad] at this
    exact this
  clear h hpm hb1 hb2 hc2
  generalize p.bad s = y at *
  generalize p.cells.toArray = cs at *
  go_enter Tryd.func11, Tryd.ntmps11
  go_wp2_with fail
  refine hf.mono ?_
  rintro e W3 ⟨g, rfl, hg, hb3⟩
  have hc := HCN.out g W3 hg hb3
  have HB3 : Aside (Below w.heap.size w W3) := bel_trans HB2.out hb3
  clear hf hg hb3 HCN
  go_wp2_with fail
  refine hc.mono ?_
  rintro e W4 ⟨rfl, hb4⟩
  have HB4 : Aside (Below w.heap.size w W4) := bel_trans HB3.out hb4
  clear hc hb4
  cases y <;> {
    go_wp2
    go_ret
    exact ⟨rfl, HB4.out⟩ }
end Go.Proofs.YtcppnellgkbndaaDoor
