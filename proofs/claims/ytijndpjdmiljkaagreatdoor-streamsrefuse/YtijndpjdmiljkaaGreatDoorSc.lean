/- streams: how far a stream may reach at first; an outbox; begin of a stream of the peer's. -/
import Derived.Test.YtijndpjdmiljkaaGreatDoorSb
import Derived.Test.YtijndpjdmiljkaaGreatDoorINew
namespace Go.Proofs.YtijndpjdmiljkaaGreatDoor
open Go.RowKit Go.Maps
set_option linter.unusedVariables false

def Lm.first (x : Lm) (l u : Bool) : Int := if l then x.l else if u then x.u else x.r
theorem first_c (x : Lm) (l u : Bool) (w : World) : Calls Tryz.prog 106 #[.agg x.v.toArray, .bool l, .bool u] w fun e w' => e = .returned (.int .i64 (x.first l u)) ∧ Below w.heap.size w w' := by
  obtain ⟨W, hW⟩ : ∃ W, w.alloc (.cells x.v.toArray 23) = W := ⟨_, rfl⟩
  have hb : Hid (Below w.heap.size w W) := hW ▸ bel1 w _
  have hc : W.heap[w.heap.size]? = some (.cells x.v.toArray 23 (0, 0)) := hW ▸ heap_alloc_new w _
  obtain ⟨a0, a1, a2, a3, a4, a5⟩ := lim_cells hc
  clear hc
  cases l <;> cases u
  all_goals
    go_enter Tryz.func106, Tryz.ntmps106
    go_wp2
    go_ret
    exact ⟨rfl, hb.out⟩
theorem rnew_c (w : World) : Calls Tryz.prog 190 #[] w fun e w' => (∃ b, e = .returned (.pointer (some ⟨b, 0, none⟩))) ∧ Below w.heap.size w w' := by
  have hb : Hid _ := bel1 w (.cells #[.bool true, .slice none 0 0] 295)
  go_enter Tryz.func190, Tryz.ntmps190
  go_wp2
  go_ret
  exact ⟨⟨_, rfl⟩, hb.out⟩
theorem marks_c (w : World) : Calls Tryz.prog 165 #[] w fun e w' => (∃ b, e = .returned (.pointer (some ⟨b, 0, none⟩))) ∧ Below w.heap.size w w' := by
  have hm : ∀ W : World, (Instr.makeMap 277 none).run Tryz.prog W = .ok (.map (some W.heap.size)) (W.alloc (.map #[] 0)) := fun W => by kernel_rfl
  have hb : Hid _ := bel1 w (.map #[] 0)
  go_enter Tryz.func165, Tryz.ntmps165
  go_wp2_with fail
  generalize w.alloc (.map #[] 0) = X at *
  refine (rnew_c X).mono ?_
  rintro e X1 ⟨⟨b, rfl⟩, hb1⟩
  have hb2 : Hid (Below w.heap.size w (X1.alloc (.cells #[.map (some w.heap.size), .pointer (some ⟨b, 0, none⟩)] 279))) := bel_trans (bel_trans hb.out hb1) (bel1 _ _)
  clear hb1
  go_wp2
  go_ret
  exact ⟨⟨_, rfl⟩, hb2.out⟩
theorem onew_c (w : World) : Calls Tryz.prog 105 #[.int .i64 65536] w fun e w' => (∃ b, e = .returned (.tuple #[.pointer (some ⟨b, 0, none⟩), .int .i64 0])) ∧ Below w.heap.size w w' := by
  go_enter Tryz.func105, Tryz.ntmps105
  go_wp2_with fail
  refine (marks_c w).mono ?_
  rintro e X1 ⟨⟨b1, rfl⟩, hb1⟩
  have HB1 : Hid _ := hb1
  clear hb1
  go_wp2_with fail
  refine (marks_c X1).mono ?_
  rintro e X2 ⟨⟨b2, rfl⟩, hb2⟩
  have HB2 : Hid (∀ o, Below w.heap.size w (X2.alloc o)) := fun o => bel_trans (bel_trans HB1.out hb2) (bel1 _ _)
  clear hb2 HB1
  go_wp2
  go_ret2
  exact ⟨⟨_, rfl⟩, HB2.out _⟩
/-- A stream's cells, as it begins. -/
def scs (id : Int) (vo vg : Value) (wr : Bool) (vi : Value) (win lim : Int) : List Value := [.int .i64 id, .bool false, .bool false, .bool false, .int .i64 0, vo, vg, .bool false, .bool false, .bool false, .bool wr, vi, .int .i64 win, .int .i64 lim, .int .i64 0, .bool false, .bool false]
/-- The table's limits. -/
theorem Tb.own {srv : Bool} {x y : Lm} {k : Bks} {st : Tst} {w : World} (h : Tb srv x y k st w) : w.rangeAt k.T 1 x.v := by
  intro j v hv
  have h' : w.heap[k.T]? = _ := h.tab
  unfold World.cell?
  simp only [h']
  rcases j with _ | _ | _ | _ | _ | _ | j <;> simp [Lm.v] at hv <;> subst hv <;> simp [tcs]
theorem Tb.peer {srv : Bool} {x y : Lm} {k : Bks} {st : Tst} {w : World} (h : Tb srv x y k st w) : w.rangeAt k.T 7 y.v := by
  intro j v hv
  have h' : w.heap[k.T]? = _ := h.tab
  unfold World.cell?
  simp only [h']
  rcases j with _ | _ | _ | _ | _ | _ | j <;> simp [Lm.v] at hv <;> subst hv <;> simp [tcs]

end Go.Proofs.YtijndpjdmiljkaaGreatDoor
