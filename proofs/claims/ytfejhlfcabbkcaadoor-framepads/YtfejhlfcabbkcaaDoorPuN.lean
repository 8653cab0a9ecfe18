/- What the putter's numbers answers: a contract. -/
import Derived.Test.YtfejhlfcabbkcaaDoorPu
import Derived.Deep.LoopGhost
namespace Go.Proofs.YtfejhlfcabbkcaaDoor
open Go.ChangeShapes Go.WideShapes Go.ChangeAt Go.RowKit
set_option linter.unusedVariables false

def encs (l : List Int) : List UInt8 := l.flatMap encv
def bads (l : List Int) : Bool := l.any badv
theorem encs_snoc (l : List Int) (x : Int) : encs (l ++ [x]) = encs l ++ encv x := by simp [encs]
theorem bads_snoc (l : List Int) (x : Int) : bads (l ++ [x]) = (bads l || badv x) := by simp [bads]
theorem encv_le (x : Int) : (encv x).length ≤ 8 := by
  unfold encv
  by_cases h : vaE x = 0
  · rw [if_pos h]; unfold enc; rw [be_length]; exact szN_le x
  · rw [if_neg h]; simp
theorem encs_le : ∀ l : List Int, (encs l).length ≤ 8 * l.length
  | [] => by simp [encs]
  | x :: r => by
    have h1 := encs_le r
    have h2 := encv_le x
    simp only [encs, List.flatMap_cons, List.length_append, List.length_cons] at h1 ⊢
    omega
/-- a number that a pointer points to, in memory that no putter turns -/
structure Pt (w : World) (p : Nat) (x : Addr × Int) : Prop where
  ne : x.1.block ≠ p
  cell : w.cell? x.1 = some (.int .i64 x.2)
  kind : ∀ cs fr, w.heap[x.1.block]? ≠ some (.cells cs 5 fr)
theorem Pt.on {p B : Nat} {w w' : World} {x : Addr × Int} (h : Pt w p x) (g : Gr p B w w') : Pt w' p x := by
  have e := g.block x.1.block (World.block_lt_of_cell? w _ h.cell) h.ne (.inr h.kind)
  exact ⟨h.ne, (World.cell?_of_block (a := x.1) e).trans h.cell, fun cs fr => by rw [e]; exact h.kind cs fr⟩
def ptrs (vs : List (Addr × Int)) : Array Value := (vs.map fun x => Value.pointer (some x.1)).toArray
structure PR (w wr : World) (p B : Nat) (X : List UInt8) (r : Bool) (vs : List (Addr × Int)) (k : Nat) : Prop where
  pu : ∃ v, Pu wr p B v (X ++ encs ((vs.take k).map (·.2))) (r || bads ((vs.take k).map (·.2)))
  gr : Gr p B w wr

set_option maxRecDepth 10000 in
theorem pnumbers (p B s : Nat) (v : Value) (X : List UInt8) (r : Bool) (vs : List (Addr × Int)) (w : World) (ht : Tb w) (h : Pu w p B v X r) (hB2 : 1 < B) (hB : B ≤ w.heap.size) (hp2 : 1 ≠ p)
    (hs : w.heap[s]? = some (.cells (ptrs vs) 50 (0, 0))) (hsp : s ≠ p) (hv : ∀ x ∈ vs, Pt w p x) (hX : X.length ≤ 17592186044416) (hn : vs.length ≤ 3) :
    Calls Tryd.prog 11 #[.pointer (some ⟨p, 0, none⟩), .slice (some ⟨s, 0, none⟩) vs.length vs.length] w fun e w' => e = .returned (.tuple #[]) ∧ (∃ v', Pu w' p B v' (X ++ encs (vs.map (·.2))) (r || bads (vs.map (·.2)))) ∧ Gr p B w w' := by
  have H0 : Hid (PR w w p B X r vs 0) := ⟨⟨v, by simpa [encs, bads] using h⟩, Gr.refl _ _ _⟩
  have HT := mkHid ht
  have HS := mkHid hs
  have HV := mkHid hv
  clear ht h hs hv
  go_enter Tryd.func11, Tryd.ntmps11
  go_wp2
  go_loopg [8] (vs.length + 1) (fun m i wr => ∃ k, k ≤ vs.length ∧ m = vs.length + 1 - k ∧ i = .int .i64 (k : Nat) ∧ Hid (PR w wr p B X r vs k))
  case atStart => exact ⟨0, by omega, by omega, rfl, H0⟩
  case round =>
    obtain ⟨k, hk, hm, rfl, HR⟩ := hrel
    clear H0
    by_cases hlt : k < vs.length
    · obtain ⟨x, hx⟩ : ∃ x, vs[k] = x := ⟨_, rfl⟩
      have hpt := (HV.out x (by rw [← hx]; exact List.getElem_mem hlt)).on HR.out.gr
      have es := HR.out.gr.block s (lt_block HS.out) hsp (.inr (fun cs fr => by rw [HS.out]; intro h; injection h with h; injection h with _ h _; cases h))
      have c1 : wr.cell? ⟨s, k, none⟩ = some (.pointer (some x.1)) := by
        unfold World.cell?
        rw [es, HS.out]
        simp [ptrs, List.getElem?_map, List.getElem?_eq_getElem hlt, hx]
      have c2 := hpt.cell
      obtain ⟨a, n⟩ := x
      obtain ⟨v1, hpu⟩ := HR.out.pu
      have hle := encs_le ((vs.take k).map (·.2))
      simp only [List.length_map, List.length_take] at hle
      have HN := mkHid (pnumber p B v1 _ _ n wr (HR.out.gr.tb HT.out hp2 hB2) hpu (Nat.le_trans hB HR.out.gr.size) (by rw [List.length_append]; omega))
      have HTK : Hid ((vs.take (k + 1)).map (·.2) = (vs.take k).map (·.2) ++ [n]) := by
        show _ = _
        rw [List.take_add_one, List.getElem?_eq_getElem hlt, hx]
        simp
      clear hpu hpt es hx hle
      go_wp2_with fail
      refine HN.out.mono ?_
      rintro e w2 ⟨rfl, ⟨v2, hp2'⟩, hg2⟩
      have HR2 : Hid (PR w w2 p B X r vs (k + 1)) := ⟨⟨v2, by rw [HTK.out, encs_snoc, bads_snoc, ← List.append_assoc, ← Bool.or_assoc]; exact hp2'⟩, HR.out.gr.trans hg2⟩
      clear hp2' hg2 HN
      go_wp2
      go_roundg (vs.length + 1 - (k + 1))
      case measure => omega
      case rel => exact ⟨k + 1, by omega, rfl, by go_num, HR2⟩
    · obtain rfl : k = vs.length := by omega
      go_wp2
      go_end0
      have h1 := HR.out.pu
      rw [List.take_length] at h1
      exact ⟨rfl, h1, HR.out.gr⟩
end Go.Proofs.YtfejhlfcabbkcaaDoor
