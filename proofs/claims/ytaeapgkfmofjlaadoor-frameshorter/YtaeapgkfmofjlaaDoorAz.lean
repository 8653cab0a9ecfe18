/- What the putter's padding and acks answer, of any frame. -/
import Derived.Test.YtaeapgkfmofjlaaDoorAc
namespace Go.Proofs.YtaeapgkfmofjlaaDoor
open Go.ChangeShapes Go.WideShapes Go.ChangeAt Go.RowKit
set_option linter.unusedVariables false
set_option maxRecDepth 10000

def padB (n : Int) : List UInt8 := if n ≤ 1048576 then List.replicate (n.toNat - 1) 0 else []
def ackB (A : List (Int × Int)) (del : Int) : List UInt8 := if spB A = true then encs (ackL A del) else []
def ackX (A : List (Int × Int)) (del : Int) : Bool := if spB A = true then bads (ackL A del) else true
theorem ackB_le (A : List (Int × Int)) (del : Int) : (ackB A del).length ≤ 4120 := by
  unfold ackB
  by_cases h : spB A = true
  · rw [if_pos h]
    have hs := h
    simp only [spB, Bool.and_eq_true, decide_eq_true_eq] at hs
    have h1 := encs_le (ackL A del)
    have h2 := pers_le A A.length
    have h3 : (ackL A del).length = 3 + (pers A A.length).length := by simp [ackL]; omega
    omega
  · rw [if_neg h]
    simp
theorem Fr.cnt41 {f : Fr} (hr : f.rs.length = 16) (hp : f.pt.length = 8) : f.cells[41]? = some (.int .i64 f.cnt) := by
  unfold Fr.cells
  rw [List.getElem?_append_right (by simp)]
  rw [List.getElem?_append_right (by simp [hr])]
  rw [List.getElem?_append_right (by simp [hr, hp])]
  simp [hr, hp]
section
variable {w w' : World} {p B F : Nat} {X : List UInt8} {r : Bool} {f : Fr} {d : Da}
theorem Fd.r16' (h : Fd w p B f d) : f.rs.length = 16 := by rw [h.vR, bc_length, h.r16]
theorem Fd.p8' (h : Fd w p B f d) : f.pt.length = 8 := by rw [h.vT, bc_length, h.t8]
theorem WD.acks (h : WD w p B F X r f d) (hX : X.length ≤ 4000) : Calls Tryd.prog 88 #[.pointer (some ⟨p, 0, none⟩), .pointer (some ⟨F, 0, none⟩)] w fun e w' => e = .returned (.tuple #[]) ∧ Hid (WD w' p B F (X ++ ackB d.A f.del) (r || ackX d.A f.del) f d) ∧ Hid (Gr p B w w') := by
  unfold ackB ackX
  by_cases hs : spB d.A = true
  · rw [if_pos hs, if_pos hs]
    exact packs_yes p B F X r f d w h hX hs
  · rw [if_neg hs, if_neg hs, List.append_nil, Bool.or_true]
    exact packs_no p B F X r f d w h (by simpa using hs)
theorem WD.padding (h : WD w p B F X r f d) (hX : X.length ≤ 4000000) (hX0 : 0 < X.length) (hc : 1 ≤ f.cnt) : Calls Tryd.prog 92 #[.pointer (some ⟨p, 0, none⟩), .pointer (some ⟨F, 41, none⟩)] w fun e w' => e = .returned (.tuple #[]) ∧ Hid (WD w' p B F (X ++ padB f.cnt) (r || decide (1048576 < f.cnt)) f d) ∧ Hid (Gr p B w w') := by
  obtain ⟨v, hv⟩ := h.s.pu
  have c41 := h.s.fm.at 41 _ (Fr.cnt41 h.f.r16' h.f.p8')
  unfold padB
  by_cases hn : 1048576 < f.cnt
  · rw [if_neg (by omega), decide_eq_true hn, List.append_nil, Bool.or_true]
    exact (ppadding_no p B v X r _ f.cnt w hv c41 hn).mono (by rintro e w' ⟨rfl, hp, hg⟩; exact ⟨rfl, h.on hg (h.s.on hg hp), hg⟩)
  · rw [if_pos (by omega), decide_eq_false hn, Bool.or_false]
    obtain ⟨m, hm⟩ : ∃ m : Nat, f.cnt = (m : Int) + 1 := ⟨(f.cnt - 1).toNat, by omega⟩
    rw [hm] at c41 ⊢
    rw [show ((m : Int) + 1).toNat - 1 = m by omega]
    exact (ppadding_yes p B v X r _ m w hv h.s.bs hX0 (by omega) c41 (by omega)).mono (by rintro e w' ⟨rfl, hp, hg⟩; exact ⟨rfl, h.on hg (h.s.on hg hp), hg⟩)
end
end Go.Proofs.YtaeapgkfmofjlaaDoor
