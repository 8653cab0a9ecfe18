/- params: the pieces turned about. -/
import Derived.Test.YtcppnellgkbndaaDoorPf
namespace Go.Proofs.YtcppnellgkbndaaDoor
open Go.ChangeShapes Go.WideShapes Go.ChangeAt Go.RowKit
set_option linter.unusedVariables false
set_option maxRecDepth 100000

theorem pcs_small {p : Ps} {s : Bool} (h16 : p.reset.length = 16) (hb : p.bad s = false) : ∀ x ∈ pcs s (tab 0 p), 0 ≤ x.1 ∧ x.1 ≤ 32 ∧ x.2.length ≤ 20 := fun x hx => by
  refine ⟨(pcs_fit h16 hb x hx).1, (pcs_good h16 hb x hx).2, ?_⟩
  obtain ⟨r, hr, rfl⟩ := List.mem_map.1 hx
  obtain ⟨h1, h2⟩ := List.mem_filter.1 hr
  exact tab_bs h16 r h1 (tab_al hb r h1)
theorem turned_read {p : Ps} {s : Bool} (h16 : p.reset.length = 16) (hb : p.bad s = false) : rdL (enP (pcs s (tab 0 p)).reverse) s ((enP (pcs s (tab 0 p)).reverse).length + 1) 0 (fun _ => false) (refq dps) = (0, refq p) := by
  have h := rd_en s (pcs s (tab 0 p)).reverse [] ((enP (pcs s (tab 0 p)).reverse).length + 1) (fun _ => false) (refq dps) (fun x hx => pcs_fit h16 hb x (List.mem_reverse.1 hx)) (Nat.lt_succ_self _)
  rw [List.nil_append] at h
  refine h.trans (pcs_read h16 hb _ (fun x => List.mem_reverse) ?_)
  rw [List.map_reverse]
  exact List.pairwise_reverse.2 ((pcs_nodup p s).imp fun h => h.symm)
theorem enP_len_app (A B : List (Int × List UInt8)) : (enP (A ++ B)).length = (enP A).length + (enP B).length := by rw [enP_app, List.length_append]
theorem enP_rev_len (A : List (Int × List UInt8)) : (enP A.reverse).length = (enP A).length := by
  induction A with
  | nil => rfl
  | cons x t ih => rw [List.reverse_cons, enP_len_app, ih, enP_cons, List.length_append]; simp [enP]; omega
theorem enP_turn (A : List (Int × List UInt8)) (x : Int × List UInt8) : enP (A ++ [x]).reverse = layB x.1 x.2 ++ enP A.reverse := by rw [List.reverse_append]; simp [enP]
theorem lb_nil (w : World) : Lb w none 0 [] := ⟨fun j hj => absurd hj (by simp), Nat.le_refl _, by decide, fun _ => ⟨rfl, rfl⟩⟩
/-- A piece as it lies. -/
theorem piece_at {W : World} {o : Option Addr} {c : Nat} {l1 t l2 : List UInt8} {k m : UInt8} (h : Lb W o c (l1 ++ ((k :: m :: t) ++ l2))) :
    ∃ g off, o = some ⟨g, off, none⟩ ∧ W.cell? ⟨g, off + (l1.length + 1), none⟩ = some (.int .u8 m.toNat) ∧ Lb W (some ⟨g, off + l1.length, none⟩) (c - l1.length) (k :: m :: t) := by
  have hlen : (l1 ++ ((k :: m :: t) ++ l2)).length = l1.length + (t.length + 2 + l2.length) := by simp only [List.length_append, List.length_cons]
  obtain ⟨g, off, rfl, hc⟩ := Sl.rows h.sl (by rw [hlen]; omega)
  refine ⟨g, off, rfl, ?_, ⟨fun j hj => ⟨g, off + l1.length, rfl, ?_⟩, ?_, ?_, fun h => nomatch h⟩⟩
  · have := hc (l1.length + 1) (by rw [hlen]; omega)
    rw [this]
    simp
  · have := hc (l1.length + j) (by rw [hlen]; simp only [List.length_cons] at hj; omega)
    rw [Nat.add_assoc, this, List.getElem_append_right (by omega), List.getElem_append_left (by rw [Nat.add_sub_cancel_left]; exact hj)]
    simp
  · have := h.le
    rw [hlen] at this
    simp only [List.length_cons]
    omega
  · have := h.cm; omega
end Go.Proofs.YtcppnellgkbndaaDoor
