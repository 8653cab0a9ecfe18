/- VaultAgrees: the law's vault and its boxes. -/
import Derived.Test.YtpjoaimbaboleaaHd
import Derived.Test.YtpjoaimbaboleaaNobW
namespace Go.Proofs.Ytpjoaimbaboleaa
open Go.RowKit Go.Shelf Go.Lib
set_option linter.unusedVariables false

/-- The law's vault. -/
structure Ag (W0 w : World) (V : Nat) (L : List Tm) : Prop where
  bel : Below W0.heap.size W0 w
  va : ∃ G c M, Va W0.heap.size w V G c M L
/-- Boxes of handles stay. -/
def Bx (w w' : World) : Prop := ∀ (k : Nat) cs, w.heap[k]? = some (.cells cs 29 (0, 0)) → w'.heap[k]? = some (.cells cs 29 (0, 0))
theorem Bx.of_bel {w w' : World} (h : Below w.heap.size w w') : Bx w w' := fun k cs hk => heap_bel hk h
theorem Bx.of_vc {n₀ V G c M : Nat} {w w' : World} {L : List Tm} (h : Vc V G M w w') (hv : Va n₀ w V G c M L) : Bx w w' := by
  intro k cs hk
  obtain ⟨R, r1, _⟩ := hv.hG
  obtain ⟨es, ck, m1, _⟩ := hv.hM
  refine (h.2.2.2.2 k (Array.getElem?_eq_some_iff.1 hk).1 ?_).trans hk
  rintro (rfl | rfl | rfl)
  · have := cells_ty hv.hV hk; omega
  · have := cells_ty r1 hk; omega
  · rw [m1] at hk; cases hk
section
variable {W0 w w' : World} {V : Nat} {L : List Tm}
theorem Ag.go (h : Ag W0 w V L) (hb : Below w.heap.size w w') : Ag W0 w' V L := by
  obtain ⟨G, c, M, hv⟩ := h.va
  exact ⟨h.bel.trans (hb.mono h.bel.size), G, c, M, hv.bel hb⟩
theorem Ag.set (h : Ag W0 w V L) {B : Nat} {cs : Array Value} (hB : w.heap[B]? = some (.cells cs 29 (0, 0))) (hge : W0.heap.size ≤ B) (ds : Array Value) : Ag W0 (w.setRow B ds) V L := by
  obtain ⟨G, c, M, hv⟩ := h.va
  exact ⟨bel_set h.bel hge _, G, c, M, hv.setBox hB ds⟩
theorem Ag.new (h : Ag W0 w V L) (hle : L.length ≤ 1000000) : Calls Try.prog 10 #[.pointer (some ⟨V, 0, none⟩)] w fun e w' => e = .returned (hv (nameL L.length)) ∧ Ag W0 w' V (L ++ [fr]) ∧ Bx w w' := by
  obtain ⟨G, c, M, hv⟩ := h.va
  refine (fresh_c hv hle).mono ?_
  rintro e w' ⟨rfl, G', c', h1, h2, h3⟩
  exact ⟨rfl, ⟨h.bel.trans (h2.bel hv), G', c', M, h1⟩, Bx.of_vc h2 hv⟩
/-- A term that is new, made. -/
theorem Ag.made_new (h : Ag W0 w V L) {t : Tm} (hn : t ∉ L) {i : Nat} {G c M : Nat} (hv : Va W0.heap.size w V G c M L) (hm : Made W0.heap.size w w' V G M L t i) : i = L.length ∧ Ag W0 w' V (L ++ [t]) ∧ Bx w w' := by
  obtain ⟨G', c', L', a1, a2, a3, a4, a5⟩ := hm
  rcases a5 with rfl | ⟨rfl, hi, _⟩
  · exact absurd (List.mem_of_getElem? a4) hn
  · exact ⟨hi, ⟨h.bel.trans (a2.bel hv), G', c', M, a1⟩, Bx.of_vc a2 hv⟩
theorem Ag.made_old (h : Ag W0 w V L) {t : Tm} (hn : t ∈ L) {i : Nat} {G c M : Nat} (hv : Va W0.heap.size w V G c M L) (hm : Made W0.heap.size w w' V G M L t i) : L[i]? = some t ∧ Ag W0 w' V L ∧ Bx w w' := by
  obtain ⟨G', c', L', a1, a2, a3, a4, a5⟩ := hm
  rcases a5 with rfl | ⟨rfl, hi, hx⟩
  · exact ⟨a4, ⟨h.bel.trans (a2.bel hv), G', c', M, a1⟩, Bx.of_vc a2 hv⟩
  · exact absurd hn hx
end
end Go.Proofs.Ytpjoaimbaboleaa
