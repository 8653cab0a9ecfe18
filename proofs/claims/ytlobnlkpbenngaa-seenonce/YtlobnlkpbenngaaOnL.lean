/- SeenOnce: spans from behind, as a list. -/
import Derived.Test.YtlobnlkpbenngaaOnF
namespace Go.Proofs.YtlobnlkpbenngaaR
open Go.RowKit Go.Shelf Go.Lib
set_option linter.unusedVariables false

theorem rev_gap {L : List (Int × Int)} (h : Ok L) (k : Nat) (hk : k + 1 < L.reverse.length) : (L.reverse[k + 1]).2 + 2 ≤ (L.reverse[k]).1 := by
  simp only [List.length_reverse] at hk
  have := List.pairwise_iff_getElem.1 h.1 (L.length - 1 - (k + 1)) (L.length - 1 - k) (by omega) (by omega) (by omega)
  simpa [List.getElem_reverse] using this
theorem rev_ok {L : List (Int × Int)} (h : Ok L) (k : Nat) (hk : k < L.reverse.length) : 0 ≤ (L.reverse[k]).1 ∧ (L.reverse[k]).1 ≤ (L.reverse[k]).2 ∧ (L.reverse[k]).2 ≤ 4611686018427387903 :=
  h.2 _ (List.mem_reverse.1 (List.getElem_mem hk))
theorem total_nonneg {D : List (Int × Int)} (h : ∀ p ∈ D, p.1 ≤ p.2) : 0 ≤ total D := by
  induction D with
  | nil => simp [total]
  | cons p t ih =>
    have := ih (fun q hq => h q (List.mem_cons_of_mem _ hq))
    have := h p List.mem_cons_self
    simp only [total]
    omega
theorem total_take {D : List (Int × Int)} (k : Nat) (hk : k < D.length) : total (D.take (k + 1)) = total (D.take k) + (D[k].2 - D[k].1 + 1) := by
  rw [List.take_succ_eq_append_getElem hk, total_append]
  simp [total]
theorem total_take_le {D : List (Int × Int)} (h : ∀ p ∈ D, p.1 ≤ p.2) (k : Nat) : 0 ≤ total (D.take k) ∧ total (D.take k) ≤ total D := by
  have e : total D = total (D.take k) + total (D.drop k) := by rw [← total_append, List.take_append_drop]
  have h1 := total_nonneg (D := D.take k) (fun p hp => h p (List.mem_of_mem_take hp))
  have h2 := total_nonneg (D := D.drop k) (fun p hp => h p (List.mem_of_mem_drop hp))
  omega
theorem In_take_succ {D : List (Int × Int)} (x : Int) (k : Nat) (hk : k < D.length) : In x (D.take (k + 1)) ↔ In x (D.take k) ∨ (D[k].1 ≤ x ∧ x ≤ D[k].2) := by
  rw [List.take_succ_eq_append_getElem hk, In_append, In_cons]
  simp [In_nil]
/-- What Take of the end leaves of the told spans. -/
theorem Rs.tk {s M : Nat} {v : Svs} {W W' : World} {o : Option Addr} {c : Nat} {L : List (Int × Int)} (h : Rs W o c L) (hs : Sc W s M v) (hc : Chg (fun k => k = s) W W') : Rs W' o c L := by
  refine h.chg (X := fun _ => False) (fun g hg => ?_)
  obtain ⟨Y, hY⟩ := h.row g hg
  refine hc.2.2.2.2 g (Array.getElem?_eq_some_iff.1 hY).1 ?_
  rintro rfl
  have h' : W.heap[g]? = _ := hs
  rw [h'] at hY
  simp at hY
theorem Ir.tk {n₀ s M : Nat} {v : Svs} {W W' : World} {o : Option Addr} {c : Nat} {C : List Int} (h : Ir n₀ W o c C) (hs : Sc W s M v) (hc : Chg (fun k => k = s) W W') : Ir n₀ W' o c C :=
  h.ks ⟨hc.1, hc.2.1, hc.2.2.1, hc.2.2.2.1, fun k hk hks _ => hc.2.2.2.2 k hk hks⟩ hs
theorem Fs.sc {w : World} {s M : Nat} {fe : Int} {L : List (Int × Int)} {wr : World} (h : Fs w s M fe L wr) : ∃ v, Sc wr s M v := by
  obtain ⟨G, c, v, a, h1, _⟩ := h
  exact ⟨v, h1⟩
/-- A span of the told ones. -/
theorem Rs.cells {W : World} {o : Option Addr} {c : Nat} {D : List (Int × Int)} (h : Rs W o c D) (k : Nat) (hk : k < D.length) : ∃ g, o = some ⟨g, 0, none⟩ ∧ W.cell? ⟨g, k * 2, none⟩ = some (.int .i64 D[k].1) ∧ W.cell? ⟨g, k * 2 + 1, none⟩ = some (.int .i64 D[k].2) := by
  rcases h with ⟨_, rfl, _⟩ | ⟨g, R, h1, h2, h3⟩
  · simp at hk
  · exact ⟨g, h1, cells_at h2 k hk⟩
end Go.Proofs.YtlobnlkpbenngaaR
