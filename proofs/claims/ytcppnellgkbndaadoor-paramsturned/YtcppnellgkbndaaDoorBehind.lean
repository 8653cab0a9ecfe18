/- What caravellaw01.behind answers where the two answers lie behind the bytes as they must. -/
import Derived.Test.YtcppnellgkbndaaDoorPutAny
namespace Go.Proofs.YtcppnellgkbndaaDoor
open Go.ChangeShapes Go.WideShapes Go.ChangeAt Go.RowKit
set_option linter.unusedVariables false

/-- the world behind some rounds of the loop that turns x's bytes -/
structure Turned (w wr : World) (B gx gy m cx : Nat) (k : Nat) (X : List UInt8) : Prop where
  below : Below B w wr
  other : ∀ b, b ≠ gx → wr.heap[b]? = w.heap[b]?
  row : ∃ cur, wr.heap[gx]? = some (.cells cur 5 (0, 0)) ∧ cur.size = cx ∧ ∀ j (h : j < X.length), k ≤ j → cur[j]? = some (.int .u8 X[j].toNat)

theorem Turned.cell {w wr : World} {B gx gy m cx k : Nat} {X : List UInt8} (h : Turned w wr B gx gy m cx k X) (hk : k < X.length) : wr.cell? ⟨gx, k, none⟩ = some (.int .u8 X[k].toNat) := by
  obtain ⟨cur, hb, _, hc⟩ := h.row
  unfold World.cell?
  rw [hb]
  simpa using hc k hk (Nat.le_refl _)
theorem Turned.frozen {w wr : World} {B gx gy m cx k : Nat} {X : List UInt8} (h : Turned w wr B gx gy m cx k X) : wr.frozen? ⟨gx, k, none⟩ = false := by
  obtain ⟨cur, hb, _, hc⟩ := h.row
  unfold World.frozen?
  rw [hb]
  simp
theorem Turned.set {w wr : World} {B gx gy m cx k : Nat} {X : List UInt8} (h : Turned w wr B gx gy m cx k X) (hB : B ≤ gx) (x : Value) : Turned w (wr.setCell ⟨gx, k, none⟩ x) B gx gy m cx (k + 1) X := by
  obtain ⟨cur, hb, hs, hc⟩ := h.row
  refine ⟨h.below.setCell hB _, fun b hne => ?_, _, heap_setCell_same wr gx k cur 5 x hb, by simp [hs], fun j hj hk => ?_⟩
  · rw [Below.heap_setCell _ _ _ _ hne]; exact h.other b hne
  · rw [Array.getElem?_setIfInBounds, if_neg (by omega)]
    exact hc j hj (by omega)

theorem Res_ok {B : Nat} {w : World} {v : Value} {X : List UInt8} (h : Res B w v 0 X) : ∃ g cp cur, v = .slice (some ⟨g, 0, none⟩) X.length cp ∧ B ≤ g ∧ w.heap[g]? = some (.cells cur 5 (0, 0)) ∧ X.length ≤ cp ∧ cur.size = cp ∧ cur.toList.take X.length = bc X := by
  rcases h with ⟨_, h0, ho⟩ | ⟨h, _⟩
  · obtain ⟨g, cap, cur, he, h1, h2, h3, _, h5, h6⟩ := own_shape ho h0
    exact ⟨g, cap, cur, he, h1, h2, h3, h5, h6⟩
  · exact absurd rfl h
theorem Res_err {B : Nat} {w : World} {v : Value} {E : Int} {X : List UInt8} (hE : E ≠ 0) (h : Res B w v E X) : v = .slice none 0 0 := by
  rcases h with ⟨h, _⟩ | ⟨_, h⟩
  · exact absurd h hE
  · exact h
theorem Res_below {B C : Nat} {w w' : World} {v : Value} {E : Int} {X : List UInt8} (h : Res B w v E X) (hb : Below w.heap.size w w') : Res B w' v E X := by
  rcases h with ⟨h0, h1, h2⟩ | h
  · refine .inl ⟨h0, h1, ?_⟩
    obtain ⟨hl, hc | ⟨g, cap, cur, he, k1, k2, k3⟩⟩ := h2
    · exact ⟨hl, .inl hc⟩
    · exact ⟨hl, .inr ⟨g, cap, cur, he, k1, (hb.block g (lt_block k2)).trans k2, k3⟩⟩
  · exact .inr h

end Go.Proofs.YtcppnellgkbndaaDoor
