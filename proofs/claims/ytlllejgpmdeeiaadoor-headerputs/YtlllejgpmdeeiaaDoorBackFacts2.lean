/- What the walks of caravellaw02.HeaderBack need of the bytes of Retry and Versions: plain facts. -/
import Derived.Test.YtlllejgpmdeeiaaDoorBackFacts
namespace Go.Proofs.YtlllejgpmdeeiaaDoor
open Go.ChangeShapes Go.WideShapes Go.ChangeAt Go.RowKit
set_option linter.unusedVariables false

/-- what is read again of a header without a number -/
structure Bm (l : List UInt8) (k : Int) (D S T tag : List UInt8) (lst : List Int) : Prop where
  read : ∃ p, parse l 0 = some p ∧ p.k = k ∧ p.at' = l.length ∧ piece l p.d = D ∧ piece l p.s = S ∧ (k = 3 → piece l p.t = T ∧ p.tag = tag) ∧ (k = 4 → p.lst.length = lst.length ∧ p.lst ≠ []) ∧ p.tag.length = 16
  small : l.length ≤ 70368744177664
  some' : 0 < l.length
theorem bm_3 (D S T tag : List UInt8) (lst : List Int) (hd : D.length ≤ 20) (hs : S.length ≤ 20) (ht0 : 0 < T.length) (ht : T.length ≤ 512) (htag : tag.length = 16) (l : List UInt8) (hl : l = longB (UInt8.ofNat (240 : Int).toNat) 1 D S ++ T ++ tag) : Bm l 3 D S T tag lst := by
  rw [List.append_assoc] at hl
  obtain ⟨p1, p2, p3, p4⟩ := back_3 D S T tag hd hs ht0 ht htag l hl
  have hlen : l.length = 7 + D.length + S.length + (T.length + 16) := by rw [hl, List.length_append, List.length_append, longB_length, htag]
  exact ⟨⟨_, p1, rfl, rfl, p2, p3, fun _ => ⟨p4, rfl⟩, fun h => by omega, htag⟩, by omega, by omega⟩
theorem bm_4 (D S T tag : List UInt8) (lst : List Int) (hd : D.length ≤ 20) (hs : S.length ≤ 20) (h0 : 0 < lst.length) (hl4 : lst.length ≤ 17592186043904) (l : List UInt8) (hl : l = longB (UInt8.ofNat (192 : Int).toNat) 0 D S ++ vB lst) : Bm l 4 D S T tag lst := by
  obtain ⟨vs, p1, p2, p3, p4⟩ := back_4 D S lst hd hs h0 l hl
  have hlen : l.length = 7 + D.length + S.length + 4 * lst.length := by rw [hl, List.length_append, longB_length, vB_length]
  exact ⟨⟨_, p1, rfl, rfl, p3, p4, fun h => by omega, fun _ => ⟨p2, fun h => by have h2 : vs = [] := h; rw [h2] at p2; simp at p2; omega⟩, rfl⟩, by omega, by omega⟩

/-- the header that was put and the one that was read, side by side -/
structure Back7 (W w : World) (H G : Nat) (k : Int) (d s t lv : Value) (d' s' t' lv' : Value) (D S T : List UInt8) : Prop where
  h : W.cell? ⟨H, 0, none⟩ = some (.int .i64 k) ∧ W.cell? ⟨H, 2, none⟩ = some d ∧ W.cell? ⟨H, 3, none⟩ = some s ∧ W.cell? ⟨H, 4, none⟩ = some t ∧ W.cell? ⟨H, 7, none⟩ = some lv
  g : W.cell? ⟨G, 0, none⟩ = some (.int .i64 k) ∧ W.cell? ⟨G, 2, none⟩ = some d' ∧ W.cell? ⟨G, 3, none⟩ = some s' ∧ W.cell? ⟨G, 4, none⟩ = some t' ∧ W.cell? ⟨G, 7, none⟩ = some lv'
  sd' : (convert 22 9 d').run Tryd.prog W = .ok (.string ⟨D.toArray⟩) W
  ss' : (convert 22 9 s').run Tryd.prog W = .ok (.string ⟨S.toArray⟩) W
  sd : (convert 22 9 d).run Tryd.prog W = .ok (.string ⟨D.toArray⟩) W
  ss : (convert 22 9 s).run Tryd.prog W = .ok (.string ⟨S.toArray⟩) W
  st : (convert 22 9 t).run Tryd.prog W = .ok (.string ⟨T.toArray⟩) W
  st' : k = 3 → (convert 22 9 t').run Tryd.prog W = .ok (.string ⟨T.toArray⟩) W
  below : Below w.heap.size w W
theorem row_five {W : World} {g : Nat} {cs : Array Value} {k ver : Int} {d s t : Value} {len : Int} {ph : Bool} {lv : Value} {tg : List Value} (h : W.heap[g]? = some (.cells cs 26 (0, 0))) (hcs : cs = (hc k ver d s t len ph lv tg).toArray) :
    W.cell? ⟨g, 0, none⟩ = some (.int .i64 k) ∧ W.cell? ⟨g, 2, none⟩ = some d ∧ W.cell? ⟨g, 3, none⟩ = some s ∧ W.cell? ⟨g, 4, none⟩ = some t ∧ W.cell? ⟨g, 7, none⟩ = some lv := by
  obtain ⟨a, b, c, d, e, f, g⟩ := row_all h hcs
  exact ⟨a, b, c, d, g⟩
theorem Lv.shape {B : Nat} {w : World} {v : Value} {lst : List Int} (h : Lv B w v lst) (hn : lst ≠ []) : ∃ oa c, v = .slice oa lst.length c := by
  rcases h with ⟨h, _⟩ | ⟨_, _, ⟨rfl, h⟩ | ⟨g, cap, cur, rfl, _⟩⟩
  · exact absurd h hn
  · rw [h]; exact ⟨_, _, rfl⟩
  · exact ⟨_, _, rfl⟩
theorem Lv.any {B : Nat} {w : World} {v : Value} {lst : List Int} (h : Lv B w v lst) : ∃ oa n c, v = .slice oa n c := by
  rcases h with ⟨_, rfl⟩ | ⟨_, _, ⟨rfl, h⟩ | ⟨g, cap, cur, rfl, _⟩⟩ <;> exact ⟨_, _, _, rfl⟩
end Go.Proofs.YtlllejgpmdeeiaaDoor
