/- What caravellaw02.spoilt answers where the two are alike: a contract; nothing but the first one's bytes turns. -/
import Derived.Test.YtlllejgpmdeeiaaDoorRd
import Derived.Deep.LoopGhost
namespace Go.Proofs.YtlllejgpmdeeiaaDoor
open Go.ChangeShapes Go.WideShapes Go.ChangeAt Go.RowKit
set_option linter.unusedVariables false

/-- the world behind k rounds -/
structure SpR (w wr : World) (g o k : Nat) (cur0 : Array Value) : Prop where
  only : Only g w wr
  row : ∃ cur, wr.heap[g]? = some (.cells cur 5 (0, 0)) ∧ cur.size = cur0.size ∧ ∀ j, (j < o ∨ o + k ≤ j) → cur[j]? = cur0[j]?
theorem SpR.cell {w wr : World} {g o k : Nat} {cur0 : Array Value} (h : SpR w wr g o k cur0) {v : Value} (hv : cur0[o + k]? = some v) : wr.cell? ⟨g, o + k, none⟩ = some v := by
  obtain ⟨cur, hb, _, hc⟩ := h.row
  unfold World.cell?
  rw [hb]
  simpa using (hc (o + k) (.inr (Nat.le_refl _))).trans hv
theorem SpR.frozen {w wr : World} {g o k j : Nat} {cur0 : Array Value} (h : SpR w wr g o k cur0) : wr.frozen? ⟨g, j, none⟩ = false := by
  obtain ⟨cur, hb, _, hc⟩ := h.row
  unfold World.frozen?
  rw [hb]
  simp
theorem SpR.set {w wr : World} {g o k : Nat} {cur0 : Array Value} (h : SpR w wr g o k cur0) (x : Value) : SpR w (wr.setCell ⟨g, o + k, none⟩ x) g o (k + 1) cur0 := by
  obtain ⟨cur, hb, hs, hc⟩ := h.row
  refine ⟨h.only.setCell rfl _, _, heap_setCell_same wr g (o + k) cur 5 x hb, by simp [hs], fun j hj => ?_⟩
  rw [Array.getElem?_setIfInBounds, if_neg (by omega)]
  exact hc j (by omega)

set_option maxRecDepth 10000 in
theorem spoilt_any (g o cp : Nat) (X : List UInt8) (cur0 : Array Value) (wo : Option Addr) (wc : Nat) (w : World) (hb : w.heap[g]? = some (.cells cur0 5 (0, 0))) (hx : Sl w (some ⟨g, o, none⟩) X) (hw : Sl w wo X) (hwn : wo = none → X.length = 0 ∧ wc = 0) (hl : X.length ≤ 140737488355328) :
    Calls Tryd.prog 11 #[.slice (some ⟨g, o, none⟩) X.length cp, .slice wo X.length wc] w fun e w' => e = .returned (.bool true) ∧ SpR w w' g o X.length cur0 := by
  have cx := str_any (cap := cp) hx rfl (fun h => by cases h)
  have cy := str_any (cap := wc) hw rfl hwn
  have hc0 : ∀ j (h : j < X.length), cur0[o + j]? = some (.int .u8 X[j].toNat) := by
    intro j h
    obtain ⟨b', off', he, hc⟩ := hx j h
    simp only [Option.some.injEq, Addr.mk.injEq] at he
    obtain ⟨rfl, rfl, _⟩ := he
    unfold World.cell? at hc
    rw [hb] at hc
    simpa using hc
  have H0 : Hid (SpR w w g o 0 cur0) := ⟨Only.refl _ _, cur0, hb, rfl, fun _ _ => rfl⟩
  have HC := mkHid hc0
  clear hx hw hwn hb hc0
  go_enter Tryd.func11, Tryd.ntmps11
  go_wp2
  go_loopg [5] (X.length + 1) (fun n i wr => ∃ k, k ≤ X.length ∧ n = X.length + 1 - k ∧ i = .int .i64 (k : Nat) ∧ Hid (SpR w wr g o k cur0))
  case atStart => exact ⟨0, by omega, by omega, rfl, H0⟩
  case round =>
    obtain ⟨k, hk, hn, rfl, HR⟩ := hrel
    clear H0 cx cy
    by_cases hlt : k < X.length
    · have hcell := HR.out.cell (HC.out k hlt)
      have hfr := HR.out.frozen (j := o + k)
      obtain ⟨z, hz⟩ : ∃ z : Nat, X[k].toNat = z := ⟨_, rfl⟩
      have hz8 : z < 256 := by rw [← hz]; exact X[k].toNat_lt
      rw [hz] at hcell
      clear hz
      go_wp2
      go_roundg (X.length + 1 - (k + 1))
      case measure => omega
      case rel => exact ⟨k + 1, by omega, rfl, by go_num, HR.out.set _⟩
    · obtain rfl : k = X.length := by omega
      go_wp2
      go_ret
      exact ⟨rfl, HR.out⟩
end Go.Proofs.YtlllejgpmdeeiaaDoor
