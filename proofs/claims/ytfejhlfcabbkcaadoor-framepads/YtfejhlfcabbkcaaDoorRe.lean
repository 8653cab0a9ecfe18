/- frame's reader: kind, numbers, padding, take, array. -/
import Derived.Test.YtfejhlfcabbkcaaDoorRd
namespace Go.Proofs.YtfejhlfcabbkcaaDoor
open Go.ChangeShapes Go.WideShapes Go.ChangeAt Go.RowKit
set_option linter.unusedVariables false
set_option maxRecDepth 100000

theorem isKind_yes (k : Int) (w : World) (h0 : 0 ≤ k) (h1 : k ≤ 30) : Calls Tryd.prog 7 #[.int .i64 k] w fun e w' => e = .returned (.bool true) ∧ w' = w := by
  go_enter Tryd.func7, Tryd.ntmps7
  go_wp2
  go_ret
  exact ⟨rfl, rfl⟩
section
variable {w w' : World} {p F : Nat} {ao : Option Addr} {c : Nat} {l : List UInt8} {at' : Nat} {f : Fr}
theorem rkind_c (h : Rq w p F ao c l at' f) (k : Nat) (hE : vE l at' = 0) (hV : vV l at' = k) (hN : vN l at' = (at' + 1 : Nat)) (hk : k ≤ 30) (ha : at' < 100000) :
    Calls Tryd.prog 13 #[.pointer (some ⟨p, 0, none⟩)] w fun e w' => e = .returned (.int .i64 k) ∧ Rp w p F ao c l (at' + 1) f w' := by
  have hv := var_any ao l c at' w.drew h.tb h.sl (by have := h.ll; omega)
  rw [hE, hN, hV] at hv
  obtain ⟨c0, c1, c2, fz⟩ := h.cs
  have hd := h.bel (Below.refl _ w).drew
  obtain ⟨r1, r2⟩ := hd.go (at' + 1)
  have HR : Aside (Rp w p F ao c l (at' + 1) f (w.drew.setCell ⟨p, 1, none⟩ (.int .i64 (at' + 1 : Nat)))) := ⟨r1, (Chg.of_below (Below.refl _ w).drew).trans r2⟩
  have d0 : w.drew.cell? ⟨p, 0, none⟩ = some (.slice ao l.length c) := c0
  have d1 : w.drew.cell? ⟨p, 1, none⟩ = some (.int .i64 at') := c1
  have f1 : w.drew.frozen? ⟨p, 1, none⟩ = false := fz 1
  have hsz := size_yes (k : Int) w.drew h.tb (by omega) (by omega)
  rw [show szN (k : Int) = 1 by unfold szN; rw [if_pos (by omega)]] at hsz
  have hik := isKind_yes (k : Int) w.drew (by omega) (by omega)
  obtain ⟨b, hb⟩ : ∃ b, at' + 1 = b := ⟨_, rfl⟩
  rw [hb] at HR hv
  have i1 : IntKind.i64.wrap ((b : Int) - at') = 1 := by rw [show (b : Int) - at' = 1 by omega]; rfl
  rw [hb]
  clear h hd r1 r2 hE hN hV fz hb
  go_enter Tryd.func13, Tryd.ntmps13
  go_wp2_with fail
  go_region_held3 (fun X => X.cell? ⟨p, 0, none⟩ = some (.slice ao l.length c) ∧ X.cell? ⟨p, 1, none⟩ = some (.int .i64 at')) (exact ⟨d0, d1⟩) (first | (go_at_call 19; refine Calls.mono hv ?_; rintro e w4 ⟨rfl, hw4⟩; subst w4))
  clear hv
  go_wp2_with fail
  refine hsz.mono ?_
  rintro e w4 ⟨rfl, hw4⟩
  subst w4
  clear hsz
  go_wp2_with fail
  refine hik.mono ?_
  rintro e w4 ⟨rfl, hw4⟩
  subst w4
  clear hik
  go_wp2
  go_ret
  exact ⟨rfl, HR.out⟩
theorem rnumbers1_c (h : Rq w p F ao c l at' f) (s j : Nat) (hs : w.heap[s]? = some (.cells #[.pointer (some ⟨F, j, none⟩)] 50 (0, 0))) (hsp : s ≠ p) (old : Value) (hj : f.cells[j]? = some old) (hE : vE l at' = 0) (b : Nat) (hN : vN l at' = b) (f' : Fr) (hf : f.cells.toArray.setIfInBounds j (.int .i64 (vV l at')) = f'.cells.toArray) :
    Calls Tryd.prog 73 #[.pointer (some ⟨p, 0, none⟩), .slice (some ⟨s, 0, none⟩) 1 1] w fun e w' => e = .returned (.tuple #[]) ∧ Rp w p F ao c l b f' w' := by
  have hnu := rnumber_c h hE b hN
  have cs0 : w.cell? ⟨s, 0, none⟩ = some (.pointer (some ⟨F, j, none⟩)) := by simp [World.cell?, hs]
  generalize vV l at' = V at *
  have HH : Aside (∀ X, Rp w p F ao c l b f X → X.cell? ⟨F, j, none⟩ = some old ∧ X.frozen? ⟨F, j, none⟩ = false ∧ Rp w p F ao c l b f' (X.setCell ⟨F, j, none⟩ (.int .i64 V))) := by
    rintro X ⟨x1, x2⟩
    obtain ⟨r1, r2⟩ := x1.put j (.int .i64 V) f' hf
    exact ⟨x1.fm.at j _ hj, x1.fm.fr j, r1, x2.trans r2⟩
  clear h hE hN hs
  go_enter Tryd.func73, Tryd.ntmps73
  go_wp2
  refine wp_loop_rounds 2 ?_
  rw [rounds_succ]
  go_wp2_with fail
  refine hnu.mono ?_
  rintro e W1 ⟨rfl, hr⟩
  obtain ⟨g1, g2, hr2⟩ := HH.out W1 hr
  have HR : Aside _ := hr2
  clear hr hr2 HH hnu cs0
  go_wp2
  rw [rounds_succ]
  go_wp2
  go_end0
  exact ⟨rfl, HR.out⟩
end
end Go.Proofs.YtfejhlfcabbkcaaDoor
