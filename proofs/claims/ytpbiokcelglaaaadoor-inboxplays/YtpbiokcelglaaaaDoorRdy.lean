/- inbox: Ready, raise. -/
import Derived.Test.YtpbiokcelglaaaaDoorPut
import Derived.Deep.QuietTactic
namespace Go.Proofs.YtpbiokcelglaaaaDoor
open Go.RowKit Go.Maps
set_option linter.unusedVariables false

/-- A cell taken out of the map. -/
theorem Mp.drop {W : World} {mb n : Nat} {V V' : Nat → Option UInt8} (h : Mp W mb n V) (q : Nat) (hq : q ≤ 100000000000000000) (ty : TypeId) (hin : ∀ j, j < 64 → V' (64 * q + j) = none) (hV : ∀ p, (p < 64 * q ∨ 64 * q + 64 ≤ p) → V' p = V p) :
    ∃ W', (Builtin.delete_ #[47, 3] ty #[.map (some mb), .int .i64 ((64 * q : Nat) : Int)]).run Tryd.prog W = .ok (.tuple #[]) W' ∧ Mp W' mb n V' ∧ Chg (fun j => j = mb) W W' := by
  obtain ⟨D, hD, hI, hat⟩ := h
  obtain ⟨W', hrun, h1, h2⟩ := hD.drop law3 Tryd.underlying47 (keyOf_int_mk Tryd.underlying3 (wf64 hq)) ty
  refine ⟨W', hrun, ⟨_, h1, hI.del _, fun q' hq' => ?_⟩, ?_⟩
  · by_cases e : q' = q
    · subst e
      rw [atKey_del_same, cellA_none hin]
    · rw [atKey_del_other (by intro e'; injection e' with _ e'; omega), hat q' hq', cellA_ext (V := V) (V' := V') (fun j hj => (hV _ (by omega)).symm)]
  · have hg := h2.grown
    exact ⟨hg.os, hg.tape, hg.output, hg.size, fun k hk hx => hg.block k hk (by simpa using hx)⟩

theorem ready_c {W : World} {b mb n : Nat} {V : Nat → Option UInt8} {p R hd rm lm rc : Int} {kn : Bool} (h : Ib W b mb n V p R hd rm lm rc kn) (hw : IntKind.i64.wrap (R - p) = R - p) : Calls Tryd.prog 19 #[.pointer (some ⟨b, 0, none⟩)] W fun e w' => e = .returned (.int .i64 (R - p)) ∧ Chg (fun _ => False) W w' := by
  have c0 := h.c0
  have c1 : W.cell? ⟨b, 1, none⟩ = some (.int .i64 p) := by simp [World.cell?, h.1]
  have c2 : W.cell? ⟨b, 2, none⟩ = some (.int .i64 R) := by simp [World.cell?, h.1]
  clear h
  go_enter Tryd.func19, Tryd.ntmps19
  go_wp2_with (first | (go_at_call 25; refine (some_none b mb _ c0).mono ?_; rintro e w1 ⟨rfl, rfl⟩) | fail)
  go_quiet (fail)
  go_wp2
  go_ret
  exact ⟨rfl, rfl, rfl, rfl, Nat.le_refl _, fun _ _ _ => rfl⟩
theorem Ib.set5 {W : World} {b mb n : Nat} {V : Nat → Option UInt8} {p R hd rm lm rc : Int} {kn : Bool} (h : Ib W b mb n V p R hd rm lm rc kn) (lm' : Int) :
    Ib (W.setCell ⟨b, 5, none⟩ (.int .i64 lm')) b mb n V p R hd rm lm' rc kn ∧ Chg (fun j => j = b ∨ j = mb) W (W.setCell ⟨b, 5, none⟩ (.int .i64 lm')) := by
  rw [setCell_eq_setRow W b 5 _ 49 (0, 0) _ h.1]
  have hne := h.ne
  refine ⟨⟨?_, h.2.kept ?_⟩, rfl, rfl, rfl, by simp, fun k hk hx => ?_⟩
  · rw [setRow_heap _ b _ _ 49 (0, 0) h.1]
    simp
  · rw [setRow_other _ b mb _ (fun e => hne e.symm)]
  · rw [setRow_other _ b k _ (fun e => hx (.inl e))]
theorem raise_c {W : World} {b mb n : Nat} {V : Nat → Option UInt8} {p R hd rm lm rc mx : Int} {kn : Bool} (h : Ib W b mb n V p R hd rm lm rc kn) (hw : IntKind.i64.wrap (p + rm) = p + rm) (hmx : (if lm < p + rm then p + rm else lm) = mx) : Calls Tryd.prog 29 #[.pointer (some ⟨b, 0, none⟩)] W fun e w' => e = .returned (.tuple #[]) ∧ Ib w' b mb n V p R hd rm mx rc kn ∧ Chg (fun j => j = b ∨ j = mb) W w' := by
  have HI : Aside (Ib W b mb n V p R hd rm lm rc kn) := h
  have c1 : W.cell? ⟨b, 1, none⟩ = some (.int .i64 p) := by simp [World.cell?, h.1]
  have c4 : W.cell? ⟨b, 4, none⟩ = some (.int .i64 rm) := by simp [World.cell?, h.1]
  have c5 := h.c5
  have f5 := h.f6 5
  clear h
  go_enter Tryd.func29, Tryd.ntmps29
  go_region
  obtain ⟨g1, g2⟩ := Ib.set5 HI.out mx
  exact bodyPost_end (results_none rfl _ _ _) rfl ⟨rfl, ⟨g1.1, g1.2.kept rfl⟩, g2.1, g2.2.1, g2.2.2.1, g2.2.2.2.1, g2.2.2.2.2⟩
end Go.Proofs.YtpbiokcelglaaaaDoor
