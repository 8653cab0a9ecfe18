/- frame's reader: kind, of every state at its beginning. -/
import Derived.Test.YtaeapgkfmofjlaaDoorMa
namespace Go.Proofs.YtaeapgkfmofjlaaDoor
open Go.ChangeShapes Go.WideShapes Go.ChangeAt Go.RowKit
set_option linter.unusedVariables false
set_option maxRecDepth 100000

/-- What kind answers, and leaves. -/
def xK (l : List UInt8) (at' : Nat) : Int × Sq := if vE l at' = 0 then (vV l at', ((vN l at').toNat, if szN (vV l at') < vN l at' - at' then -1 else if isKd (vV l at') = true then 0 else 12)) else (0, (at', 10))
section
variable {w0 w1 w w' : World} {lo p F g off c : Nat} {wa : Option Addr} {l : List UInt8} {a : Fa × Sq} {s : Sq} {f : Fr}
set_option maxHeartbeats 1000000 in
theorem rkind_c {at' : Nat} (h : Rz w p F g off c wa l (at', 0) f) (hW : w.cell? ⟨0, 0, none⟩ = some (eV wa (-1))) (hp0 : p ≠ 0) (hF0 : F ≠ 0) :
    Calls Tryd.prog 28 #[.pointer (some ⟨p, 0, none⟩)] w fun e w' => e = .returned (.int .i64 (xK l at').1) ∧ Aside (Rp w p F g off c wa l (xK l at').2 f w') := by
  have hv := var_any (some ⟨g, off, none⟩) l c at' w.drew h.tb h.sl (by have := h.ll; omega)
  obtain ⟨c0, c1, c2, fz⟩ := h.cs
  dsimp only at c1
  have hd := h.bel (Below.refl _ w).drew
  have d0 : w.drew.cell? ⟨p, 0, none⟩ = some (.slice (some ⟨g, off, none⟩) l.length c) := c0
  have d1 : w.drew.cell? ⟨p, 1, none⟩ = some (.int .i64 at') := c1
  have HB : Aside (Chg (Kq p F) w w.drew) := Chg.of_below (Below.refl _ w).drew
  have hll := h.ll
  have hla := h.la
  dsimp only at hla
  rcases vE_at h.la with hE | hE
  · obtain ⟨b, hb, hb1, hb2⟩ := vN_rng hE
    have e : xK l at' = (vV l at', (b, if szN (vV l at') < (b : Int) - at' then -1 else if isKd (vV l at') = true then 0 else 12)) := by unfold xK; dsimp only at hE ⊢; rw [if_pos hE]; dsimp only at hb; rw [hb, Int.toNat_natCast]
    rw [e]
    dsimp only at hE hb
    rw [hE, hb] at hv
    obtain ⟨v0, v1⟩ := vV_rng l at'
    have hsz := fun X (hx : Tb X) => size_yes (vV l at') X hx (by omega) (by omega)
    have hik := fun X => isKind_c (vV l at') X
    obtain ⟨V, hV⟩ : ∃ V, vV l at' = V := ⟨_, rfl⟩
    rw [hV] at hv hsz hik v0 v1 ⊢
    obtain ⟨n, hn⟩ : ∃ n, szN V = n := ⟨_, rfl⟩
    simp only [hn] at hsz ⊢
    obtain ⟨m, hm⟩ : ∃ m, (b : Int) - at' = m := ⟨_, rfl⟩
    have i1 : IntKind.i64.wrap ((b : Int) - at') = m := by rw [wrp _ (by omega) (by omega)]; exact hm
    rw [hm]
    obtain ⟨KD, hKD⟩ : ∃ KD, isKd V = KD := ⟨_, rfl⟩
    simp only [hKD] at hik ⊢
    have HD : Aside _ := hd
    have hw0 : w.drew.cell? ⟨0, 0, none⟩ = some (eV wa (-1)) := hW
    rw [show eV wa (-1) = .iface 155 (.pointer wa) from rfl] at hw0
    have hT : Tb w.drew := hd.tb
    have hsz' := hsz w.drew hT
    have HIK : Aside (∀ X, Calls Tryd.prog 17 #[.int .i64 V] X fun e w' => e = .returned (.bool KD) ∧ w' = X) := hik
    have hm1 : 0 < m := by omega
    clear h hd hW hE hb fz e hV hn hm hKD hsz hik hT
    -- what stands behind the number's place set
    have HGO : Aside (∀ X e0, Rp w.drew p F g off c wa l (at', e0) f X → X.cell? ⟨p, 1, none⟩ = some (.int .i64 at') ∧ X.frozen? ⟨p, 1, none⟩ = false ∧ Aside (Rp w p F g off c wa l (b, e0) f (X.setCell ⟨p, 1, none⟩ (.int .i64 b)))) := by
      rintro X e0 ⟨x1, x2⟩
      obtain ⟨r1, r2⟩ := x1.go b hb2
      obtain ⟨_, k1, _, kz⟩ := x1.cs
      exact ⟨k1, kz 1, r1, (HB.out.trans x2).trans r2⟩
    have HF1 : Aside (Calls Tryd.prog 30 #[.pointer (some ⟨p, 0, none⟩), .iface 155 (.pointer wa)] w.drew fun e w' => e = .returned (.tuple #[]) ∧ Aside (Rp w.drew p F g off c wa l (at', -1) f w')) := rfail_c HD.out (-1) (by decide)
    have HF2 : Aside (Calls Tryd.prog 30 #[.pointer (some ⟨p, 0, none⟩), .iface 29 (.int .i64 12)] w.drew fun e w' => e = .returned (.tuple #[]) ∧ Aside (Rp w.drew p F g off c wa l (at', 12) f w')) := by
      have := rfail_c HD.out 12 (by decide)
      rw [eV_num wa (by decide) (by decide)] at this
      exact this
    have HF3 : Aside (∀ X, Rp w.drew p F g off c wa l (at', -1) f X → Calls Tryd.prog 30 #[.pointer (some ⟨p, 0, none⟩), .iface 29 (.int .i64 12)] X fun e w' => e = .returned (.tuple #[]) ∧ Aside (Rp w.drew p F g off c wa l (at', -1) f w')) := by
      rintro X ⟨x1, x2⟩
      have := rfail_c x1 12 (by decide)
      rw [eV_num wa (by decide) (by decide)] at this
      exact this.mono (by rintro e w' ⟨rfl, y1, y2⟩; exact ⟨rfl, y1, x2.trans y2⟩)
    have HN0 : Aside (Rp w.drew p F g off c wa l (at', 0) f w.drew) := ⟨HD.out, Chg.refl _ _⟩
    by_cases hwide : n < m
    · rw [if_pos hwide]
      have hwd : decide (n < m) = true := decide_eq_true hwide
      go_enter Tryd.func28, Tryd.ntmps28
      go_wp2_with fail
      go_region_held3 (fun X => X.cell? ⟨p, 0, none⟩ = some (.slice (some ⟨g, off, none⟩) l.length c) ∧ X.cell? ⟨p, 1, none⟩ = some (.int .i64 at')) (exact ⟨d0, d1⟩) (first | (go_at_call 43; refine Calls.mono hv ?_; rintro e w4 ⟨rfl, hw4⟩; subst w4))
      clear hv
      go_wp2_with fail
      refine hsz'.mono ?_
      rintro e w4 ⟨rfl, hw4⟩
      subst w4
      clear hsz'
      go_wp2_with fail
      refine HF1.out.mono ?_
      rintro e X1 ⟨rfl, H1⟩
      have hik' := HIK.out X1
      go_wp2_with fail
      refine hik'.mono ?_
      rintro e w4 ⟨rfl, hw4⟩
      subst w4
      clear hik'
      cases KD
      · have hf3 := HF3.out X1 H1.out
        go_wp2_with fail
        refine hf3.mono ?_
        rintro e X2 ⟨rfl, H2⟩
        obtain ⟨q1, q2, HO⟩ := HGO.out X2 (-1) H2.out
        clear hf3
        go_wp2
        go_ret
        exact ⟨rfl, HO⟩
      · obtain ⟨q1, q2, HO⟩ := HGO.out X1 (-1) H1.out
        go_wp2
        go_ret
        exact ⟨rfl, HO⟩
    · rw [if_neg hwide]
      have hwd : decide (n < m) = false := decide_eq_false hwide
      go_enter Tryd.func28, Tryd.ntmps28
      go_wp2_with fail
      go_region_held3 (fun X => X.cell? ⟨p, 0, none⟩ = some (.slice (some ⟨g, off, none⟩) l.length c) ∧ X.cell? ⟨p, 1, none⟩ = some (.int .i64 at')) (exact ⟨d0, d1⟩) (first | (go_at_call 43; refine Calls.mono hv ?_; rintro e w4 ⟨rfl, hw4⟩; subst w4))
      clear hv
      go_wp2_with fail
      refine hsz'.mono ?_
      rintro e w4 ⟨rfl, hw4⟩
      subst w4
      clear hsz'
      have hik' := HIK.out w.drew
      go_wp2_with fail
      refine hik'.mono ?_
      rintro e w4 ⟨rfl, hw4⟩
      subst w4
      clear hik'
      cases KD
      · have hf2 := HF2.out
        go_wp2_with fail
        refine hf2.mono ?_
        rintro e X2 ⟨rfl, H2⟩
        obtain ⟨q1, q2, HO⟩ := HGO.out X2 12 H2.out
        clear hf2
        go_wp2
        go_ret
        exact ⟨rfl, HO⟩
      · obtain ⟨q1, q2, HO⟩ := HGO.out w.drew 0 HN0.out
        go_wp2
        go_ret
        exact ⟨rfl, HO⟩
  · have e : xK l at' = (0, (at', 10)) := by unfold xK; dsimp only at hE ⊢; rw [if_neg (by rw [hE]; decide)]
    rw [e]
    dsimp only at hE
    rw [hE] at hv
    have hf := rfail_c hd 10 (by decide)
    rw [eV_num wa (by decide) (by decide)] at hf
    have e2 : flt (at', 0) 10 = (at', 10) := rfl
    rw [e2] at hf
    generalize vV l at' = V at *
    generalize vN l at' = V2 at *
    clear h hd hE fz e hW
    go_enter Tryd.func28, Tryd.ntmps28
    go_wp2_with fail
    go_region_held3 (fun X => X.cell? ⟨p, 0, none⟩ = some (.slice (some ⟨g, off, none⟩) l.length c) ∧ X.cell? ⟨p, 1, none⟩ = some (.int .i64 at')) (exact ⟨d0, d1⟩) (first | (go_at_call 43; refine Calls.mono hv ?_; rintro e w4 ⟨rfl, hw4⟩; subst w4))
    clear hv
    go_wp2_with fail
    refine hf.mono ?_
    rintro e w4 ⟨rfl, x1, x2⟩
    have HR : Aside (Rp w p F g off c wa l (at', 10) f w4) := ⟨x1, HB.out.trans x2⟩
    clear x1 x2 hf
    go_wp2
    go_ret
    exact ⟨rfl, HR⟩
end
end Go.Proofs.YtaeapgkfmofjlaaDoor
