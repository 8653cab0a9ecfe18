/- What header.reader's short answers: a contract. -/
import Derived.Test.YtlllejgpmdeeiaaDoorPh
namespace Go.Proofs.YtlllejgpmdeeiaaDoor
open Go.ChangeShapes Go.WideShapes Go.ChangeAt Go.RowKit
set_option linter.unusedVariables false

set_option maxRecDepth 10000 in
theorem short_rd (R H b off cap : Nat) (l : List UInt8) (ids : Int) (w : World) (hi : In w R H b off cap l) (h : Rd w R (.slice (some ⟨b, off, none⟩) l.length cap) 1 false)
    (hh : Hd w H 0 0 (.slice none 0 0) (.slice none 0 0) (.slice none 0 0) 0 false (.slice none 0 0) (bc zs)) (h1 : 0 < l.length) (hids : 0 ≤ ids) (hids2 : ids ≤ 20) (hl : l.length ≤ 140737488355327) (hc : l.length ≤ cap) (hcm : cap ≤ 9223372036854775807) :
    Calls Tryd.prog 49 #[.pointer (some ⟨R, 0, none⟩), .pointer (some ⟨H, 0, none⟩), .int .i64 ids] w fun e w' => e = .returned (.int .i64 (shE l ids)) ∧ Done w w' R H b off cap l (shE l ids) (pShort l ids) := by
  have c0 := h.c0
  have HR := mkHid h
  have HH := mkHid hh
  have HI := mkHid hi
  obtain ⟨b', off', he, hx⟩ := hi.sl 0 h1
  simp only [Option.some.injEq, Addr.mk.injEq, and_true] at he
  obtain ⟨rfl, rfl⟩ := he
  obtain ⟨x, hxx⟩ : ∃ x : Nat, x = l[0].toNat := ⟨_, rfl⟩
  have hx8 : x < 256 := by rw [hxx]; exact l[0].toNat_lt
  rw [← hxx, Nat.add_zero] at hx
  have e64 := and64 x hx8
  have e4 := and4 x hx8
  have HX := mkHid hxx
  clear hxx
  have f := hh.fr
  have d0 := hh.c0
  have d6 := hh.c6
  have n1 : ¬ R = H := hi.ne
  have n2 : ¬ H = R := fun h => n1 h.symm
  have n3 : ¬ b = H := hi.bH
  have n4 : ¬ H = b := fun h => n3 h.symm
  have hq : x / 64 % 2 = 0 ∨ x / 64 % 2 = 1 := by omega
  clear h hh hi
  rcases hq with hq | hq
  · rw [hq] at e64
    have he : Hid (shE l ids = 11) := by
      unfold Hid shE
      rw [if_pos]
      rw [show l.getD 0 0 = l[0] by simp [List.getD, h1], ← HX.out, hq]
    go_enter Tryd.func49, Tryd.ntmps49
    go_wp2
    go_ret
    rw [he.out]
    exact ⟨rfl, Done.no (Two.refl _ _ _) HR.out HH.out (by decide) (if_neg (by rw [he.out]; decide))⟩
  · rw [hq] at e64
    have hfb : fb l = x := by unfold fb; rw [show l.getD 0 0 = l[0] by simp [List.getD, h1], HX.out]
    have hE : Hid (shE l ids = if (l.length : Int) < 1 + ids then 10 else 0) := by
      unfold Hid shE
      rw [if_neg]
      rw [show l.getD 0 0 = l[0] by simp [List.getD, h1], ← HX.out, hq]
      decide
    have HF := mkHid hfb
    clear hq hfb
    obtain ⟨Q, hQ⟩ : ∃ Q : Int, ((x / 4 % 2 * 4 : Nat) : Int) = Q := ⟨_, rfl⟩
    rw [hQ] at e4
    have HQ := mkHid hQ
    clear hQ
    go_enter Tryd.func49, Tryd.ntmps49
    go_wp2_with fail
    refine (take_rd R b off l.length cap 1 ids false _ ((HR.out.setOther n1 _).setOther n1 _) (by omega) (by omega) hids hc hcm (by omega)).mono ?_
    rintro e w' ⟨rfl, g1, g2⟩
    have HD2 := mkHid ((((HH.out.set0 5).set6 (Q != 0)).other g2 n2).set2 (.slice (tSo b off l.length false 1 ids) (tSn l.length false 1 ids) (tSn l.length false 1 ids)))
    have HR2 := mkHid (g1.setOther (p := ⟨H, 2, none⟩) n1 (.slice (tSo b off l.length false 1 ids) (tSn l.length false 1 ids) (tSn l.length false 1 ids)))
    have HT2 := mkHid (((((Two.refl R H w).setCell (p := ⟨H, 0, none⟩) rfl (.int .i64 5)).setCell (p := ⟨H, 6, none⟩) rfl (.bool (Q != 0))).only g2).setCell (p := ⟨H, 2, none⟩) rfl (.slice (tSo b off l.length false 1 ids) (tSn l.length false 1 ids) (tSn l.length false 1 ids)))
    have f2 := (((HH.out.set0 5).set6 (Q != 0)).other g2 n2).fr
    have k2 := g1.c2
    have d2 := (((HH.out.set0 5).set6 (Q != 0)).other g2 n2).c2
    clear g1 g2
    have hph : bit (fb l) 4 = (Q != 0) := by
      rw [HF.out, ← HQ.out]
      unfold bit
      have : x / 4 % 2 = 0 ∨ x / 4 % 2 = 1 := by omega
      rcases this with h | h <;> rw [h] <;> rfl
    have HPH := mkHid hph
    clear hph
    by_cases hlt : (l.length : Int) < 1 + ids
    · rw [if_pos hlt] at hE
      have hL : tL l.length false 1 ids = true := by unfold tL tO; simp; omega
      rw [hL] at k2
      generalize tSo b off l.length false 1 ids = S at *
      generalize tSn l.length false 1 ids = SN at *
      go_wp2
      go_ret
      rw [hE.out]
      exact ⟨rfl, Done.no HT2.out HR2.out HD2.out (by decide) (if_neg (by rw [hE.out]; decide))⟩
    · rw [if_neg hlt] at hE
      have hL : tL l.length false 1 ids = false := by unfold tL tO; simp; omega
      have hA : Hid (tA l.length false 1 ids = 1 + ids) := if_pos ⟨rfl, by omega⟩
      have hS := mkHid (tS_yes (b := b) (off := off) (len := l.length) (a := 1) (n := ids) (by omega) hids)
      rw [hL] at k2
      generalize tSo b off l.length false 1 ids = S at *
      generalize tSn l.length false 1 ids = SN at *
      go_wp2
      go_ret
      rw [hE.out]
      refine ⟨rfl, Done.yes (p := ⟨5, 0, some (1, ids.toNat), none, none, 0, bit (fb l) 4, [], zs, 1 + ids⟩) (lv := .slice none 0 0) (lk := tL l.length false 1 ids) HT2.out (if_pos hE.out) ?_ ?_ (.inl ⟨rfl, rfl⟩)⟩
      · rw [hA.out] at HR2; exact HR2.out
      · have := HD2.out
        rw [← HPH.out] at this
        exact HdP_of this hS.out ⟨rfl, rfl⟩ ⟨rfl, rfl⟩
end Go.Proofs.YtlllejgpmdeeiaaDoor
