/- frame's reader: acks. -/
import Derived.Test.YtaeapgkfmofjlaaDoorSk
namespace Go.Proofs.YtaeapgkfmofjlaaDoor
open Go.ChangeShapes Go.WideShapes Go.ChangeAt Go.RowKit
set_option linter.unusedVariables false
set_option maxRecDepth 100000

def yA3 (l : List UInt8) (s : Sq) : Sq := if 256 ≤ (xN l s).1 then flt (xN l s).2 3 else (xN l s).2
def yA (l : List UInt8) (a : Fa × Sq) : Fa × Sq := ({ a.1 with del := (xN l (xN l a.2).2).1, A := (xS l (yA3 l (xN l (xN l a.2).2).2) (xN l a.2).1 (xN l (xN l (xN l a.2).2).2).1.toNat).1 }, (xS l (yA3 l (xN l (xN l a.2).2).2) (xN l a.2).1 (xN l (xN l (xN l a.2).2).2).1.toNat).2)
section
variable {w0 w1 w w' : World} {lo p F g off c : Nat} {wa : Option Addr} {l : List UInt8} {a : Fa × Sq} {s : Sq} {f : Fr}
set_option maxHeartbeats 1000000 in
theorem racks_c (h : Rz w p F g off c wa l s f) : Calls Tryd.prog 95 #[.pointer (some ⟨p, 0, none⟩), .pointer (some ⟨F, 0, none⟩)] w fun e w' => e = .returned (.tuple #[]) ∧ ∃ o cp T, T = xS l (yA3 l (xN l (xN l s).2).2) (xN l s).1 (xN l (xN l (xN l s).2).2).1.toNat ∧
      Aside (Rz w' p F g off c wa l T.2 { f with del := (xN l (xN l s).2).1, A := .slice o T.1.length cp }) ∧ Aside (Sy w.heap.size w' (.slice o T.1.length cp) T.1) ∧ Aside (Chg (fun k => Kq p F k ∨ w.heap.size ≤ k) w w') := by
  have HN : Aside (p < w.heap.size ∧ F < w.heap.size) := ⟨lt_block h.rd, lt_block (show w.heap[F]? = _ from h.fm)⟩
  obtain ⟨n1, hn1, hn1b⟩ := xN_nat l s
  obtain ⟨n2, hn2, hn2b⟩ := xN_nat l (xN l s).2
  obtain ⟨n3, hn3, hn3b⟩ := xN_nat l (xN l (xN l s).2).2
  have h1 := rnumber_c h
  rw [hn1] at h1
  have HY : Aside (yA3 l (xN l (xN l s).2).2 = if 256 ≤ (n3 : Int) then flt (xN l (xN l (xN l s).2).2).2 3 else (xN l (xN l (xN l s).2).2).2) := by show yA3 _ _ = _; unfold yA3; rw [hn3]
  rw [hn1, hn2, hn3, Int.toNat_natCast]
  obtain ⟨T, hT⟩ : ∃ T, xS l (yA3 l (xN l (xN l s).2).2) n1 n3 = T := ⟨_, rfl⟩
  have HT : Aside _ := hT
  rw [hT]
  generalize yA3 l (xN l (xN l s).2).2 = s4 at *
  have HH2 : Aside (∀ X, Rz X p F g off c wa l (xN l s).2 f → Calls Tryd.prog 102 #[.pointer (some ⟨p, 0, none⟩)] X fun e w' => e = .returned (.int .i64 n2) ∧ Rp X p F g off c wa l (xN l (xN l s).2).2 f w') := fun X hx => by have := rnumber_c hx; rw [hn2] at this; exact this
  have HH3 : Aside (∀ X f', Rz X p F g off c wa l (xN l (xN l s).2).2 f' → Calls Tryd.prog 102 #[.pointer (some ⟨p, 0, none⟩)] X fun e w' => e = .returned (.int .i64 n3) ∧ Rp X p F g off c wa l (xN l (xN l (xN l s).2).2).2 f' w') := fun X f' hx => by have := rnumber_c hx; rw [hn3] at this; exact this
  clear h hn1 hn2 hn3 hT
  generalize (xN l (xN l (xN l s).2).2).2 = s3 at *
  generalize (xN l (xN l s).2).2 = s2 at *
  generalize (xN l s).2 = s1 at *
  go_enter Tryd.func95, Tryd.ntmps95
  go_wp2_with fail
  refine h1.mono ?_
  rintro e W1 ⟨rfl, z1, k1⟩
  have K1 : Aside (Chg (Kq p F) w W1) := k1
  have h2 := HH2.out W1 z1
  clear h1 z1 k1
  go_wp2_with fail
  refine h2.mono ?_
  rintro e W2 ⟨rfl, z2, k2⟩
  obtain ⟨r1, r2⟩ := z2.put 10 (.int .i64 n2) { f with del := n2 } rfl
  have c10 := z2.fm.at 10 _ (show f.cells[10]? = some (.int .i64 f.del) from rfl)
  have f10 := z2.fm.fr 10
  have h3 := HH3.out _ _ r1
  have K3 : Aside (Chg (Kq p F) w (W2.setCell ⟨F, 10, none⟩ (.int .i64 n2))) := (K1.out.trans k2).trans r2
  clear h2 z2 k2 r1 r2
  go_wp2_with fail
  refine h3.mono ?_
  rintro e W3 ⟨rfl, z3, k3⟩
  have K4 : Aside (Chg (Kq p F) w W3) := K3.out.trans k3
  have HFIN : Aside (∀ X, Rz X p F g off c wa l s4 { f with del := n2 } → (s4.2 = 0 → n3 < 256) → Calls Tryd.prog 103 #[.pointer (some ⟨p, 0, none⟩), .int .i64 n1, .int .i64 n3] X fun e w' => ∃ o cp, e = .returned (.slice o T.1.length cp) ∧ Aside (Sy X.heap.size w' (.slice o T.1.length cp) T.1) ∧ Aside (Rz w' p F g off c wa l T.2 { f with del := n2 }) ∧ Aside (Chg (fun k => Kq p F k ∨ X.heap.size ≤ k) X w')) := by
    intro X hx hn
    have := rspans_c hx n1 n3 (by omega) (by omega) hn hn3b
    rw [HT.out] at this
    exact this
  have HEND : Aside (∀ X Y o cp, Chg (Kq p F) w X → Sy X.heap.size Y (.slice o T.1.length cp) T.1 → Rz Y p F g off c wa l T.2 { f with del := n2 } → Chg (fun k => Kq p F k ∨ X.heap.size ≤ k) X Y →
      Y.cell? ⟨F, 9, none⟩ = some f.A ∧ Y.frozen? ⟨F, 9, none⟩ = false ∧ Aside (Rz (Y.setCell ⟨F, 9, none⟩ (.slice o T.1.length cp)) p F g off c wa l T.2 { f with del := n2, A := .slice o T.1.length cp } ∧ Sy w.heap.size (Y.setCell ⟨F, 9, none⟩ (.slice o T.1.length cp)) (.slice o T.1.length cp) T.1 ∧ Chg (fun k => Kq p F k ∨ w.heap.size ≤ k) w (Y.setCell ⟨F, 9, none⟩ (.slice o T.1.length cp)))) := by
    intro X Y o cp hc hs hz hxy
    obtain ⟨q1, q2⟩ := hz.put 9 (.slice o T.1.length cp) { f with del := n2, A := .slice o T.1.length cp } rfl
    have hsz := hc.2.2.2.1
    refine ⟨hz.fm.at 9 _ rfl, hz.fm.fr 9, q1, ?_, ?_⟩
    · refine Sy.mono (hs.chg q2 (fun k hk e => ?_)) hsz
      have := HN.out
      rcases e with e | e <;> omega
    · exact ((hc.mono fun k e => .inl e).trans (hxy.mono fun k e => e.elim .inl (fun e => .inr (by omega)))).trans (q2.mono fun k e => .inl e)
  clear h3 k3 c10 f10 hn3b
  by_cases h256 : 256 ≤ (n3 : Int)
  · have hs4 : s4 = flt s3 3 := by rw [HY.out, if_pos h256]
    have hf := rfail_c z3 3 (by decide)
    rw [eV_num wa (by decide) (by decide), ← hs4] at hf
    have hne : s4.2 ≠ 0 := by rw [hs4]; exact flt_ne _ _ (by decide)
    have HNE : Aside _ := hne
    have hd : decide ((256 : Int) ≤ (n3 : Int)) = true := decide_eq_true h256
    clear HY z3 hs4 hne
    go_wp2_with fail
    refine hf.mono ?_
    rintro e W4 ⟨rfl, z4, k4⟩
    have K5 : Aside (Chg (Kq p F) w W4) := K4.out.trans k4
    have h5 := HFIN.out W4 z4 (fun e => absurd e HNE.out)
    clear hf z4 k4
    go_wp2_with fail
    refine h5.mono ?_
    rintro e W5 ⟨o, cp, rfl, S5, Z5, C5⟩
    obtain ⟨c9, f9, HE⟩ := HEND.out W4 W5 o cp K5.out S5.out Z5.out C5.out
    clear h5
    go_wp2
    go_end0
    exact ⟨rfl, o, cp, T, rfl, HE.out.1, HE.out.2.1, HE.out.2.2⟩
  · have hs4 : s4 = s3 := by rw [HY.out, if_neg h256]
    rw [← hs4] at z3
    have h5 := HFIN.out W3 z3 (fun _ => by omega)
    have hd : decide ((256 : Int) ≤ (n3 : Int)) = false := decide_eq_false h256
    clear HY z3 hs4
    go_wp2_with fail
    refine h5.mono ?_
    rintro e W5 ⟨o, cp, rfl, S5, Z5, C5⟩
    obtain ⟨c9, f9, HE⟩ := HEND.out W3 W5 o cp K4.out S5.out Z5.out C5.out
    clear h5
    go_wp2
    go_end0
    exact ⟨rfl, o, cp, T, rfl, HE.out.1, HE.out.2.1, HE.out.2.2⟩
theorem Wk.acks (h : Wk w0 lo p F g off c wa l a w) : Calls Tryd.prog 95 #[.pointer (some ⟨p, 0, none⟩), .pointer (some ⟨F, 0, none⟩)] w fun e w' => e = .returned (.tuple #[]) ∧ Aside (Wk w0 lo p F g off c wa l (yA l a) w') := by
  obtain ⟨a1, a2⟩ := a
  have hpF := h.pF
  obtain ⟨f, d, h1, h2, h3, h4⟩ := h
  refine (racks_c h2).mono ?_
  rintro e w2 ⟨rfl, o, cp, T, hT, z, sy, cc⟩
  have h0 := h4.2.2.2.1
  refine ⟨rfl, { f with del := (xN l (xN l a2).2).1, A := .slice o T.1.length cp }, { d with oA := o, A := T.1, cA := cp }, ?_, ?_, ?_, ?_⟩
  · unfold yA
    dsimp only
    dsimp only at hT
    dsimp only at h1
    rw [← hT, ← h1]
    rfl
  · unfold yA
    dsimp only
    dsimp only at hT
    rw [← hT]
    exact z.out
  · have h5 := h3.on3 cc.out (fun k hk e => e.elim (fun e => e) (fun e => by omega))
    have hnp : Np p F (.slice o T.1.length cp) := by
      intro o' n' c' e
      have := (sy.out.lt o'.block (by rw [e]; rfl)).1
      omega
    exact ⟨h5.lF, h5.vD, rfl, h5.vI, h5.vR, h5.vT, h5.r16, h5.t8, h5.bD, h5.nD, h5.bI, h5.nI, sy.out.mono (by have := h5.lF; omega), hnp⟩
  · refine ⟨cc.out.1.trans h4.1, cc.out.2.1.trans h4.2.1, cc.out.2.2.1.trans h4.2.2.1, Nat.le_trans h0 cc.out.2.2.2.1, fun k hk hn => ?_⟩
    exact (cc.out.2.2.2.2 k (by omega) (fun e => e.elim hn (fun e => by omega))).trans (h4.2.2.2.2 k hk hn)
end
end Go.Proofs.YtaeapgkfmofjlaaDoor
