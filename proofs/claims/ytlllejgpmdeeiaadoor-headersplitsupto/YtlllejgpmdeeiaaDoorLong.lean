/- What header.reader's long answers: a contract. -/
import Derived.Test.YtlllejgpmdeeiaaDoorVers
namespace Go.Proofs.YtlllejgpmdeeiaaDoor
open Go.ChangeShapes Go.WideShapes Go.ChangeAt Go.RowKit
set_option linter.unusedVariables false

theorem num_one (l : List UInt8) (A : Nat) (h : A < l.length) : num (sub l A 1) = (l.getD A 0).toNat := by
  have e : sub l A 1 = [l[A]] := by
    unfold sub
    rw [List.drop_eq_getElem_cons h]
    rfl
  rw [e]
  simp [num, List.getD, h]
theorem g1_yes {l : List UInt8} {A : Nat} (h : A < l.length) : gV l A 1 = ((l.getD A 0).toNat : Int) ∧ gN l A 1 = ((A + 1 : Nat) : Int) ∧ gE l A 1 = 0 := by
  have ho : gOk l.length A 1 := by unfold gOk; omega
  have ha : ¬ gArg l.length A 1 := by unfold gArg; omega
  refine ⟨(if_pos ho).trans ?_, (if_pos ho).trans (by omega), (if_neg ha).trans (if_pos ho)⟩
  rw [show (1 : Int).toNat = 1 from rfl, Int.toNat_natCast, num_one l A h]
theorem gE_ok {l : List UInt8} {a n : Int} (h : gE l a n = 0) : gOk l.length a n := by
  unfold gE at h
  by_cases ha : gArg l.length a n
  · rw [if_pos ha] at h; cases h
  · rw [if_neg ha] at h
    by_cases ho : gOk l.length a n
    · exact ho
    · rw [if_neg ho] at h; cases h
theorem gN_of {l : List UInt8} {a n : Int} (h : gE l a n = 0) : gN l a n = a + n := if_pos (gE_ok h)
theorem tL_false {len : Int} {lk : Bool} {a n : Int} (h : tL len lk a n = false) : lk = false ∧ n ≤ len - a := by
  unfold tL at h
  have : decide (tO len lk a n) = true := by simpa using h
  exact of_decide_eq_true this

theorem Hd_pv {w' : World} {H b off : Nat} {k ver len : Int} {d s : Option (Nat × Nat)} {oa sa : Option Addr} {on sn : Nat} {ph : Bool} {t lv : Value} {tg : List Value}
    (h : Hd w' H k ver (.slice oa on on) (.slice sa sn sn) t len ph lv tg) (hd : oa = pvo b off d ∧ on = pvn d) (hs : sa = pvo b off s ∧ sn = pvn s) : Hd w' H k ver (pv b off d) (pv b off s) t len ph lv tg := by
  obtain ⟨rfl, rfl⟩ := hd
  obtain ⟨rfl, rfl⟩ := hs
  exact h
/-- one step of the reader: a number -/
structure NumStep (l : List UInt8) (n a : Int) (k : Bool) (v a' : Int) (k' : Bool) : Prop where
  hv : pV k (gV l a n) (gE l a n) = v
  ha : pA k a (gN l a n) (gE l a n) = a'
  hk : pL k (gE l a n) = k'
theorem NumStep.bounds {l : List UInt8} {n a : Int} {k : Bool} {v a' : Int} {k' : Bool} (h : NumStep l n a k v a' k') (hn : n ≤ 4) (h0 : 0 ≤ a) (h1 : a ≤ l.length) : 0 ≤ v ∧ 0 ≤ a' ∧ a' ≤ l.length := by
  obtain ⟨h2, h3, h4⟩ := h
  have hg := gV_bounds l a n hn
  by_cases hc : k = true ∨ gE l a n ≠ 0
  · have e1 : pV k (gV l a n) (gE l a n) = 0 := if_pos hc
    have e2 : pA k a (gN l a n) (gE l a n) = a := if_pos hc
    omega
  · have e1 : pV k (gV l a n) (gE l a n) = gV l a n := if_neg hc
    have e2 : pA k a (gN l a n) (gE l a n) = gN l a n := if_neg hc
    have he : gE l a n = 0 := by
      by_cases h : gE l a n = 0
      · exact h
      · exact absurd (.inr h) hc
    have ho := gE_ok he
    have := gN_of he
    unfold gOk at ho
    omega
theorem tA_bounds {len : Nat} {k : Bool} {a n : Int} (h0 : 0 ≤ a) (h1 : a ≤ len) (hn : 0 ≤ n) : 0 ≤ tA len k a n ∧ tA len k a n ≤ len := by
  unfold tA
  by_cases h : tO len k a n
  · rw [if_pos h]; have := h.2; omega
  · rw [if_neg h]; omega

theorem chain_ok {l : List UInt8} {V A1 N1 A2 A3 N2 A4 : Int} {K1 K2 K3 K4 : Bool} (s1 : NumStep l 4 1 false V A1 K1) (s2 : NumStep l 1 A1 K1 N1 A2 K2) (e3 : tA l.length K2 A2 N1 = A3) (e3' : tL l.length K2 A2 N1 = K3)
    (s4 : NumStep l 1 A3 K3 N2 A4 K4) (hk : tL l.length K4 A4 N2 = false) : idOk l := by
  obtain ⟨hk4, hf⟩ := tL_false hk
  subst hk4
  obtain ⟨k3, g4⟩ := pL_false s4.hk
  subst k3
  obtain ⟨k2, hf2⟩ := tL_false e3'
  subst k2
  obtain ⟨k1, g2⟩ := pL_false s2.hk
  subst k1
  obtain ⟨_, g1⟩ := pL_false s1.hk
  have o1 := gE_ok g1
  have a1 := s1.ha
  rw [g1, pA_yes, gN_of g1] at a1
  subst a1
  have o2 := gE_ok g2
  have v2 := s2.hv
  have a2 := s2.ha
  rw [g2, pV_yes] at v2
  rw [g2, pA_yes, gN_of g2] at a2
  unfold gOk at o1 o2
  obtain ⟨q1, q2, q3⟩ := g1_yes (l := l) (A := 5) (by omega)
  have e5 : gV l (1 + 4) 1 = ((l.getD 5 0).toNat : Int) := q1
  rw [e5] at v2
  have e3'' : tA l.length false A2 N1 = A2 + N1 := if_pos ⟨rfl, hf2⟩
  rw [e3''] at e3
  have o4 := gE_ok g4
  have v4 := s4.hv
  have a4 := s4.ha
  rw [g4, pV_yes] at v4
  rw [g4, pA_yes, gN_of g4] at a4
  unfold gOk at o4
  unfold idOk idM idN
  obtain ⟨q1', q2', q3'⟩ := g1_yes (l := l) (A := 6 + (l.getD 5 0).toNat) (by omega)
  have e6 : A3 = ((6 + (l.getD 5 0).toNat : Nat) : Int) := by omega
  rw [e6, q1'] at v4
  omega

set_option maxRecDepth 10000 in
theorem long_no (R H b off cap : Nat) (l : List UInt8) (w : World) (hi : In w R H b off cap l) (h : Rd w R (.slice (some ⟨b, off, none⟩) l.length cap) 1 false)
    (hh : Hd w H 0 0 (.slice none 0 0) (.slice none 0 0) (.slice none 0 0) 0 false (.slice none 0 0) (bc zs)) (hp : 0 < l.length) (hl : l.length ≤ 140737488355327) (hc : l.length ≤ cap) (hcm : cap ≤ 9223372036854775807) (hno : ¬ idOk l) :
    Calls Tryd.prog 48 #[.pointer (some ⟨R, 0, none⟩), .pointer (some ⟨H, 0, none⟩)] w fun e w' => ∃ E, e = .returned (.int .i64 E) ∧ Done w w' R H b off cap l E none := by
  obtain ⟨V, A1, K1, s1⟩ : ∃ V A1 K1, NumStep l 4 1 false V A1 K1 := ⟨_, _, _, rfl, rfl, rfl⟩
  obtain ⟨N1, A2, K2, s2⟩ : ∃ V A K, NumStep l 1 A1 K1 V A K := ⟨_, _, _, rfl, rfl, rfl⟩
  obtain ⟨A3, e3⟩ : ∃ A, tA l.length K2 A2 N1 = A := ⟨_, rfl⟩
  obtain ⟨K3, e3'⟩ : ∃ K, tL l.length K2 A2 N1 = K := ⟨_, rfl⟩
  obtain ⟨N2, A4, K4, s4⟩ : ∃ V A K, NumStep l 1 A3 K3 V A K := ⟨_, _, _, rfl, rfl, rfl⟩
  have hk : tL l.length K4 A4 N2 = true := by
    cases hq : tL l.length K4 A4 N2 with
    | true => rfl
    | false => exact absurd (chain_ok s1 s2 e3 e3' s4 hq) hno
  obtain ⟨b1, b2, b3⟩ := s1.bounds (by omega) (by omega) (by omega)
  obtain ⟨b4, b5, b6⟩ := s2.bounds (by omega) b2 b3
  have b7 := tA_bounds (k := K2) b5 b6 b4
  rw [e3] at b7
  obtain ⟨b7, b8⟩ := b7
  obtain ⟨b9, b10, b11⟩ := s4.bounds (by omega) b7 b8
  have C1 := fun W (h : Rd W R (.slice (some ⟨b, off, none⟩) l.length cap) 1 false) (hs : Sl W (some ⟨b, off, none⟩) l) => number_rd R (some ⟨b, off, none⟩) l cap 1 4 false W h hs (by omega) (by omega)
  have C2 := fun W (h : Rd W R (.slice (some ⟨b, off, none⟩) l.length cap) A1 K1) (hs : Sl W (some ⟨b, off, none⟩) l) => number_rd R (some ⟨b, off, none⟩) l cap A1 1 K1 W h hs (by omega) (by omega)
  have C3 := fun W (h : Rd W R (.slice (some ⟨b, off, none⟩) l.length cap) A2 K2) => take_rd R b off l.length cap A2 N1 K2 W h b5 b6 b4 hc hcm (by omega)
  have C4 := fun W (h : Rd W R (.slice (some ⟨b, off, none⟩) l.length cap) A3 K3) (hs : Sl W (some ⟨b, off, none⟩) l) => number_rd R (some ⟨b, off, none⟩) l cap A3 1 K3 W h hs (by omega) (by omega)
  have C5 := fun W (h : Rd W R (.slice (some ⟨b, off, none⟩) l.length cap) A4 K4) => take_rd R b off l.length cap A4 N2 K4 W h b10 b11 b9 hc hcm (by omega)
  rw [s1.hv, s1.ha, s1.hk] at C1
  rw [s2.hv, s2.ha, s2.hk] at C2
  rw [e3, e3'] at C3
  rw [s4.hv, s4.ha, s4.hk] at C4
  rw [hk] at C5
  have HC1 := mkHid C1
  have HC2 := mkHid C2
  have HC3 := mkHid C3
  have HC4 := mkHid C4
  have HC5 := mkHid C5
  clear C1 C2 C3 C4 C5 s1 s2 e3 e3' s4 hk
  generalize tSo b off l.length K2 A2 N1 = S1 at *
  generalize tSn l.length K2 A2 N1 = M1 at *
  generalize tSo b off l.length K4 A4 N2 = S2 at *
  generalize tSn l.length K4 A4 N2 = M2 at *
  generalize tA l.length K4 A4 N2 = A5 at *
  have n1 : ¬ R = H := hi.ne
  have n2 : ¬ H = R := fun h => n1 h.symm
  have HH := mkHid hh
  have HI := mkHid hi
  have HR := mkHid h
  clear h hh hi
  go_enter Tryd.func48, Tryd.ntmps48
  go_wp2_with fail
  refine (HC1.out _ HR.out HI.out.sl).mono ?_
  rintro e w2 ⟨rfl, g1, g2⟩
  have HD := mkHid (HH.out.other g2 n2)
  have f2 := HD.out.fr
  have d1 := HD.out.c1
  have HI2 := mkHid ((HI.out.only g2).set 1 (.int .i64 V))
  have HT2 := mkHid (((Two.refl R H w).only g2).setCell (p := ⟨H, 1, none⟩) rfl (.int .i64 V))
  have HR2 := mkHid (g1.setOther (p := ⟨H, 1, none⟩) n1 (.int .i64 V))
  have HD2 := mkHid (HD.out.set1 V)
  clear g1 g2 HD
  go_wp2_with fail
  refine (HC2.out _ HR2.out HI2.out.sl).mono ?_
  rintro e w3 ⟨rfl, g1, g2⟩
  have HD3 := mkHid (HD2.out.other g2 n2)
  have HI3 := mkHid (HI2.out.only g2)
  have HT3 := mkHid (HT2.out.only g2)
  have HR3 := mkHid g1
  clear g1 g2
  go_wp2_with fail
  refine (HC3.out _ HR3.out).mono ?_
  rintro e w4 ⟨rfl, g1, g2⟩
  have HD := mkHid (HD3.out.other g2 n2)
  have f4 := HD.out.fr
  have d2 := HD.out.c2
  have HI4 := mkHid ((HI3.out.only g2).set 2 (.slice S1 M1 M1))
  have HT4 := mkHid ((HT3.out.only g2).setCell (p := ⟨H, 2, none⟩) rfl (.slice S1 M1 M1))
  have HR4 := mkHid (g1.setOther (p := ⟨H, 2, none⟩) n1 (.slice S1 M1 M1))
  have HD4 := mkHid (HD.out.set2 (.slice S1 M1 M1))
  clear g1 g2 HD
  go_wp2_with fail
  refine (HC4.out _ HR4.out HI4.out.sl).mono ?_
  rintro e w5 ⟨rfl, g1, g2⟩
  have HD5 := mkHid (HD4.out.other g2 n2)
  have HI5 := mkHid (HI4.out.only g2)
  have HT5 := mkHid (HT4.out.only g2)
  have HR5 := mkHid g1
  clear g1 g2
  go_wp2_with fail
  refine (HC5.out _ HR5.out).mono ?_
  rintro e w6 ⟨rfl, g1, g2⟩
  have HD := mkHid (HD5.out.other g2 n2)
  have f6 := HD.out.fr
  have d3 := HD.out.c3
  have r6 := g1.c2
  have HT6 := mkHid ((HT5.out.only g2).setCell (p := ⟨H, 3, none⟩) rfl (.slice S2 M2 M2))
  have HR6 := mkHid (g1.setOther (p := ⟨H, 3, none⟩) n1 (.slice S2 M2 M2))
  have HD6 := mkHid (HD.out.set3 (.slice S2 M2 M2))
  clear g1 g2 HD
  go_wp2
  go_ret
  exact ⟨10, rfl, Done.no HT6.out HR6.out HD6.out (by decide) rfl⟩

set_option maxRecDepth 10000 in
theorem long_yes (R H b off cap : Nat) (l : List UInt8) (w : World) (hi : In w R H b off cap l) (h : Rd w R (.slice (some ⟨b, off, none⟩) l.length cap) 1 false)
    (hh : Hd w H 0 0 (.slice none 0 0) (.slice none 0 0) (.slice none 0 0) 0 false (.slice none 0 0) (bc zs)) (hp : 0 < l.length) (hl : l.length ≤ 140737488355327) (hc : l.length ≤ cap) (hcm : cap ≤ 9223372036854775807)
    (hv : num (sub l 1 4) = 0 → l.length ≤ 70368744177664) (n m : Nat) (hn : idN l = n) (hm : idM l = m) (ho : 7 + n + m ≤ l.length) :
    Calls Tryd.prog 48 #[.pointer (some ⟨R, 0, none⟩), .pointer (some ⟨H, 0, none⟩)] w fun e w' => ∃ E, e = .returned (.int .i64 E) ∧ Done w w' R H b off cap l E (if n ≤ 20 ∧ m ≤ 20 then pRest l (num (sub l 1 4) : Nat) (some (6, n)) (some (7 + n, m)) (7 + n + m : Nat) else none) := by
  obtain ⟨p1, p2, p3⟩ := g4_yes (l := l) (A := 1) (by omega)
  obtain ⟨q1, q2, q3⟩ := g1_yes (l := l) (A := 5) (by omega)
  obtain ⟨r1, r2, r3⟩ := g1_yes (l := l) (A := 6 + n) (by omega)
  have C1 := fun W (h : Rd W R (.slice (some ⟨b, off, none⟩) l.length cap) ((1 : Nat) : Int) false) (hs : Sl W (some ⟨b, off, none⟩) l) => number_rd R (some ⟨b, off, none⟩) l cap ((1 : Nat) : Int) 4 false W h hs (by omega) (by omega)
  have C2 := fun W (h : Rd W R (.slice (some ⟨b, off, none⟩) l.length cap) ((5 : Nat) : Int) false) (hs : Sl W (some ⟨b, off, none⟩) l) => number_rd R (some ⟨b, off, none⟩) l cap ((5 : Nat) : Int) 1 false W h hs (by omega) (by omega)
  have C3 := fun W (h : Rd W R (.slice (some ⟨b, off, none⟩) l.length cap) ((6 : Nat) : Int) false) => take_rd R b off l.length cap ((6 : Nat) : Int) (n : Int) false W h (by omega) (by omega) (by omega) hc hcm (by omega)
  have C4 := fun W (h : Rd W R (.slice (some ⟨b, off, none⟩) l.length cap) ((6 + n : Nat) : Int) false) (hs : Sl W (some ⟨b, off, none⟩) l) => number_rd R (some ⟨b, off, none⟩) l cap ((6 + n : Nat) : Int) 1 false W h hs (by omega) (by omega)
  have C5 := fun W (h : Rd W R (.slice (some ⟨b, off, none⟩) l.length cap) ((6 + n + 1 : Nat) : Int) false) => take_rd R b off l.length cap ((6 + n + 1 : Nat) : Int) (m : Int) false W h (by omega) (by omega) (by omega) hc hcm (by omega)
  obtain ⟨V, hV⟩ : ∃ V : Int, ((num (sub l 1 4) : Nat) : Int) = V := ⟨_, rfl⟩
  rw [p1, p2, p3, pV_yes, pA_yes, pL_yes, hV] at C1
  rw [q1, q2, q3, pV_yes, pA_yes, pL_yes, show (l.getD 5 0).toNat = n from hn] at C2
  have hm' : (l.getD (6 + n) 0).toNat = m := by rw [← hn]; exact hm
  rw [r1, r2, r3, pV_yes, pA_yes, pL_yes, hm'] at C4
  obtain ⟨S1, hS1⟩ : ∃ S, S = pvo b off (some (6, n)) := ⟨_, rfl⟩
  obtain ⟨S2, hS2⟩ : ∃ S, S = pvo b off (some (7 + n, m)) := ⟨_, rfl⟩
  have t1 := tS_yes (b := b) (off := off) (len := l.length) (a := ((6 : Nat) : Int)) (n := (n : Int)) (by omega) (by omega)
  have t2 := tS_yes (b := b) (off := off) (len := l.length) (a := ((6 + n + 1 : Nat) : Int)) (n := (m : Int)) (by omega) (by omega)
  rw [Int.toNat_natCast, Int.toNat_natCast] at t1 t2
  rw [show tA l.length false ((6 : Nat) : Int) (n : Int) = ((6 + n : Nat) : Int) from (if_pos ⟨rfl, by omega⟩).trans (by omega), show tL l.length false ((6 : Nat) : Int) (n : Int) = false by unfold tL tO; simp; omega, t1.1, t1.2, ← hS1] at C3
  rw [show tA l.length false ((6 + n + 1 : Nat) : Int) (m : Int) = ((7 + n + m : Nat) : Int) from (if_pos ⟨rfl, by omega⟩).trans (by omega), show tL l.length false ((6 + n + 1 : Nat) : Int) (m : Int) = false by unfold tL tO; simp; omega, t2.1, t2.2, show 6 + n + 1 = 7 + n by omega, ← hS2] at C5
  rw [show 6 + n + 1 = 7 + n by omega] at C4
  have HV := mkHid hV
  have HS1 := mkHid hS1
  have HS2 := mkHid hS2
  have HC1 := mkHid C1
  have HC2 := mkHid C2
  have HC3 := mkHid C3
  have HC4 := mkHid C4
  have HC5 := mkHid C5
  have Hv := mkHid hv
  have V0 : 0 ≤ V := by omega
  have HIDN := mkHid hn
  have HIDM := mkHid hm
  clear C1 C2 C3 C4 C5 p1 p2 p3 q1 q2 q3 r1 r2 r3 hm' t1 t2 hS1 hS2 hV hv hn hm
  have n1 : ¬ R = H := hi.ne
  have n2 : ¬ H = R := fun h => n1 h.symm
  have HH := mkHid hh
  have HI := mkHid hi
  have HR := mkHid h
  clear h hh hi
  obtain ⟨r, hr⟩ : ∃ r : Option PH, r = (if n ≤ 20 ∧ m ≤ 20 then pRest l (num (sub l 1 4) : Nat) (some (6, n)) (some (7 + n, m)) (7 + n + m : Nat) else none) := ⟨_, rfl⟩
  rw [← hr]
  have HRR := mkHid hr
  clear hr
  go_enter Tryd.func48, Tryd.ntmps48
  go_wp2_with fail
  refine (HC1.out _ HR.out HI.out.sl).mono ?_
  rintro e w2 ⟨rfl, g1, g2⟩
  have HD := mkHid (HH.out.other g2 n2)
  have f2 := HD.out.fr
  have d1 := HD.out.c1
  have HI2 := mkHid ((HI.out.only g2).set 1 (.int .i64 V))
  have HT2 := mkHid (((Two.refl R H w).only g2).setCell (p := ⟨H, 1, none⟩) rfl (.int .i64 V))
  have HR2 := mkHid (g1.setOther (p := ⟨H, 1, none⟩) n1 (.int .i64 V))
  have HD2 := mkHid (HD.out.set1 V)
  clear g1 g2 HD
  go_wp2_with fail
  refine (HC2.out _ HR2.out HI2.out.sl).mono ?_
  rintro e w3 ⟨rfl, g1, g2⟩
  have HD3 := mkHid (HD2.out.other g2 n2)
  have HI3 := mkHid (HI2.out.only g2)
  have HT3 := mkHid (HT2.out.only g2)
  have HR3 := mkHid g1
  clear g1 g2
  go_wp2_with fail
  refine (HC3.out _ HR3.out).mono ?_
  rintro e w4 ⟨rfl, g1, g2⟩
  have HD := mkHid (HD3.out.other g2 n2)
  have f4 := HD.out.fr
  have d2 := HD.out.c2
  have HI4 := mkHid ((HI3.out.only g2).set 2 (.slice S1 n n))
  have HT4 := mkHid ((HT3.out.only g2).setCell (p := ⟨H, 2, none⟩) rfl (.slice S1 n n))
  have HR4 := mkHid (g1.setOther (p := ⟨H, 2, none⟩) n1 (.slice S1 n n))
  have HD4 := mkHid (HD.out.set2 (.slice S1 n n))
  clear g1 g2 HD
  go_wp2_with fail
  refine (HC4.out _ HR4.out HI4.out.sl).mono ?_
  rintro e w5 ⟨rfl, g1, g2⟩
  have HD5 := mkHid (HD4.out.other g2 n2)
  have HI5 := mkHid (HI4.out.only g2)
  have HT5 := mkHid (HT4.out.only g2)
  have HR5 := mkHid g1
  clear g1 g2
  go_wp2_with fail
  refine (HC5.out _ HR5.out).mono ?_
  rintro e w6 ⟨rfl, g1, g2⟩
  have HD := mkHid (HD5.out.other g2 n2)
  have f6 := HD.out.fr
  have d30 := HD.out.c0
  have d31 := HD.out.c1
  have d32 := HD.out.c2
  have d33 := HD.out.c3
  have r6 := g1.c2
  have HI6 := mkHid ((HI5.out.only g2).set 3 (.slice S2 m m))
  have HT6 := mkHid ((HT5.out.only g2).setCell (p := ⟨H, 3, none⟩) rfl (.slice S2 m m))
  have HR6 := mkHid (g1.setOther (p := ⟨H, 3, none⟩) n1 (.slice S2 m m))
  have HD6 := mkHid (HD.out.set3 (.slice S2 m m))
  clear g1 g2 HD HD2 HD3 HD4 HD5 HI HI2 HI3 HI4 HI5 HT2 HT3 HT4 HT5 HR HR2 HR3 HR4 HR5 HC1 HC2 HC3 HC4 HC5 HH
  by_cases hn20 : n ≤ 20
  · by_cases hm20 : m ≤ 20
    · have hr' : Hid (r = pRest l V (some (6, n)) (some (7 + n, m)) (7 + n + m : Nat)) := by rw [← HV.out]; exact HRR.out.trans (if_pos ⟨hn20, hm20⟩)
      by_cases hV0 : V = 0
      · subst hV0
        have hvl : l.length ≤ 70368744177664 := Hv.out (by have := HV.out; omega)
        have HD7 : Hid (Hd ((w6.setCell ⟨H, 3, none⟩ (.slice S2 m m)).setCell ⟨H, 0, none⟩ (.int .i64 4)) H 4 0 (pv b off (some (6, n))) (pv b off (some (7 + n, m))) (.slice none 0 0) 0 false (.slice none 0 0) (bc zs)) := by
          exact Hd_pv (HD6.out.set0 4) ⟨HS1.out, rfl⟩ ⟨HS2.out, rfl⟩
        go_wp2_with fail
        refine (versions_rd R H b off cap l (7 + n + m) (some (6, n)) (some (7 + n, m)) _ (HI6.out.set 0 _) (HR6.out.setOther n1 _) HD7.out ho hp hvl hc hcm).mono ?_
        rintro e w' ⟨E, rfl, g⟩
        have HG := mkHid g
        clear g
        go_wp2
        go_ret
        refine ⟨E, rfl, ?_⟩
        rw [hr'.out]
        exact HG.out.before (HT6.out.setCell rfl _)
      · by_cases hV1 : V = 1
        · subst hV1
          have HD7 : Hid (Hd (w6.setCell ⟨H, 3, none⟩ (.slice S2 m m)) H 0 1 (pv b off (some (6, n))) (pv b off (some (7 + n, m))) (.slice none 0 0) 0 false (.slice none 0 0) (bc zs)) := by
            exact Hd_pv HD6.out ⟨HS1.out, rfl⟩ ⟨HS2.out, rfl⟩
          go_wp2_with fail
          refine (spoken_rd R H b off cap l (7 + n + m : Nat) (some (6, n)) (some (7 + n, m)) _ HI6.out HR6.out HD7.out (by omega) (by omega) hp hl hc hcm).mono ?_
          rintro e w' ⟨E, rfl, g⟩
          have HG := mkHid g
          clear g
          go_wp2
          go_ret
          refine ⟨E, rfl, ?_⟩
          rw [hr'.out]
          exact HG.out.before HT6.out
        · have hb0 : (V == 0) = false := by simp [hV0]
          have hb1 : (V == 1) = false := by simp [hV1]
          go_wp2
          go_ret
          refine ⟨0, rfl, Done.yes (p := ⟨6, V, some (6, n), some (7 + n, m), none, 0, false, [], zs, (7 + n + m : Nat)⟩) (HT6.out.setCell rfl _) (hr'.out.trans ((if_neg hV0).trans (if_neg hV1))) (HR6.out.setOther n1 _) (HdP_of (HD6.out.set0 6) ⟨HS1.out, rfl⟩ ⟨HS2.out, rfl⟩ ⟨rfl, rfl⟩) (.inl ⟨rfl, rfl⟩)⟩
    · have hr' : Hid (r = none) := HRR.out.trans (if_neg (fun h => hm20 h.2))
      go_wp2
      go_ret
      exact ⟨11, rfl, Done.no HT6.out HR6.out HD6.out (by decide) hr'.out⟩
  · have hr' : Hid (r = none) := HRR.out.trans (if_neg (fun h => hn20 h.1))
    go_wp2
    go_ret
    exact ⟨11, rfl, Done.no HT6.out HR6.out HD6.out (by decide) hr'.out⟩

theorem long_rd (R H b off cap : Nat) (l : List UInt8) (w : World) (hi : In w R H b off cap l) (h : Rd w R (.slice (some ⟨b, off, none⟩) l.length cap) 1 false)
    (hh : Hd w H 0 0 (.slice none 0 0) (.slice none 0 0) (.slice none 0 0) 0 false (.slice none 0 0) (bc zs)) (hp : 0 < l.length) (hl : l.length ≤ 140737488355327) (hc : l.length ≤ cap) (hcm : cap ≤ 9223372036854775807)
    (hv : num (sub l 1 4) = 0 → l.length ≤ 70368744177664) :
    Calls Tryd.prog 48 #[.pointer (some ⟨R, 0, none⟩), .pointer (some ⟨H, 0, none⟩)] w fun e w' => ∃ E, e = .returned (.int .i64 E) ∧ Done w w' R H b off cap l E (pLong l) := by
  by_cases ho : idOk l
  · have e : pLong l = if idN l ≤ 20 ∧ idM l ≤ 20 then pRest l (num (sub l 1 4) : Nat) (some (6, idN l)) (some (7 + idN l, idM l)) (7 + idN l + idM l : Nat) else none := by
      unfold pLong
      by_cases h : idN l ≤ 20 ∧ idM l ≤ 20
      · rw [if_pos ⟨ho, h⟩, if_pos h]
      · rw [if_neg (fun k => h k.2), if_neg h]
    rw [e]
    exact long_yes R H b off cap l w hi h hh hp hl hc hcm hv _ _ rfl rfl ho.2
  · rw [show pLong l = none from if_neg (fun k => ho k.1)]
    exact long_no R H b off cap l w hi h hh hp hl hc hcm ho
end Go.Proofs.YtlllejgpmdeeiaaDoor
