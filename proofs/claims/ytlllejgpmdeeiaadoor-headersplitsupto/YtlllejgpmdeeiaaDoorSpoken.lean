/- What header.reader's spoken answers: a contract. -/
import Derived.Test.YtlllejgpmdeeiaaDoorRetry
namespace Go.Proofs.YtlllejgpmdeeiaaDoor
open Go.ChangeShapes Go.WideShapes Go.ChangeAt Go.RowKit
set_option linter.unusedVariables false

theorem kind3 (x : Nat) (h : x < 256) : bits BinOp.and IntKind.i64 ((x : Int) / 16) 3 = ((x / 16 % 4 : Nat) : Int) := by
  have : ∀ y : Fin 256, bits BinOp.and IntKind.i64 ((y.val : Int) / 16) 3 = ((y.val / 16 % 4 : Nat) : Int) := by decide +kernel
  exact this ⟨x, h⟩
theorem pV_no {v e : Int} {lk : Bool} (h : e ≠ 0) : pV lk v e = 0 := if_pos (.inr h)
theorem pV_yes {v : Int} : pV false v 0 = v := if_neg (by simp)
theorem pA_no {a n e : Int} {lk : Bool} (h : e ≠ 0) : pA lk a n e = a := if_pos (.inr h)
theorem pA_yes {a n : Int} : pA false a n 0 = n := if_neg (by simp)
theorem pL_no {e : Int} {lk : Bool} (h : e ≠ 0) : pL lk e = true := by unfold pL; simp [h]
theorem pL_yes : pL false 0 = false := by decide
theorem pL_false {lk : Bool} {e : Int} (h : pL lk e = false) : lk = false ∧ e = 0 := by unfold pL at h; simpa using h

set_option maxRecDepth 10000 in
theorem spoken_form (R H b off cap : Nat) (l : List UInt8) (a : Int) (d s : Option (Nat × Nat)) (w : World) (hi : In w R H b off cap l) (h : Rd w R (.slice (some ⟨b, off, none⟩) l.length cap) a false)
    (hh : Hd w H 0 1 (pv b off d) (pv b off s) (.slice none 0 0) 0 false (.slice none 0 0) (bc zs)) (h0 : 0 ≤ a) (h1 : a ≤ l.length) (hp : 0 < l.length) (hl : l.length ≤ 140737488355327) (hc : l.length ≤ cap) (hcm : cap ≤ 9223372036854775807) (hq : fb l / 64 % 2 = 0) :
    Calls Tryd.prog 57 #[.pointer (some ⟨R, 0, none⟩), .pointer (some ⟨H, 0, none⟩)] w fun e w' => ∃ E, e = .returned (.int .i64 E) ∧ Done w w' R H b off cap l E (none) := by
  have c0 := h.c0
  have HR := mkHid h
  have HH := mkHid hh
  have HI := mkHid hi
  obtain ⟨b', off', he, hx⟩ := hi.sl 0 hp
  simp only [Option.some.injEq, Addr.mk.injEq, and_true] at he
  obtain ⟨rfl, rfl⟩ := he
  obtain ⟨x, hxx⟩ : ∃ x : Nat, fb l = x := ⟨_, rfl⟩
  have hx8 : x < 256 := by rw [← hxx]; exact fb_lt l
  rw [show l[0].toNat = x by rw [← hxx]; unfold fb; simp [List.getD, hp], Nat.add_zero] at hx
  have e64 := and64 x hx8
  have e3 := kind3 x hx8
  have f := hh.fr
  have d0 := hh.c0
  have n1 : ¬ R = H := hi.ne
  have n2 : ¬ H = R := fun h => n1 h.symm
  have n3 : ¬ b = H := hi.bH
  have n4 : ¬ H = b := fun h => n3 h.symm
  clear h hh hi
  rw [hxx] at hq
  rw [hq] at e64
  have HX := mkHid hxx
  clear hxx e3
  go_enter Tryd.func57, Tryd.ntmps57
  go_wp2
  go_ret
  exact ⟨11, rfl, Done.no (Two.refl _ _ _) HR.out HH.out (by decide) rfl⟩

set_option maxRecDepth 10000 in
theorem spoken_3 (R H b off cap : Nat) (l : List UInt8) (a : Int) (d s : Option (Nat × Nat)) (w : World) (hi : In w R H b off cap l) (h : Rd w R (.slice (some ⟨b, off, none⟩) l.length cap) a false)
    (hh : Hd w H 0 1 (pv b off d) (pv b off s) (.slice none 0 0) 0 false (.slice none 0 0) (bc zs)) (h0 : 0 ≤ a) (h1 : a ≤ l.length) (hp : 0 < l.length) (hl : l.length ≤ 140737488355327) (hc : l.length ≤ cap) (hcm : cap ≤ 9223372036854775807) (hq : fb l / 64 % 2 = 1) (hk : kd l = 3) :
    Calls Tryd.prog 57 #[.pointer (some ⟨R, 0, none⟩), .pointer (some ⟨H, 0, none⟩)] w fun e w' => ∃ E, e = .returned (.int .i64 E) ∧ Done w w' R H b off cap l E (pRetry l d s a) := by
  have c0 := h.c0
  have HR := mkHid h
  have HH := mkHid hh
  have HI := mkHid hi
  obtain ⟨b', off', he, hx⟩ := hi.sl 0 hp
  simp only [Option.some.injEq, Addr.mk.injEq, and_true] at he
  obtain ⟨rfl, rfl⟩ := he
  obtain ⟨x, hxx⟩ : ∃ x : Nat, fb l = x := ⟨_, rfl⟩
  have hx8 : x < 256 := by rw [← hxx]; exact fb_lt l
  rw [show l[0].toNat = x by rw [← hxx]; unfold fb; simp [List.getD, hp], Nat.add_zero] at hx
  have e64 := and64 x hx8
  have e3 := kind3 x hx8
  have f := hh.fr
  have d0 := hh.c0
  have n1 : ¬ R = H := hi.ne
  have n2 : ¬ H = R := fun h => n1 h.symm
  have n3 : ¬ b = H := hi.bH
  have n4 : ¬ H = b := fun h => n3 h.symm
  clear h hh hi
  unfold kd at hk
  rw [hxx] at hq hk
  rw [hq] at e64
  rw [hk] at e3
  have HX := mkHid hxx
  clear hxx hq hk
  go_enter Tryd.func57, Tryd.ntmps57
  go_wp2_with fail
  refine (retry_rd R H b off cap l a d s _ (HI.out.set 0 _) (HR.out.setOther n1 _) (HH.out.set0 3) h0 h1 hl hc hcm).mono ?_
  rintro e w' ⟨E, rfl, g⟩
  have HG := mkHid g
  clear g
  go_wp2
  go_ret
  exact ⟨E, rfl, HG.out.before ((Two.refl R H w).setCell rfl _)⟩


set_option maxRecDepth 10000 in
theorem spoken_1 (R H b off cap : Nat) (l : List UInt8) (a : Int) (d s : Option (Nat × Nat)) (w : World) (hi : In w R H b off cap l) (h : Rd w R (.slice (some ⟨b, off, none⟩) l.length cap) a false)
    (hh : Hd w H 0 1 (pv b off d) (pv b off s) (.slice none 0 0) 0 false (.slice none 0 0) (bc zs)) (h0 : 0 ≤ a) (h1 : a ≤ l.length) (hp : 0 < l.length) (hl : l.length ≤ 140737488355327) (hc : l.length ≤ cap) (hcm : cap ≤ 9223372036854775807) (hq : fb l / 64 % 2 = 1) (hk : kd l = 1) :
    Calls Tryd.prog 57 #[.pointer (some ⟨R, 0, none⟩), .pointer (some ⟨H, 0, none⟩)] w fun e w' => ∃ E, e = .returned (.int .i64 E) ∧ Done w w' R H b off cap l E (pLen l 1 d s none a) := by
  have c0 := h.c0
  have HR := mkHid h
  have HH := mkHid hh
  have HI := mkHid hi
  obtain ⟨b', off', he, hx⟩ := hi.sl 0 hp
  simp only [Option.some.injEq, Addr.mk.injEq, and_true] at he
  obtain ⟨rfl, rfl⟩ := he
  obtain ⟨x, hxx⟩ : ∃ x : Nat, fb l = x := ⟨_, rfl⟩
  have hx8 : x < 256 := by rw [← hxx]; exact fb_lt l
  rw [show l[0].toNat = x by rw [← hxx]; unfold fb; simp [List.getD, hp], Nat.add_zero] at hx
  have e64 := and64 x hx8
  have e3 := kind3 x hx8
  have f := hh.fr
  have d0 := hh.c0
  have n1 : ¬ R = H := hi.ne
  have n2 : ¬ H = R := fun h => n1 h.symm
  have n3 : ¬ b = H := hi.bH
  have n4 : ¬ H = b := fun h => n3 h.symm
  clear h hh hi
  unfold kd at hk
  rw [hxx] at hq hk
  rw [hq] at e64
  rw [hk] at e3
  have HX := mkHid hxx
  clear hxx hq hk
  obtain ⟨vb1, vb2, vb3⟩ := v_bounds l a
  have C1 := fun W (h : Rd W R (.slice (some ⟨b, off, none⟩) l.length cap) a false) (hs : Sl W (some ⟨b, off, none⟩) l) (ht : Tb W) => variable_rd R (some ⟨b, off, none⟩) l cap a false W h hs ht (by omega)
  by_cases hE : vE l a = 0
  · obtain ⟨k1, k2, k3⟩ := vb3 hE
    rw [hE, pV_yes, pA_yes, pL_yes] at C1
    have HC1 := mkHid C1
    have hr : Hid (pLen l 1 d s none a = if vN l a + vV l a ≤ l.length then some ⟨1, 1, d, s, none, vV l a, false, [], zs, vN l a⟩ else none) := by
      unfold Hid pLen
      by_cases hf : vN l a + vV l a ≤ l.length
      · rw [if_pos hf, if_pos ⟨hE, hf⟩]
      · rw [if_neg hf, if_neg (fun h => hf h.2)]
    clear C1 hE vb3
    generalize vV l a = V at *
    generalize vN l a = N at *
    go_enter Tryd.func57, Tryd.ntmps57
    go_wp2_with fail
    refine (HC1.out _ (HR.out.setOther n1 _) (HI.out.set 0 _).sl (HI.out.set 0 _).tb).mono ?_
    rintro e w2 ⟨rfl, g1, g2⟩
    have HD := mkHid ((HH.out.set0 1).other g2 n2)
    have f2 := HD.out.fr
    have d5 := HD.out.c5
    have d4 := HD.out.c4
    have r2 := g1.c2
    have HR2 := mkHid (g1.setOther (p := ⟨H, 5, none⟩) n1 (.int .i64 V))
    have HT2 := mkHid ((((Two.refl R H w).setCell (p := ⟨H, 0, none⟩) rfl (.int .i64 1)).only g2).setCell (p := ⟨H, 5, none⟩) rfl (.int .i64 V))
    have HD2 := mkHid (HD.out.set5 V)
    clear g1 g2
    go_wp2
    go_quiet ((go_at_call 59; refine Calls.quiet_of (left_any R _ l.length cap N false _ (HR2.out.drewN _) (by omega) (by omega) (by omega))))
    by_cases hf : N + V ≤ l.length
    · go_wp2
      go_ret
      refine ⟨0, rfl, Done.yes (HT2.out.drewN _) (hr.out.trans (if_pos hf)) (lk := false) (HR2.out.drewN _) (HdP_of (HD2.out.drewN _) ⟨rfl, rfl⟩ ⟨rfl, rfl⟩ ⟨rfl, rfl⟩) (.inl ⟨rfl, rfl⟩)⟩
    · go_wp2
      go_ret
      exact ⟨10, rfl, Done.no (HT2.out.drewN _) (HR2.out.drewN _) (HD2.out.drewN _) (by decide) (hr.out.trans (if_neg (by omega)))⟩
  · rw [pV_no hE, pA_no hE, pL_no hE] at C1
    have HC1 := mkHid C1
    have hr : Hid (pLen l 1 d s none a = none) := if_neg (fun h => hE h.1)
    clear C1 hE vb3 vb1 vb2
    go_enter Tryd.func57, Tryd.ntmps57
    go_wp2_with fail
    refine (HC1.out _ (HR.out.setOther n1 _) (HI.out.set 0 _).sl (HI.out.set 0 _).tb).mono ?_
    rintro e w2 ⟨rfl, g1, g2⟩
    have HD := mkHid ((HH.out.set0 1).other g2 n2)
    have f2 := HD.out.fr
    have d5 := HD.out.c5
    have r2 := g1.c2
    have HR2 := mkHid (g1.setOther (p := ⟨H, 5, none⟩) n1 (.int .i64 0))
    have HT2 := mkHid ((((Two.refl R H w).setCell (p := ⟨H, 0, none⟩) rfl (.int .i64 1)).only g2).setCell (p := ⟨H, 5, none⟩) rfl (.int .i64 0))
    have HD2 := mkHid (HD.out.set5 0)
    clear g1 g2
    go_wp2
    go_ret
    exact ⟨10, rfl, Done.no HT2.out HR2.out HD2.out (by decide) hr.out⟩


set_option maxRecDepth 10000 in
theorem spoken_2 (R H b off cap : Nat) (l : List UInt8) (a : Int) (d s : Option (Nat × Nat)) (w : World) (hi : In w R H b off cap l) (h : Rd w R (.slice (some ⟨b, off, none⟩) l.length cap) a false)
    (hh : Hd w H 0 1 (pv b off d) (pv b off s) (.slice none 0 0) 0 false (.slice none 0 0) (bc zs)) (h0 : 0 ≤ a) (h1 : a ≤ l.length) (hp : 0 < l.length) (hl : l.length ≤ 140737488355327) (hc : l.length ≤ cap) (hcm : cap ≤ 9223372036854775807) (hq : fb l / 64 % 2 = 1) (hk : kd l = 2) :
    Calls Tryd.prog 57 #[.pointer (some ⟨R, 0, none⟩), .pointer (some ⟨H, 0, none⟩)] w fun e w' => ∃ E, e = .returned (.int .i64 E) ∧ Done w w' R H b off cap l E (pLen l 2 d s none a) := by
  have c0 := h.c0
  have HR := mkHid h
  have HH := mkHid hh
  have HI := mkHid hi
  obtain ⟨b', off', he, hx⟩ := hi.sl 0 hp
  simp only [Option.some.injEq, Addr.mk.injEq, and_true] at he
  obtain ⟨rfl, rfl⟩ := he
  obtain ⟨x, hxx⟩ : ∃ x : Nat, fb l = x := ⟨_, rfl⟩
  have hx8 : x < 256 := by rw [← hxx]; exact fb_lt l
  rw [show l[0].toNat = x by rw [← hxx]; unfold fb; simp [List.getD, hp], Nat.add_zero] at hx
  have e64 := and64 x hx8
  have e3 := kind3 x hx8
  have f := hh.fr
  have d0 := hh.c0
  have n1 : ¬ R = H := hi.ne
  have n2 : ¬ H = R := fun h => n1 h.symm
  have n3 : ¬ b = H := hi.bH
  have n4 : ¬ H = b := fun h => n3 h.symm
  clear h hh hi
  unfold kd at hk
  rw [hxx] at hq hk
  rw [hq] at e64
  rw [hk] at e3
  have HX := mkHid hxx
  clear hxx hq hk
  obtain ⟨vb1, vb2, vb3⟩ := v_bounds l a
  have C1 := fun W (h : Rd W R (.slice (some ⟨b, off, none⟩) l.length cap) a false) (hs : Sl W (some ⟨b, off, none⟩) l) (ht : Tb W) => variable_rd R (some ⟨b, off, none⟩) l cap a false W h hs ht (by omega)
  by_cases hE : vE l a = 0
  · obtain ⟨k1, k2, k3⟩ := vb3 hE
    rw [hE, pV_yes, pA_yes, pL_yes] at C1
    have HC1 := mkHid C1
    have hr : Hid (pLen l 2 d s none a = if vN l a + vV l a ≤ l.length then some ⟨2, 1, d, s, none, vV l a, false, [], zs, vN l a⟩ else none) := by
      unfold Hid pLen
      by_cases hf : vN l a + vV l a ≤ l.length
      · rw [if_pos hf, if_pos ⟨hE, hf⟩]
      · rw [if_neg hf, if_neg (fun h => hf h.2)]
    clear C1 hE vb3
    generalize vV l a = V at *
    generalize vN l a = N at *
    go_enter Tryd.func57, Tryd.ntmps57
    go_wp2_with fail
    refine (HC1.out _ (HR.out.setOther n1 _) (HI.out.set 0 _).sl (HI.out.set 0 _).tb).mono ?_
    rintro e w2 ⟨rfl, g1, g2⟩
    have HD := mkHid ((HH.out.set0 2).other g2 n2)
    have f2 := HD.out.fr
    have d5 := HD.out.c5
    have d4 := HD.out.c4
    have r2 := g1.c2
    have HR2 := mkHid (g1.setOther (p := ⟨H, 5, none⟩) n1 (.int .i64 V))
    have HT2 := mkHid ((((Two.refl R H w).setCell (p := ⟨H, 0, none⟩) rfl (.int .i64 2)).only g2).setCell (p := ⟨H, 5, none⟩) rfl (.int .i64 V))
    have HD2 := mkHid (HD.out.set5 V)
    clear g1 g2
    go_wp2
    go_quiet ((go_at_call 59; refine Calls.quiet_of (left_any R _ l.length cap N false _ (HR2.out.drewN _) (by omega) (by omega) (by omega))))
    by_cases hf : N + V ≤ l.length
    · go_wp2
      go_ret
      refine ⟨0, rfl, Done.yes (HT2.out.drewN _) (hr.out.trans (if_pos hf)) (lk := false) (HR2.out.drewN _) (HdP_of (HD2.out.drewN _) ⟨rfl, rfl⟩ ⟨rfl, rfl⟩ ⟨rfl, rfl⟩) (.inl ⟨rfl, rfl⟩)⟩
    · go_wp2
      go_ret
      exact ⟨10, rfl, Done.no (HT2.out.drewN _) (HR2.out.drewN _) (HD2.out.drewN _) (by decide) (hr.out.trans (if_neg (by omega)))⟩
  · rw [pV_no hE, pA_no hE, pL_no hE] at C1
    have HC1 := mkHid C1
    have hr : Hid (pLen l 2 d s none a = none) := if_neg (fun h => hE h.1)
    clear C1 hE vb3 vb1 vb2
    go_enter Tryd.func57, Tryd.ntmps57
    go_wp2_with fail
    refine (HC1.out _ (HR.out.setOther n1 _) (HI.out.set 0 _).sl (HI.out.set 0 _).tb).mono ?_
    rintro e w2 ⟨rfl, g1, g2⟩
    have HD := mkHid ((HH.out.set0 2).other g2 n2)
    have f2 := HD.out.fr
    have d5 := HD.out.c5
    have r2 := g1.c2
    have HR2 := mkHid (g1.setOther (p := ⟨H, 5, none⟩) n1 (.int .i64 0))
    have HT2 := mkHid ((((Two.refl R H w).setCell (p := ⟨H, 0, none⟩) rfl (.int .i64 2)).only g2).setCell (p := ⟨H, 5, none⟩) rfl (.int .i64 0))
    have HD2 := mkHid (HD.out.set5 0)
    clear g1 g2
    go_wp2
    go_ret
    exact ⟨10, rfl, Done.no HT2.out HR2.out HD2.out (by decide) hr.out⟩


set_option maxRecDepth 10000 in
theorem spoken_0no (R H b off cap : Nat) (l : List UInt8) (a : Int) (d s : Option (Nat × Nat)) (w : World) (hi : In w R H b off cap l) (h : Rd w R (.slice (some ⟨b, off, none⟩) l.length cap) a false)
    (hh : Hd w H 0 1 (pv b off d) (pv b off s) (.slice none 0 0) 0 false (.slice none 0 0) (bc zs)) (h0 : 0 ≤ a) (h1 : a ≤ l.length) (hp : 0 < l.length) (hl : l.length ≤ 140737488355327) (hc : l.length ≤ cap) (hcm : cap ≤ 9223372036854775807) (hq : fb l / 64 % 2 = 1) (hk : kd l = 0) (n1' a1 n2' a2 a3 : Int) (k1 k2 : Bool)
    (e1 : pV false (vV l a) (vE l a) = n1') (e2 : pA false a (vN l a) (vE l a) = a1) (e3' : pL false (vE l a) = k1) (e4 : tA l.length k1 a1 n1' = a2) (e5 : tL l.length k1 a1 n1' = k2)
    (e6 : pV k2 (vV l a2) (vE l a2) = n2') (e7 : pA k2 a2 (vN l a2) (vE l a2) = a3) (e8 : pL k2 (vE l a2) = true) (b1 : 0 ≤ n1') (b2 : 0 ≤ a1) (b3 : a1 ≤ l.length) (b4 : 0 ≤ a2) (b5 : a2 ≤ l.length) :
    Calls Tryd.prog 57 #[.pointer (some ⟨R, 0, none⟩), .pointer (some ⟨H, 0, none⟩)] w fun e w' => ∃ E, e = .returned (.int .i64 E) ∧ Done w w' R H b off cap l E (none) := by
  have c0 := h.c0
  have HR := mkHid h
  have HH := mkHid hh
  have HI := mkHid hi
  obtain ⟨b', off', he, hx⟩ := hi.sl 0 hp
  simp only [Option.some.injEq, Addr.mk.injEq, and_true] at he
  obtain ⟨rfl, rfl⟩ := he
  obtain ⟨x, hxx⟩ : ∃ x : Nat, fb l = x := ⟨_, rfl⟩
  have hx8 : x < 256 := by rw [← hxx]; exact fb_lt l
  rw [show l[0].toNat = x by rw [← hxx]; unfold fb; simp [List.getD, hp], Nat.add_zero] at hx
  have e64 := and64 x hx8
  have e3 := kind3 x hx8
  have f := hh.fr
  have d0 := hh.c0
  have n1 : ¬ R = H := hi.ne
  have n2 : ¬ H = R := fun h => n1 h.symm
  have n3 : ¬ b = H := hi.bH
  have n4 : ¬ H = b := fun h => n3 h.symm
  clear h hh hi
  unfold kd at hk
  rw [hxx] at hq hk
  rw [hq] at e64
  rw [hk] at e3
  have HX := mkHid hxx
  clear hxx hq hk
  have C1 := fun W (h : Rd W R (.slice (some ⟨b, off, none⟩) l.length cap) a false) (hs : Sl W (some ⟨b, off, none⟩) l) (ht : Tb W) => variable_rd R (some ⟨b, off, none⟩) l cap a false W h hs ht (by omega)
  have C2 := fun W (h : Rd W R (.slice (some ⟨b, off, none⟩) l.length cap) a1 k1) => take_rd R b off l.length cap a1 n1' k1 W h b2 b3 b1 hc hcm (by omega)
  have C3 := fun W (h : Rd W R (.slice (some ⟨b, off, none⟩) l.length cap) a2 k2) (hs : Sl W (some ⟨b, off, none⟩) l) (ht : Tb W) => variable_rd R (some ⟨b, off, none⟩) l cap a2 k2 W h hs ht (by omega)
  rw [e1, e2, e3'] at C1
  rw [e4, e5] at C2
  rw [e6, e7, e8] at C3
  have HC1 := mkHid C1
  have HC2 := mkHid C2
  have HC3 := mkHid C3
  clear C1 C2 C3 e1 e2 e3' e4 e5 e6 e7 e8
  generalize tSo b off l.length k1 a1 n1' = S at *
  generalize tSn l.length k1 a1 n1' = SN at *
  go_enter Tryd.func57, Tryd.ntmps57
  go_wp2_with fail
  refine (HC1.out _ (HR.out.setOther n1 _) (HI.out.set 0 _).sl (HI.out.set 0 _).tb).mono ?_
  rintro e w2 ⟨rfl, g1, g2⟩
  have HD := mkHid ((HH.out.set0 0).other g2 n2)
  have HI2 := mkHid ((HI.out.set 0 (.int .i64 0)).only g2)
  have HT2 := mkHid (((Two.refl R H w).setCell (p := ⟨H, 0, none⟩) rfl (.int .i64 0)).only g2)
  have HG1 := mkHid g1
  clear g1 g2
  go_wp2_with fail
  refine (HC2.out _ HG1.out).mono ?_
  rintro e w3 ⟨rfl, g1, g2⟩
  have HD3 := mkHid (HD.out.other g2 n2)
  have f3 := HD3.out.fr
  have d4 := HD3.out.c4
  have HI3 := mkHid ((HI2.out.only g2).set 4 (.slice S SN SN))
  have HT3 := mkHid ((HT2.out.only g2).setCell (p := ⟨H, 4, none⟩) rfl (.slice S SN SN))
  have HG3 := mkHid (g1.setOther (p := ⟨H, 4, none⟩) n1 (.slice S SN SN))
  have HD3' := mkHid (HD3.out.set4 (.slice S SN SN))
  clear g1 g2
  go_wp2_with fail
  refine (HC3.out _ HG3.out HI3.out.sl HI3.out.tb).mono ?_
  rintro e w4 ⟨rfl, g1, g2⟩
  have HD4 := mkHid (HD3'.out.other g2 n2)
  have f4 := HD4.out.fr
  have d5 := HD4.out.c5
  have r4 := g1.c2
  have HT4 := mkHid ((HT3.out.only g2).setCell (p := ⟨H, 5, none⟩) rfl (.int .i64 n2'))
  have HR4 := mkHid (g1.setOther (p := ⟨H, 5, none⟩) n1 (.int .i64 n2'))
  have HD4' := mkHid (HD4.out.set5 n2')
  clear g1 g2
  go_wp2
  go_ret
  exact ⟨10, rfl, Done.no HT4.out HR4.out HD4'.out (by decide) rfl⟩

set_option maxRecDepth 10000 in
theorem spoken_0yes (R H b off cap : Nat) (l : List UInt8) (a : Int) (d s : Option (Nat × Nat)) (w : World) (hi : In w R H b off cap l) (h : Rd w R (.slice (some ⟨b, off, none⟩) l.length cap) a false)
    (hh : Hd w H 0 1 (pv b off d) (pv b off s) (.slice none 0 0) 0 false (.slice none 0 0) (bc zs)) (h0 : 0 ≤ a) (h1 : a ≤ l.length) (hp : 0 < l.length) (hl : l.length ≤ 140737488355327) (hc : l.length ≤ cap) (hcm : cap ≤ 9223372036854775807) (hq : fb l / 64 % 2 = 1) (hk : kd l = 0) (TN : Nat) (N V2 N2 : Int)
    (e1 : vV l a = TN) (e2 : vN l a = N) (e3' : vE l a = 0) (b1 : 0 ≤ N) (b2 : N + TN ≤ l.length) (e4 : vE l (N + TN) = 0) (e5 : vV l (N + TN) = V2) (e6 : vN l (N + TN) = N2) (b3 : 0 ≤ V2) (b4 : V2 ≤ 4611686018427387903) (b5 : 0 ≤ N2) (b6 : N2 ≤ l.length) (r : Option PH) (hr : r = if TN ≤ 512 ∧ N2 + V2 ≤ l.length then some ⟨0, 1, d, s, some (N.toNat, TN), V2, false, [], zs, N2⟩ else none) :
    Calls Tryd.prog 57 #[.pointer (some ⟨R, 0, none⟩), .pointer (some ⟨H, 0, none⟩)] w fun e w' => ∃ E, e = .returned (.int .i64 E) ∧ Done w w' R H b off cap l E r := by
  have HRR := mkHid hr
  clear hr
  have c0 := h.c0
  have HR := mkHid h
  have HH := mkHid hh
  have HI := mkHid hi
  obtain ⟨b', off', he, hx⟩ := hi.sl 0 hp
  simp only [Option.some.injEq, Addr.mk.injEq, and_true] at he
  obtain ⟨rfl, rfl⟩ := he
  obtain ⟨x, hxx⟩ : ∃ x : Nat, fb l = x := ⟨_, rfl⟩
  have hx8 : x < 256 := by rw [← hxx]; exact fb_lt l
  rw [show l[0].toNat = x by rw [← hxx]; unfold fb; simp [List.getD, hp], Nat.add_zero] at hx
  have e64 := and64 x hx8
  have e3 := kind3 x hx8
  have f := hh.fr
  have d0 := hh.c0
  have n1 : ¬ R = H := hi.ne
  have n2 : ¬ H = R := fun h => n1 h.symm
  have n3 : ¬ b = H := hi.bH
  have n4 : ¬ H = b := fun h => n3 h.symm
  clear h hh hi
  unfold kd at hk
  rw [hxx] at hq hk
  rw [hq] at e64
  rw [hk] at e3
  have HX := mkHid hxx
  clear hxx hq hk
  have C1 := fun W (h : Rd W R (.slice (some ⟨b, off, none⟩) l.length cap) a false) (hs : Sl W (some ⟨b, off, none⟩) l) (ht : Tb W) => variable_rd R (some ⟨b, off, none⟩) l cap a false W h hs ht (by omega)
  have C2 := fun W (h : Rd W R (.slice (some ⟨b, off, none⟩) l.length cap) N false) => take_rd R b off l.length cap N TN false W h b1 (by omega) (by omega) hc hcm (by omega)
  have C3 := fun W (h : Rd W R (.slice (some ⟨b, off, none⟩) l.length cap) (N + TN) false) (hs : Sl W (some ⟨b, off, none⟩) l) (ht : Tb W) => variable_rd R (some ⟨b, off, none⟩) l cap (N + TN) false W h hs ht (by omega)
  rw [e1, e2, e3', pV_yes, pA_yes, pL_yes] at C1
  have ts := tS_yes (b := b) (off := off) (len := l.length) (a := N) (n := TN) (by omega) (by omega)
  rw [Int.toNat_natCast] at ts
  obtain ⟨S, hS⟩ : ∃ S, S = pvo b off (some (N.toNat, TN)) := ⟨_, rfl⟩
  rw [show tA l.length false N TN = N + TN from if_pos ⟨rfl, by omega⟩, show tL l.length false N TN = false by unfold tL tO; simp; omega, ts.1, ts.2, ← hS] at C2
  rw [e4, e5, e6, pV_yes, pA_yes, pL_yes] at C3
  have HC1 := mkHid C1
  have HC2 := mkHid C2
  have HC3 := mkHid C3
  have HS := mkHid hS
  clear C1 C2 C3 e1 e2 e3' e4 e5 e6 ts hS
  go_enter Tryd.func57, Tryd.ntmps57
  go_wp2_with fail
  refine (HC1.out _ (HR.out.setOther n1 _) (HI.out.set 0 _).sl (HI.out.set 0 _).tb).mono ?_
  rintro e w2 ⟨rfl, g1, g2⟩
  have HD := mkHid ((HH.out.set0 0).other g2 n2)
  have HI2 := mkHid ((HI.out.set 0 (.int .i64 0)).only g2)
  have HT2 := mkHid (((Two.refl R H w).setCell (p := ⟨H, 0, none⟩) rfl (.int .i64 0)).only g2)
  have HG1 := mkHid g1
  clear g1 g2
  go_wp2_with fail
  refine (HC2.out _ HG1.out).mono ?_
  rintro e w3 ⟨rfl, g1, g2⟩
  have HD3 := mkHid (HD.out.other g2 n2)
  have f3 := HD3.out.fr
  have d4 := HD3.out.c4
  have HI3 := mkHid ((HI2.out.only g2).set 4 (.slice S TN TN))
  have HT3 := mkHid ((HT2.out.only g2).setCell (p := ⟨H, 4, none⟩) rfl (.slice S TN TN))
  have HG3 := mkHid (g1.setOther (p := ⟨H, 4, none⟩) n1 (.slice S TN TN))
  have HD3' := mkHid (HD3.out.set4 (.slice S TN TN))
  clear g1 g2
  go_wp2_with fail
  refine (HC3.out _ HG3.out HI3.out.sl HI3.out.tb).mono ?_
  rintro e w4 ⟨rfl, g1, g2⟩
  have HD4 := mkHid (HD3'.out.other g2 n2)
  have f4 := HD4.out.fr
  have d5 := HD4.out.c5
  have d4' := HD4.out.c4
  have r4 := g1.c2
  have HT4 := mkHid ((HT3.out.only g2).setCell (p := ⟨H, 5, none⟩) rfl (.int .i64 V2))
  have HR4 := mkHid (g1.setOther (p := ⟨H, 5, none⟩) n1 (.int .i64 V2))
  have HD4' := mkHid (HD4.out.set5 V2)
  clear g1 g2
  by_cases ht : TN ≤ 512
  · go_wp2
    go_quiet ((go_at_call 59; refine Calls.quiet_of (left_any R _ l.length cap N2 false _ (HR4.out.drewN _) b5 b6 (by omega))))
    by_cases hf : N2 + V2 ≤ l.length
    · go_wp2
      go_ret
      exact ⟨0, rfl, Done.yes (HT4.out.drewN _) (HRR.out.trans (if_pos ⟨ht, hf⟩)) (lk := false) (HR4.out.drewN _) (HdP_of (HD4'.out.drewN _) ⟨rfl, rfl⟩ ⟨rfl, rfl⟩ ⟨HS.out, rfl⟩) (.inl ⟨rfl, rfl⟩)⟩
    · go_wp2
      go_ret
      exact ⟨10, rfl, Done.no (HT4.out.drewN _) (HR4.out.drewN _) (HD4'.out.drewN _) (by decide) (HRR.out.trans (if_neg (by omega)))⟩
  · go_wp2
    go_ret
    exact ⟨11, rfl, Done.no HT4.out HR4.out HD4'.out (by decide) (HRR.out.trans (if_neg (by omega)))⟩

theorem spoken_rd (R H b off cap : Nat) (l : List UInt8) (a : Int) (d s : Option (Nat × Nat)) (w : World) (hi : In w R H b off cap l) (h : Rd w R (.slice (some ⟨b, off, none⟩) l.length cap) a false)
    (hh : Hd w H 0 1 (pv b off d) (pv b off s) (.slice none 0 0) 0 false (.slice none 0 0) (bc zs)) (h0 : 0 ≤ a) (h1 : a ≤ l.length) (hp : 0 < l.length) (hl : l.length ≤ 140737488355327) (hc : l.length ≤ cap) (hcm : cap ≤ 9223372036854775807) :
    Calls Tryd.prog 57 #[.pointer (some ⟨R, 0, none⟩), .pointer (some ⟨H, 0, none⟩)] w fun e w' => ∃ E, e = .returned (.int .i64 E) ∧ Done w w' R H b off cap l E (pSpoken l d s a) := by
  have hq : fb l / 64 % 2 = 0 ∨ fb l / 64 % 2 = 1 := by omega
  unfold pSpoken
  rcases hq with hq | hq
  · rw [if_pos hq]
    exact spoken_form R H b off cap l a d s w hi h hh h0 h1 hp hl hc hcm hq
  · rw [if_neg (by omega)]
    have hk : kd l = 0 ∨ kd l = 1 ∨ kd l = 2 ∨ kd l = 3 := by unfold kd; omega
    rcases hk with hk | hk | hk | hk
    · rw [hk, if_neg (by decide), if_pos rfl]
      obtain ⟨v1, v2, v3⟩ := v_bounds l a
      by_cases hE : vE l a = 0
      · obtain ⟨u1, u2, u3⟩ := v3 hE
        obtain ⟨TN, hTN⟩ := Int.eq_ofNat_of_zero_le v1
        by_cases hf : vN l a + TN ≤ l.length
        · obtain ⟨y1, y2, y3⟩ := v_bounds l (vN l a + TN)
          by_cases hE2 : vE l (vN l a + TN) = 0
          · obtain ⟨z1, z2, z3⟩ := y3 hE2
            have e : pInitial l d s a = if TN ≤ 512 ∧ vN l (vN l a + TN) + vV l (vN l a + TN) ≤ l.length then some ⟨0, 1, d, s, some ((vN l a).toNat, TN), vV l (vN l a + TN), false, [], zs, vN l (vN l a + TN)⟩ else none := by
              unfold pInitial pLen
              rw [hTN, Int.toNat_natCast]
              by_cases ht : TN ≤ 512
              · rw [if_pos ⟨hE, by omega, hf⟩]
                by_cases hg : vN l (vN l a + TN) + vV l (vN l a + TN) ≤ l.length
                · rw [if_pos ⟨hE2, hg⟩, if_pos ⟨ht, hg⟩]
                · rw [if_neg (fun h => hg h.2), if_neg (fun h => hg h.2)]
              · rw [if_neg (by omega), if_neg (fun h => ht h.1)]
            exact spoken_0yes R H b off cap l a d s w hi h hh h0 h1 hp hl hc hcm hq hk TN _ _ _ hTN rfl hE (by omega) hf hE2 rfl rfl y1 y2 (by omega) z3 _ e
          · have e : pInitial l d s a = none := by
              unfold pInitial pLen
              by_cases ht : vE l a = 0 ∧ vV l a ≤ 512 ∧ vN l a + vV l a ≤ l.length
              · rw [if_pos ht, if_neg (by rw [hTN]; exact fun h => hE2 h.1)]
              · rw [if_neg ht]
            rw [e]
            refine spoken_0no R H b off cap l a d s w hi h hh h0 h1 hp hl hc hcm hq hk (TN : Int) (vN l a) _ (vN l a + TN) _ false false ?_ ?_ ?_ ?_ ?_ rfl rfl (pL_no hE2) (by omega) (by omega) (by omega) (by omega) hf
            · rw [hE, pV_yes, hTN]
            · rw [hE, pA_yes]
            · rw [hE, pL_yes]
            · exact if_pos ⟨rfl, by omega⟩
            · unfold tL tO; simp; omega
        · have e : pInitial l d s a = none := if_neg (by rw [hTN]; exact fun h => hf h.2.2)
          rw [e]
          refine spoken_0no R H b off cap l a d s w hi h hh h0 h1 hp hl hc hcm hq hk (TN : Int) (vN l a) _ (vN l a) _ false true ?_ ?_ ?_ ?_ ?_ rfl rfl rfl (by omega) (by omega) (by omega) (by omega) u3
          · rw [hE, pV_yes, hTN]
          · rw [hE, pA_yes]
          · rw [hE, pL_yes]
          · exact if_neg (fun h => by have := h.2; omega)
          · unfold tL tO; simp; omega
      · have e : pInitial l d s a = none := if_neg (fun h => hE h.1)
        rw [e]
        exact spoken_0no R H b off cap l a d s w hi h hh h0 h1 hp hl hc hcm hq hk 0 a _ a _ true true (pV_no hE) (pA_no hE) (pL_no hE) (if_neg (fun h => by cases h.1)) (by unfold tL; simp) rfl rfl rfl (by omega) h0 h1 h0 h1
    · rw [hk, if_neg (by decide), if_neg (by decide)]
      exact spoken_1 R H b off cap l a d s w hi h hh h0 h1 hp hl hc hcm hq hk
    · rw [hk, if_neg (by decide), if_neg (by decide)]
      exact spoken_2 R H b off cap l a d s w hi h hh h0 h1 hp hl hc hcm hq hk
    · rw [if_pos hk]
      exact spoken_3 R H b off cap l a d s w hi h hh h0 h1 hp hl hc hcm hq hk
end Go.Proofs.YtlllejgpmdeeiaaDoor
