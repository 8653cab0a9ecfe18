/- frame's reader: spans. -/
import Derived.Test.YtaeapgkfmofjlaaDoorSj
namespace Go.Proofs.YtaeapgkfmofjlaaDoor
open Go.ChangeShapes Go.WideShapes Go.ChangeAt Go.RowKit
set_option linter.unusedVariables false
set_option maxRecDepth 100000

theorem info47 : (Tryd.prog.info? 47).map (fun i => (i.zero, i.size, i.bytes)) = some (some (.agg #[.int .i64 0, .int .i64 0]), 2, 16) := by kernel_rfl
theorem Sy.below {B : Nat} {w w' : World} {v : Value} {A : List (Int × Int)} (h : Sy B w v A) (hb : Below w.heap.size w w') : Sy B w' v A := by
  obtain ⟨hl, hc | ⟨g, cap, cur, he, k1, k2, k3⟩⟩ := h
  · exact ⟨hl, .inl hc⟩
  · exact ⟨hl, .inr ⟨g, cap, cur, he, k1, (hb.block g (lt_block k2)).trans k2, k3⟩⟩
theorem Sy.chg {X : Nat → Prop} {B : Nat} {w w' : World} {v : Value} {A : List (Int × Int)} (h : Sy B w v A) (hc : Chg X w w') (hx : ∀ k, B ≤ k → ¬ X k) : Sy B w' v A :=
  own_chg h hc (fun o n c e => hx _ (h.lt o.block (by rw [e]; rfl)).1)
theorem Sy.one (w : World) (a b : Int) : Sy w.heap.size (w.alloc (.cells #[.int .i64 a, .int .i64 b] 47)) (.slice (some ⟨w.heap.size, 0, none⟩) 1 1) [(a, b)] :=
  ⟨rfl, .inr ⟨w.heap.size, 1, _, rfl, Nat.le_refl _, heap_alloc_new w _, Nat.le_refl _, by decide, rfl, rfl⟩⟩
theorem Sy.mono {B B' : Nat} {w : World} {v : Value} {X : List (Int × Int)} (h : Sy B w v X) (hB : B' ≤ B) : Sy B' w v X := by
  obtain ⟨hl, hc | ⟨g, cap, cur, he, k1, k2⟩⟩ := h
  · exact ⟨hl, .inl hc⟩
  · exact ⟨hl, .inr ⟨g, cap, cur, he, Nat.le_trans hB k1, k2⟩⟩
section
variable {w0 w1 w w' : World} {lo p F g off c : Nat} {wa : Option Addr} {l : List UInt8} {a : Fa × Sq} {s : Sq} {f : Fr}
theorem Wk.e2 (h : Wk w0 lo p F g off c wa l a w) : w.cell? ⟨p, 2, none⟩ = some (eV wa a.2.2) := h.cs.2.2.1
theorem Wk.pF (h : Wk w0 lo p F g off c wa l a w) : p < w.heap.size ∧ F < w.heap.size := by
  obtain ⟨f, d, h1, h2, h3, h4⟩ := h
  exact ⟨lt_block h2.rd, lt_block (show w.heap[F]? = _ from h2.fm)⟩
set_option maxHeartbeats 2000000 in
theorem rspans_c (h : Rz w p F g off c wa l s f) (last : Int) (n : Nat) (hl0 : 0 ≤ last) (hl1 : last ≤ 4611686018427387903) (hn : s.2 = 0 → n < 256) (hn2 : n ≤ 4611686018427387903) :
    Calls Tryd.prog 103 #[.pointer (some ⟨p, 0, none⟩), .int .i64 last, .int .i64 n] w fun e w' => ∃ o cp, e = .returned (.slice o (xS l s last n).1.length cp) ∧ Aside (Sy w.heap.size w' (.slice o (xS l s last n).1.length cp) (xS l s last n).1) ∧ Aside (Rz w' p F g off c wa l (xS l s last n).2 f) ∧ Aside (Chg (fun k => Kq p F k ∨ w.heap.size ≤ k) w w') := by
  obtain ⟨i0, hi0, hz0, hz1, hz2⟩ := info_parts info47
  have hd := rdown_c h last 0 (.inl rfl) (fun _ => hl0) (by omega) (by omega)
  obtain ⟨b1, b2⟩ := xD_bd l s last 0 4611686018427387904 (.inl rfl) (fun _ => hl0) (by omega) (by omega) (by omega)
  have hb1 : -4611686018427387904 ≤ (xD l s last 0).1 := by
    obtain ⟨m, hm, hm2⟩ := xN_nat l s
    unfold xD
    dsimp only
    rw [hm]
    omega
  have HX0 : Aside ((xD l s last 0).2.2 = 0 → 0 ≤ (xD l s last 0).1 ∧ n < 256) := fun e => ⟨xD_0 _ _ _ _ e, hn (xD_s0 _ _ _ _ e)⟩
  have HS : Aside (xS l s last n = sL l n (xD l s last 0).1 (xD l s last 0).2 [((xD l s last 0).1, last)]) := rfl
  have HPF : Aside (p < w.heap.size ∧ F < w.heap.size) := (⟨lt_block h.rd, lt_block (show w.heap[F]? = _ from h.fm)⟩ : p < w.heap.size ∧ F < w.heap.size)
  have HG2 : Aside (g < w.heap.size ∧ 2 < w.heap.size) := ⟨h.gs, Tb_pos h.tb⟩
  have HKB : Aside (∀ k, w.heap.size ≤ k → ¬ Kq p F k) := fun k hk e => by
    have := (⟨lt_block h.rd, lt_block (show w.heap[F]? = _ from h.fm)⟩ : p < w.heap.size ∧ F < w.heap.size)
    rcases e with e | e <;> omega
  clear h hn b1
  generalize xS l s last n = T at *
  obtain ⟨s1, hs1⟩ : ∃ s1, (xD l s last 0).2 = s1 := ⟨_, rfl⟩
  obtain ⟨x1, hx1⟩ : ∃ x1, (xD l s last 0).1 = x1 := ⟨_, rfl⟩
  rw [hs1, hx1] at hd HX0 HS
  rw [hx1] at b2 hb1
  clear hs1 hx1
  go_enter Tryd.func103, Tryd.ntmps103
  go_wp2_with fail
  refine hd.mono ?_
  rintro e w1 ⟨rfl, H1⟩
  have HC1 : Aside (Chg (fun k => Kq p F k ∨ w.heap.size ≤ k) w (w1.alloc (.cells #[.int .i64 x1, .int .i64 last] 47))) := (H1.out.2.mono fun k e => .inl e).below (bel1 w1 _)
  clear hd
  have HA : Aside (Sy w.heap.size (w1.alloc (.cells #[.int .i64 x1, .int .i64 last] 47)) (.slice (some ⟨w1.heap.size, 0, none⟩) 1 1) [(x1, last)]) := (Sy.one w1 x1 last).mono H1.out.2.2.2.2.1
  have HW : Aside (Rz (w1.alloc (.cells #[.int .i64 x1, .int .i64 last] 47)) p F g off c wa l s1 f) := H1.out.1.bel (bel1 w1 _)
  clear H1
  go_wp2
  go_loopg [1, 7, 8, 17] (n + 1) (fun kx s1' s7 s8 s17 wr => ∃ (i : Nat) (acc : List (Int × Int)) (sc : Sq) (x y : Int) (o : Option Addr) (cp : Nat), s1' = .int .i64 y ∧ s7 = .int .i64 x ∧ s8 = .slice o (i + 1) cp ∧ s17 = .int .i64 (i : Int) ∧ i ≤ n ∧ n + 1 - i ≤ kx ∧ -4611686018427387904 ≤ x ∧ x ≤ 4611686018427387912 ∧ acc.length = i + 1 ∧ Aside (sc.2 = 0 → 0 ≤ x ∧ n < 256) ∧ Aside (sL l (n - i) x sc acc = T) ∧ Aside (Sy w.heap.size wr (.slice o (i + 1) cp) acc) ∧ Aside (Rz wr p F g off c wa l sc f) ∧ Aside (Chg (fun k => Kq p F k ∨ w.heap.size ≤ k) w wr))
  case atStart => exact ⟨0, [(x1, last)], s1, x1, last, _, _, rfl, rfl, rfl, rfl, by omega, by omega, hb1, b2, rfl, HX0, HS.out.symm, HA.out, HW.out, HC1.out⟩
  case round =>
    obtain ⟨i, acc, sc, x, y, o, cp, rfl, rfl, rfl, rfl, hi, hk, hx1, hx2, hal, HX, HT, HSy, HK, HCr⟩ := hrel
    clear HA HW HX0 HS hb1 b2 HC1
    by_cases hlt : i < n
    rotate_left
    · obtain rfl : i = n := by omega
      have hT : (acc, sc) = T := by rw [← HT.out, Nat.sub_self]; rfl
      have HT9 : Aside _ := hT
      have HAL : Aside _ := hal
      clear hlt hT HT hal
      go_wp2
      go_ret
      rw [← HT9.out]
      dsimp only
      rw [HAL.out]
      exact ⟨o, cp, rfl, HSy.out, HK.out, HCr.out⟩
    · have hd1 := rdown_c HK.out x 2 (.inr rfl) (fun e => (HX.out e).1) (by omega) hx2
      obtain ⟨q1, q2⟩ := xD_bd l sc x 2 4611686018427387904 (.inr rfl) (fun e => (HX.out e).1) (by omega) hx2 (by omega)
      have HD1 : Aside ((xD l sc x 2).2.2 = 0 → 0 ≤ (xD l sc x 2).1 ∧ n < 256) := fun e => ⟨xD_0 _ _ _ _ e, (HX.out (xD_s0 _ _ _ _ e)).2⟩
      have HTT : Aside (sL l (n - i) x sc acc = if (xD l (xD l sc x 2).2 (xD l sc x 2).1 0).2.2 ≠ 0 then ([], (xD l (xD l sc x 2).2 (xD l sc x 2).1 0).2) else sL l (n - (i + 1)) (xD l (xD l sc x 2).2 (xD l sc x 2).1 0).1 (xD l (xD l sc x 2).2 (xD l sc x 2).1 0).2 (acc ++ [((xD l (xD l sc x 2).2 (xD l sc x 2).1 0).1, (xD l sc x 2).1)])) := by
        show _ = _
        rw [show n - i = (n - (i + 1)) + 1 by omega]
        rfl
      obtain ⟨d1, hdd1⟩ : ∃ d1, xD l sc x 2 = d1 := ⟨_, rfl⟩
      rw [hdd1] at hd1 q1 q2 HD1 HTT
      obtain ⟨y1, t1⟩ := d1
      dsimp only at hd1 q1 q2 HD1 HTT
      have c3 : (i : Int) < (n : Int) := by omega
      have n7 : IntKind.i64.wrap ((i : Int) + 1) = (i : Int) + 1 := wrp _ (by omega) (by omega)
      clear hdd1
      go_wp2_with fail
      refine hd1.mono ?_
      rintro e w2 ⟨rfl, H2⟩
      have hd2 := rdown_c H2.out.1 y1 0 (.inl rfl) (fun e => (HD1.out e).1) (by omega) (by omega)
      have HD2 : Aside ((xD l t1 y1 0).2.2 = 0 → 0 ≤ (xD l t1 y1 0).1 ∧ n < 256) := fun e => ⟨xD_0 _ _ _ _ e, (HD1.out (xD_s0 _ _ _ _ e)).2⟩
      have q3 : -4611686018427387904 - 4611686018427387910 ≤ (xD l t1 y1 0).1 ∧ (xD l t1 y1 0).1 ≤ 4611686018427387912 := by
        obtain ⟨m, hm, hm2⟩ := xN_nat l t1
        unfold xD
        dsimp only
        rw [hm]
        omega
      obtain ⟨d2, hdd2⟩ : ∃ d2, xD l t1 y1 0 = d2 := ⟨_, rfl⟩
      rw [hdd2] at hd2 HD2 HTT q3
      obtain ⟨y2, t2⟩ := d2
      dsimp only at hd2 HD2 HTT q3
      clear hdd2 hd1
      go_wp2_with fail
      refine hd2.mono ?_
      rintro e w3 ⟨rfl, H3⟩
      clear hd2
      have e2 := H3.out.1.cs.2.2.1
      have HSy3 : Aside (Sy w.heap.size w3 (.slice o (i + 1) cp) acc) := (HSy.out.chg H2.out.2 HKB.out).chg H3.out.2 HKB.out
      have HW3 : Aside (Rz w3 p F g off c wa l t2 f) := H3.out.1
      have HC3 : Aside (Chg (fun k => Kq p F k ∨ w.heap.size ≤ k) w w3) := HCr.out.trans ((H2.out.2.trans H3.out.2).mono fun k e => .inl e)
      clear H2 H3 HK HSy HCr
      by_cases ht : t2.2 = 0
      · rw [ht, eV_0] at e2
        have hq : Sem.run Tryd.prog (binOp BinOp.neq 38 .nilIface .nilIface) w3 = .ok (.bool false) w3 := by kernel_rfl
        have hT : Aside (sL l (n - (i + 1)) y2 t2 (acc ++ [(y2, y1)]) = T) := by
          show _ = _
          rw [← HT.out, HTT.out, if_neg (by simpa using ht)]
        have h256 := (HD2.out ht).2
        have h0y := (HD2.out ht).1
        have HY : Aside (t2.2 = 0 → 0 ≤ y2 ∧ n < 256) := HD2.out
        have HAL : Aside (acc.length = i + 1) := hal
        have HSA : Aside (Sy w.heap.size (w3.alloc (.cells #[.int .i64 y2, .int .i64 y1] 47)) (.slice o (i + 1) cp) acc) := HSy3.out.below (bel1 w3 _)
        have HSB : Aside (∀ (j : Nat) (u : Value), (fl [(y2, y1)])[j]? = some u → (w3.alloc (.cells #[.int .i64 y2, .int .i64 y1] 47)).cell? ((⟨w3.heap.size, 0, none⟩ : Addr).add j) = some u) := by
          intro j u hj
          have hnew : (w3.alloc (.cells #[.int .i64 y2, .int .i64 y1] 47)).heap[w3.heap.size]? = some (.cells #[.int .i64 y2, .int .i64 y1] 47 (0, 0)) := heap_alloc_new w3 _
          rw [Addr.add_lit]
          simp only [World.cell?, hnew]
          rcases j with _ | _ | j
          · exact hj
          · exact hj
          · simp [fl] at hj
        clear HT HTT HD1 HD2 ht HSy3 hal
        go_wp2_with ((at_builtin; refine wpList_append_own _ rfl (.tmp 30) (.tmp 34) 23 rfl w.heap.size 47 i0 (.agg #[.int .i64 0, .int .i64 0]) 2 16 Tryd.underlying23 hi0 hz0 hz1 hz2 rfl (by decide) (.slice o (i + 1) cp) (i + 1) (fl acc) rfl (by have := HSA.out; unfold Sy at this; rw [HAL.out] at this; exact this) ⟨w3.heap.size, 0, none⟩ 1 1 (fl [(y2, y1)]) rfl rfl HSB.out (fl_one _) (by unfold maxLen; omega) (by omega) (Nat.le_trans HC3.out.2.2.2.1 (bel1 w3 _).size) ?_; intro v1 w4 hown hgrow hq9; have HO : Aside _ := hown; have HG : Aside _ := hgrow; clear hown hgrow hq9))
        obtain ⟨hl9, ⟨_, hq9⟩ | ⟨g', cap, cur, hv9, k1, k2, k3⟩⟩ := HO.out
        · omega
        subst hv9
        have HSN : Aside (Sy w.heap.size w4 (.slice (some ⟨g', 0, none⟩) (i + 1 + 1) cap) (acc ++ [(y2, y1)])) := by
          show World.ownsRow _ _ _ _ _ _ _
          rw [List.length_append, HAL.out, fl_append]
          exact HO.out
        have HCN : Aside (Chg (fun k => w.heap.size ≤ k) (w3.alloc (.cells #[.int .i64 y2, .int .i64 y1] 47)) w4) := by
          have hg := HG.out
          refine ⟨hg.os, hg.tape, hg.output, hg.size, fun k hk hn => hg.block k hk (fun e => hn ?_)⟩
          exact (HSA.out.lt k e.symm).1
        have HWN : Aside (Rz w4 p F g off c wa l t2 f) := by
          have h1 := HPF.out
          have h2 := HG2.out
          exact (HW3.out.bel (bel1 w3 _)).on HCN.out (by omega) (by omega) (by omega) (by omega)
        have HCF : Aside (Chg (fun k => Kq p F k ∨ w.heap.size ≤ k) w w4) := (HC3.out.below (bel1 w3 _)).trans (HCN.out.mono fun k e => .inr e)
        have hal2 : (acc ++ [(y2, y1)]).length = i + 1 + 1 := by rw [List.length_append, HAL.out]; rfl
        clear hl9 k1 k2 k3 HO HG
        go_roundg (n + 1 - (i + 1))
        case measure => omega
        case rel => exact ⟨i + 1, acc ++ [(y2, y1)], t2, y2, y1, _, _, rfl, rfl, rfl, rfl, by omega, Nat.le_refl _, by omega, by omega, hal2, HY.out, hT.out, HSN.out, HWN.out, HCF.out⟩
      · obtain ⟨T0, v0, hv0⟩ := eV_some wa ht
        rw [hv0] at e2
        have hq := run_neq_iface_nil (P := Tryd.prog) (w := w3) 38 (by kernel_rfl) T0 v0
        have hT : ([], t2) = T := by rw [← HT.out, HTT.out, if_pos ht]
        have HT9 : Aside _ := hT
        clear HT HTT HD1 HD2 ht hv0 HSy3 hT hal HX
        go_wp2
        go_ret
        rw [← HT9.out]
        exact ⟨none, 0, rfl, ⟨rfl, .inl ⟨rfl, rfl⟩⟩, HW3.out, HC3.out⟩
end
end Go.Proofs.YtaeapgkfmofjlaaDoor
