/- FrameBack: the law's walk. -/
import Derived.Test.YtaeapgkfmofjlaaDoorOc
import Derived.Deep.Cut
import Derived.Deep.CutBlock
namespace Go.Proofs.YtaeapgkfmofjlaaDoor
open Go.ChangeShapes Go.WideShapes Go.ChangeAt Go.RowKit
set_option linter.unusedVariables false
set_option maxRecDepth 100000

set_option maxHeartbeats 4000000 in
theorem back_walk (f : Fr) (d : Da) (ob : Option Addr) (BH : List UInt8) (cb : Nat) (w : World) (wa : Option Addr) (hG : Gl w wa) (hf : Fi w f d) (hs : Sl w ob BH) (hn : ob = none → BH.length = 0 ∧ cb = 0) (hB : BH.length ≤ 140737488355328) :
    Calls Tryd.prog 6 #[.agg f.cells.toArray, .slice ob BH.length cb] w fun e w' => e = .returned (.bool true) ∧ Below w.heap.size w w' := by
  obtain ⟨i0, hi0, hz0, hz1, hz2⟩ := info_parts info5
  obtain ⟨F, hF⟩ : ∃ F, w.heap.size = F := ⟨_, rfl⟩
  obtain ⟨W0, hW0⟩ : ∃ W0, w.alloc (.cells f.cells.toArray 28) = W0 := ⟨_, rfl⟩
  have hb0 : Below w.heap.size w W0 := by rw [← hW0]; exact bel1 w _
  have hf0 : Fm W0 F f := by rw [← hW0, ← hF]; exact heap_alloc_new w _
  have hlt0 : F < W0.heap.size := lt_block hf0
  have HB0 : Aside (Below w.heap.size w W0) := hb0
  have HF0 : Aside (Fm W0 F f) := hf0
  have HGL : Aside (∀ X, Below W0.heap.size W0 X → Gl X wa) := fun X hx => (hG.below hb0).below hx
  have HFI : Aside (∀ X, Below W0.heap.size W0 X → Fi X f d) := fun X hx => (hf.below hb0).below hx
  have HFM : Aside (∀ X, Below W0.heap.size W0 X → Fm X F f) := fun X hx => (hx.block F hlt0).trans hf0
  have HBH : Aside (∀ X, Below W0.heap.size W0 X → Sl X ob BH) := fun X hx => Sl_below (Sl_below hs hb0) hx
  have HX : Aside ((Tryd.prog.info? 28).map (·.size) = some f.cells.toArray.size) := by show _ = some f.cells.length; rw [hf.on.size]; exact i28s
  have HN : Aside _ := hn
  have hR := hf.on.r16
  have hT := hf.on.t8
  have HR16 : Aside ((ab f d).R.length = 16) := hR
  have HT8 : Aside ((ab f d).T.length = 8) := hT
  have HLD : Aside ((ab f d).D.length ≤ 140737488355328) := hf.lD
  have HLA : Aside ((ab f d).A.length ≤ 140737488355328) := hf.lA
  have hp1 := put_c f d W0 (hG.below hb0).tb (hf.below hb0)
  have HP2 : Aside (∀ X, Below W0.heap.size W0 X → Calls Tryd.prog 8 #[.agg (fz 1).cells.toArray] X fun e w' => ∃ o c, e = .returned (.tuple #[.slice o 1 c, .int .i64 0]) ∧ Pb w' X.heap.size o c [1] ∧ Below X.heap.size X w') := by
    intro X hx
    have := put_c (fz 1) dz X (HGL.out X hx).tb (fz_fi 1 X)
    rw [put_ping] at this
    exact this.mono (by rintro e w' ⟨o, c, h1, h2, h3⟩; exact ⟨o, c, h1, ⟨h2⟩, h3⟩)
  have HBK : Aside (∀ hp : (putR (ab f d)).2 = 0, ∃ c : Fa, (c.D.length ≤ (ab f d).D.length ∧ c.A.length ≤ (ab f d).A.length) ∧ c.k = (ab f d).k ∧ ((ab f d).k = 8 → c.s = (ab f d).s ∧ c.o = (ab f d).o ∧ c.fin = (ab f d).fin ∧ c.len = (ab f d).len) ∧ putR c = putR (ab f d) ∧ ∀ r, (openA (ab f d) → r = []) → rdS ((putR (ab f d)).1 ++ r) 0 = (c, ((putR (ab f d)).1.length, 0)) ∧ rdE ((putR (ab f d)).1 ++ r) 0 = 0) := fun hp => rd_back (ab f d) hp hR hT
  have HOP : Aside (openA (ab f d) ↔ f.k = 0 ∨ f.k = 48 ∨ f.k = 8 ∧ f.len = false) := Iff.rfl
  have HKE : Aside ((ab f d).k = f.k ∧ (ab f d).s = f.s ∧ (ab f d).o = f.o ∧ (ab f d).fin = f.fin ∧ (ab f d).len = f.len) := ⟨rfl, rfl, rfl, rfl, rfl⟩
  have hle := putR_le (ab f d) hR hT
  have HPO : Aside ((putR (ab f d)).2 = 0 → 0 < (putR (ab f d)).1.length) := putR_pos
  have HPN : Aside ((putR (ab f d)).2 ≠ 0 → (putR (ab f d)).1 = []) := putR_nil
  generalize ab f d = A at *
  generalize putR A = R at *
  obtain ⟨Y, ec⟩ := R
  dsimp only at hp1 hle HPO HPN HBK
  clear hG hf hs hn hR hT hb0 hf0
  go_enter Tryd.func6, Tryd.ntmps6
  go_wp2_with (refine wpList_load_row rfl 28 (.tmp 2) rfl F rfl 28 _ (0, 0) _ HF0.out hu28 rfl HX.out ?_)
  refine hp1.mono ?_
  rintro e W1 ⟨o1, c1, rfl, hy1, hb1⟩
  have HB1 : Aside (Below W0.heap.size W0 W1) := hb1
  have HY1 : Aside (Pb W1 W0.heap.size o1 c1 Y) := ⟨hy1⟩
  have hp2 := HP2.out W1 hb1
  clear hp1 hy1 hb1 hW0 HP2
  obtain ⟨nY, hnY⟩ : ∃ n, Y.length = n := ⟨_, rfl⟩
  have HNY : Aside (Y.length = nY) := hnY
  rw [hnY] at hle ⊢
  clear hnY
  go_wp2_with fail
  refine hp2.mono ?_
  rintro e W2 ⟨o2, c2, rfl, hpb, hb2⟩
  have HB2 : Aside (Below W0.heap.size W0 W2) := HB1.out.trans (hb2.mono HB1.out.size)
  have HY2 : Aside (Pb W2 W0.heap.size o1 c1 Y) := HY1.out.below hb2
  have s1 : (convert 22 9 (.slice o2 1 c2)).run Tryd.prog W2 = .ok (.string ⟨#[1]⟩) W2 := str_any (l := [1]) hpb.parts.2.1 rfl hpb.parts.1
  clear hp2 hpb hb2 HB1 HY1
  by_cases hec : ec = 0
  rotate_left
  · have h0 : nY = 0 := by rw [← HNY.out, HPN.out hec]; rfl
    have hec' : (ec == 0) = false := by simpa using hec
    have HBF : Aside (Below w.heap.size w W2) := HB0.out.trans (HB2.out.mono HB0.out.size)
    subst h0
    clear hec
    go_wp2
    go_ret
    have q9 := HBF.out
    rw [hF] at q9
    first | exact ⟨rfl, q9⟩ | exact ⟨rfl, HBF.out⟩
  subst hec
  have hpos : 0 < nY := by rw [← HNY.out]; exact HPO.out rfl
  obtain ⟨ca, hca1, hca2, hca3, hca4, hca5⟩ := HBK.out rfl
  have hS0 := hca5 [] (fun _ => rfl)
  rw [List.append_nil] at hS0
  have h3 := (HGL.out W2 HB2.out).read HY2.out (HPO.out rfl) (by rw [HNY.out]; omega)
  rw [HNY.out] at h3
  have HRO : Aside (∀ w' e, (if rdE Y 0 = 0 then RdOk W2 w' Y 0 e else RdNo W2 w' Y 0 e) → ∃ f d p F, e = .returned (.tuple #[.agg f.cells.toArray, .int .i64 nY, .nilIface]) ∧ ab f d = ca ∧ Fg w' W2.heap.size p F f d) := by
    intro w' e h
    rw [if_pos hS0.2] at h
    obtain ⟨f, d, p, F, h1, h2, h3⟩ := h
    rw [hS0.1] at h1 h2
    dsimp only at h1 h2
    rw [HNY.out] at h1
    exact ⟨f, d, p, F, h1, h2, h3⟩
  have HCA1 : Aside _ := hca1
  have HCA4 : Aside _ := hca4
  have HCA5 : Aside _ := hca5
  have hk : ca.k = f.k := hca2.trans HKE.out.1
  have HST : Aside (f.k = 8 → ca.s = f.s ∧ ca.o = f.o ∧ ca.fin = f.fin ∧ ca.len = f.len) := fun h => by
    obtain ⟨q1, q2, q3, q4⟩ := hca3 (HKE.out.1.trans h)
    exact ⟨q1.trans HKE.out.2.1, q2.trans HKE.out.2.2.1, q3.trans HKE.out.2.2.2.1, q4.trans HKE.out.2.2.2.2⟩
  have HKK : Aside (ca.k = f.k) := hk
  clear hca1 hca2 hca3 hca4 hca5 hS0 hk HPN HPO HBK
  go_wp2_with fail
  refine h3.mono ?_
  rintro e W3 ⟨hro, hb3⟩
  obtain ⟨fx, dx, px, Fx, rfl, hab, hfg⟩ := HRO.out W3 e hro
  have HB3 : Aside (Below W0.heap.size W0 W3) := HB2.out.trans (hb3.mono HB2.out.size)
  have HY3 : Aside (Pb W3 W0.heap.size o1 c1 Y) := HY2.out.below hb3
  obtain ⟨G, hG⟩ : ∃ G, W3.heap.size = G := ⟨_, rfl⟩
  obtain ⟨W4, hW4⟩ : ∃ W4, W3.alloc (.cells (fz 0).cells.toArray 28) = W4 := ⟨_, rfl⟩
  have hg4 : W4.heap[G]? = some (.cells (fz 0).cells.toArray 28 (0, 0)) := by rw [← hW4, ← hG]; exact heap_alloc_new W3 _
  have hb4 : Below W3.heap.size W3 W4 := by rw [← hW4]; exact bel1 W3 _
  have hfx42 : fx.cells.length = 42 := hfg.on'.size
  obtain ⟨W5, hW5⟩ : ∃ W5, W4.setRow G fx.cells.toArray = W5 := ⟨_, rfl⟩
  have hg5 : Fm W5 G fx := by rw [← hW5]; exact setRow_heap W4 G _ _ 28 (0, 0) hg4
  have hb5 : Below W3.heap.size W3 W5 := by
    refine ⟨?_, ?_, ?_, ?_, fun k hk => ?_⟩
    · rw [← hW5]; exact hb4.os
    · rw [← hW5]; exact hb4.tape
    · rw [← hW5]; exact hb4.output
    · rw [← hW5]; simpa using hb4.size
    · rw [← hW5, setRow_other W4 G k _ (by omega)]; exact hb4.block k hk
  have HB5 : Aside (Below W0.heap.size W0 W5) := HB3.out.trans (hb5.mono HB3.out.size)
  have HY5 : Aside (Pb W5 W0.heap.size o1 c1 Y) := HY3.out.below hb5
  have hfg5 := hfg.below hb5
  have hDA := HCA1.out
  rw [← hab] at hDA
  have hlD : dx.D.length ≤ 140737488355328 := Nat.le_trans hDA.1 HLD.out
  have hlA : dx.A.length ≤ 140737488355328 := Nat.le_trans hDA.2 HLA.out
  have HFX : Aside (Fi W5 fx dx) := hfg5.fi hlD hlA
  have HX5 : Aside ((Tryd.prog.info? 28).map (·.size) = some fx.cells.toArray.size) := by show _ = some fx.cells.length; rw [hfx42]; exact i28s
  have HSZ : Aside ((fz 0).cells.toArray.size = fx.cells.toArray.size) := by show (fz 0).cells.length = fx.cells.length; rw [hfx42]; rfl
  have HON : Aside (fx.cells.toArray.all (·.oneCell') = true) := hfg.on'.one
  have H4 : Aside _ := hg4
  have H5 : Aside _ := hg5
  have HW5 : Aside _ := hW5
  have hp3 := put_c fx dx W5 (HGL.out W5 HB5.out).tb HFX.out
  rw [hab, HCA4.out] at hp3
  dsimp only at hp3
  rw [HNY.out] at hp3
  have HAB : Aside (ab fx dx = ca) := hab
  have ek : fx.k = f.k := by have := HKK.out; rw [← hab] at this; exact this
  have x0 := hg5.at 0 _ (show fx.cells[0]? = some (.int .i64 fx.k) from rfl)
  have x1 := hg5.at 1 _ (show fx.cells[1]? = some (.int .i64 fx.s) from rfl)
  have x2 := hg5.at 2 _ (show fx.cells[2]? = some (.int .i64 fx.o) from rfl)
  have x4 := hg5.at 4 _ (show fx.cells[4]? = some (.bool fx.fin) from rfl)
  have x5 := hg5.at 5 _ (show fx.cells[5]? = some (.bool fx.len) from rfl)
  have hf5 := HFM.out W5 HB5.out
  have y0 := hf5.at 0 _ (show f.cells[0]? = some (.int .i64 f.k) from rfl)
  have y1 := hf5.at 1 _ (show f.cells[1]? = some (.int .i64 f.s) from rfl)
  have y2 := hf5.at 2 _ (show f.cells[2]? = some (.int .i64 f.o) from rfl)
  have y4 := hf5.at 4 _ (show f.cells[4]? = some (.bool f.fin) from rfl)
  have y5 := hf5.at 5 _ (show f.cells[5]? = some (.bool f.len) from rfl)
  rw [ek] at x0
  have HFM2 : Aside (∀ X, Below W5.heap.size W5 X → X.cell? ⟨F, 0, none⟩ = some (.int .i64 f.k) ∧ X.cell? ⟨F, 5, none⟩ = some (.bool f.len)) := fun X hx => by
    have := HFM.out X (HB5.out.trans (hx.mono HB5.out.size))
    exact ⟨this.at 0 _ rfl, this.at 5 _ rfl⟩
  have hST := HST.out
  have hST' : f.k = 8 → fx.s = f.s ∧ fx.o = f.o ∧ fx.fin = f.fin ∧ fx.len = f.len := fun h => by
    have := HST.out h
    rw [← hab] at this
    exact this
  have HOPN : Aside (∀ r, (f.k = 0 ∨ f.k = 48 ∨ f.k = 8 ∧ f.len = false → r = []) → rdS (Y ++ r) 0 = (ca, (Y.length, 0)) ∧ rdE (Y ++ r) 0 = 0) := fun r hr => HCA5.out r (fun h => hr (HOP.out.1 h))
  -- the last part, whatever 'open' is
  have HRL : Aside (∀ X o c l, Gl X wa → Pb X W0.heap.size o c l → 0 < l.length → l.length ≤ 200000000000000 → Calls Tryd.prog 12 #[.slice o l.length c, .int .i64 0] X fun e w' => (if rdE l 0 = 0 then RdOk X w' l 0 e else RdNo X w' l 0 e) ∧ Below X.heap.size X w') := fun X o c l h1 h2 h3 h4 => h1.read h2 h3 h4
  have HBB2 : Aside (BH.length ≤ 140737488355328) := hB
  clear hW5 h3 hro hb3 hfg hg4 hb4 hfx42 hg5 hb5 hfg5 hDA hlD hlA hab ek hf5 hST HKK HST HRO HCA1 HCA4 HCA5 HB2 HY2 HB3 HY3 HOP
  simp only [fz, Fr.cells, List.replicate, List.cons_append, List.nil_append] at hW4
  generalize hfk : f.k = k at *
  generalize hfl : f.len = ln at *
  generalize f.s = sv at *
  generalize f.o = ov at *
  generalize f.fin = fn at *
  have hcases : (k = 48 ∨ (k = 8 ∧ ln = false) ∨ k = 0) ∨ (k = 8 ∧ ln = true) ∨ (k ≠ 48 ∧ k ≠ 8 ∧ k ≠ 0) := by
    by_cases a1 : k = 48
    · exact .inl (.inl a1)
    · by_cases a2 : k = 8
      · cases ln
        · exact .inl (.inr (.inl ⟨a2, rfl⟩))
        · exact .inr (.inl ⟨a2, rfl⟩)
      · by_cases a3 : k = 0
        · exact .inl (.inr (.inr a3))
        · exact .inr (.inr ⟨a1, a2, a3⟩)
  rcases hcases with hop | hno
  · clear HOPN
    rcases hop with hk9 | hk9 | hk9
    · skip
      subst hk9
      clear hST'
      go_upto_region 8 with (refine wpList_store_row rfl 28 _ _ rfl G fx.cells.toArray rfl rfl 28 _ H4.out HX5.out HSZ.out HON.out ?_; rw [HW5.out]; clear hW4 hG)
      go_upto_region 10 with fail
      clear x0 x1 x2 x4 x5 y0 y1 y2 y4 y5
      go_wp2_with (refine wpList_load_row rfl 28 (.tmp 9) rfl G rfl 28 _ (0, 0) _ H5.out hu28 rfl HX5.out ?_)
      refine hp3.mono ?_
      rintro e W6 ⟨o3, c3, rfl, hy3, hb6⟩
      have HB6 : Aside (Below W0.heap.size W0 W6) := HB5.out.trans (hb6.mono HB5.out.size)
      have HB56 : Aside (Below W5.heap.size W5 W6) := hb6
      have HY6 : Aside (Pb W6 W0.heap.size o1 c1 Y) := HY5.out.below hb6
      have hY3 : Pb W6 W5.heap.size o3 c3 Y := ⟨by rw [HNY.out]; exact hy3⟩
      obtain ⟨SY, t1, t3⟩ : ∃ S, (convert 22 9 (.slice o1 nY c1)).run Tryd.prog W6 = .ok (.string S) W6 ∧ (convert 22 9 (.slice o3 nY c3)).run Tryd.prog W6 = .ok (.string S) W6 := ⟨_, str_any HY6.out.parts.2.1 HNY.out (fun e => by rw [← HNY.out]; exact HY6.out.parts.1 e), str_any hY3.parts.2.1 HNY.out (fun e => by rw [← HNY.out]; exact hY3.parts.1 e)⟩
      obtain ⟨z0, z5⟩ := HFM2.out W6 hb6
      have HNO : Aside (o1 = none → nY = 0 ∧ c1 = 0) := fun e => by rw [← HNY.out]; exact HY6.out.parts.1 e
      have HSL : Aside (Sl W6 o1 Y) := HY6.out.parts.2.1
      clear hp3 hy3 hb6 hY3 s1
      go_upto_region 13 with fail
      go_upto_region 14 with fail
      clear t1 t3 z0 z5
      have HM : Aside ((W6.alloc (.cells #[] 5)).ownsRow W6.heap.size 5 1 (.slice (some ⟨W6.heap.size, 0, none⟩) 0 0) 0 []) := World.ownsRow_made W6 #[] 0 (Nat.le_refl _) (by decide) rfl
      go_wp2_with (first
        | (at_builtin; (refine wpList_append_bytes_w rfl (.tmp 124) (.tmp 125) rfl W6.heap.size i0 Tryd.underlying22 hi0 hz0 hz1 hz2 (.slice (some ⟨W6.heap.size, 0, none⟩) 0 0) 0 [] rfl HM.out o1 nY c1 Y rfl HNY.out HNO.out (Sl_alloc HSL.out _) (by omega) (by simp) ?_; intro v7 W7 hown hgrow; have HO7 := mkHid hown; have HG7 : Hid (Below W6.heap.size W6 W7) := mkHid (((Below.refl W6.heap.size W6).alloc (Nat.le_refl _) _).grown hgrow (by simp) (fun k hk => (HM.out.lt k hk).1)); clear hown hgrow))
        | (at_builtin; (refine wpList_append_bytes_w rfl (.tmp 126) (.tmp 127) rfl W6.heap.size i0 Tryd.underlying22 hi0 hz0 hz1 hz2 v7 (0 + nY) ([] ++ bc Y) rfl HO7.out ob BH.length cb BH rfl rfl HN.out (HBH.out W7 (HB6.out.trans (HG7.out.mono HB6.out.size))) (by have := HBB2.out; omega) HG7.out.size ?_; intro v8 W8 hown hgrow; obtain ⟨o8, c8, rfl, hl8, hby8⟩ := By.of_own (X := Y ++ BH) (by rw [bc_append]; exact hown); have HBY8 := mkHid hby8; have HL8 := mkHid hl8; have HG8 : Hid (Below W6.heap.size W6 W8) := mkHid (HG7.out.trans (grown_below hgrow HO7.out HG7.out.size)); clear hown hgrow hl8 hby8)))
      have HB8 : Aside (Below W0.heap.size W0 W8) := HB6.out.trans (HG8.out.mono HB6.out.size)
      have h4 := HRL.out W8 o8 c8 (Y ++ BH) (HGL.out W8 HB8.out) ⟨HBY8.out.mono HB6.out.size⟩ (by rw [HL8.out]; omega) (by rw [HL8.out]; have := HBB2.out; omega)
      rw [HL8.out, show 0 + nY + BH.length = nY + BH.length by omega] at h4
      go_wp2_with fail
      refine h4.mono ?_
      rintro e W9 ⟨hro, hb9⟩
      have HB9 : Aside (Below W0.heap.size W0 W9) := HB8.out.trans (hb9.mono HB8.out.size)
      obtain ⟨fy, dy, ny, vy, rfl, hony⟩ := rd_any hro
      obtain ⟨W10, hW10⟩ : ∃ W10, W9.alloc (.cells (fz 0).cells.toArray 28) = W10 := ⟨_, rfl⟩
      obtain ⟨G2, hG2⟩ : ∃ G2, W9.heap.size = G2 := ⟨_, rfl⟩
      have hg10 : W10.heap[G2]? = some (.cells (fz 0).cells.toArray 28 (0, 0)) := by rw [← hW10, ← hG2]; exact heap_alloc_new W9 _
      have hb10 : Below W9.heap.size W9 W10 := by rw [← hW10]; exact bel1 W9 _
      obtain ⟨W11, hW11⟩ : ∃ W11, W10.setRow G2 fy.cells.toArray = W11 := ⟨_, rfl⟩
      have hg11 : Fm W11 G2 fy := by rw [← hW11]; exact setRow_heap W10 G2 _ _ 28 (0, 0) hg10
      have hb11 : Below W9.heap.size W9 W11 := by
        refine ⟨?_, ?_, ?_, ?_, fun k hk => ?_⟩
        · rw [← hW11]; exact hb10.os
        · rw [← hW11]; exact hb10.tape
        · rw [← hW11]; exact hb10.output
        · rw [← hW11]; simpa using hb10.size
        · rw [← hW11, setRow_other W10 G2 k _ (by omega)]; exact hb10.block k hk
      have hfy42 : fy.cells.length = 42 := hony.size
      have HX11 : Aside ((Tryd.prog.info? 28).map (·.size) = some fy.cells.toArray.size) := by show _ = some fy.cells.length; rw [hfy42]; exact i28s
      have HS11 : Aside ((fz 0).cells.toArray.size = fy.cells.toArray.size) := by show (fz 0).cells.length = fy.cells.length; rw [hfy42]; rfl
      have HO11 : Aside (fy.cells.toArray.all (·.oneCell') = true) := hony.one
      have HW11 : Aside (W10.setRow G2 fy.cells.toArray = W11) := hW11
      have H10 : Aside (W10.heap[G2]? = some (.cells (fz 0).cells.toArray 28 (0, 0))) := hg10
      have H11 : Aside (Fm W11 G2 fy) := hg11
      have HB11 : Aside (Below W0.heap.size W0 W11) := HB9.out.trans (hb11.mono HB9.out.size)
      have HBW : Aside (Below w.heap.size w W11) := HB0.out.trans (HB11.out.mono HB0.out.size)
      clear h4 hro hb9 hg10 hb10 hW11 hg11 hb11 hfy42 hony
      simp only [fz, Fr.cells, List.replicate, List.cons_append, List.nil_append] at hW10
      go_upto_region 15 with (refine wpList_store_row rfl 28 _ _ rfl G2 fy.cells.toArray rfl rfl 28 _ H10.out HX11.out HS11.out HO11.out ?_; rw [HW11.out]; clear hW10 hG2)
      go_wp2
      go_ret
      have q9 := HBW.out
      rw [hF] at q9
      first | exact ⟨rfl, q9⟩ | exact ⟨rfl, HBW.out⟩
    · skip
      obtain ⟨rfl, rfl⟩ := hk9
      obtain ⟨e1, e2, e3, e4⟩ := hST' rfl
      rw [e1] at x1
      rw [e2] at x2
      rw [e3] at x4
      rw [e4] at x5
      clear e1 e2 e3 e4 hST'
      go_upto_region 8 with (refine wpList_store_row rfl 28 _ _ rfl G fx.cells.toArray rfl rfl 28 _ H4.out HX5.out HSZ.out HON.out ?_; rw [HW5.out]; clear hW4 hG)
      go_upto_region 10 with fail
      clear x0 x1 x2 x4 x5 y0 y1 y2 y4 y5
      go_wp2_with (refine wpList_load_row rfl 28 (.tmp 9) rfl G rfl 28 _ (0, 0) _ H5.out hu28 rfl HX5.out ?_)
      refine hp3.mono ?_
      rintro e W6 ⟨o3, c3, rfl, hy3, hb6⟩
      have HB6 : Aside (Below W0.heap.size W0 W6) := HB5.out.trans (hb6.mono HB5.out.size)
      have HB56 : Aside (Below W5.heap.size W5 W6) := hb6
      have HY6 : Aside (Pb W6 W0.heap.size o1 c1 Y) := HY5.out.below hb6
      have hY3 : Pb W6 W5.heap.size o3 c3 Y := ⟨by rw [HNY.out]; exact hy3⟩
      obtain ⟨SY, t1, t3⟩ : ∃ S, (convert 22 9 (.slice o1 nY c1)).run Tryd.prog W6 = .ok (.string S) W6 ∧ (convert 22 9 (.slice o3 nY c3)).run Tryd.prog W6 = .ok (.string S) W6 := ⟨_, str_any HY6.out.parts.2.1 HNY.out (fun e => by rw [← HNY.out]; exact HY6.out.parts.1 e), str_any hY3.parts.2.1 HNY.out (fun e => by rw [← HNY.out]; exact hY3.parts.1 e)⟩
      obtain ⟨z0, z5⟩ := HFM2.out W6 hb6
      have HNO : Aside (o1 = none → nY = 0 ∧ c1 = 0) := fun e => by rw [← HNY.out]; exact HY6.out.parts.1 e
      have HSL : Aside (Sl W6 o1 Y) := HY6.out.parts.2.1
      clear hp3 hy3 hb6 hY3 s1
      go_upto_region 13 with fail
      go_upto_region 14 with fail
      clear t1 t3 z0 z5
      have HM : Aside ((W6.alloc (.cells #[] 5)).ownsRow W6.heap.size 5 1 (.slice (some ⟨W6.heap.size, 0, none⟩) 0 0) 0 []) := World.ownsRow_made W6 #[] 0 (Nat.le_refl _) (by decide) rfl
      go_wp2_with (first
        | (at_builtin; (refine wpList_append_bytes_w rfl (.tmp 124) (.tmp 125) rfl W6.heap.size i0 Tryd.underlying22 hi0 hz0 hz1 hz2 (.slice (some ⟨W6.heap.size, 0, none⟩) 0 0) 0 [] rfl HM.out o1 nY c1 Y rfl HNY.out HNO.out (Sl_alloc HSL.out _) (by omega) (by simp) ?_; intro v7 W7 hown hgrow; have HO7 := mkHid hown; have HG7 : Hid (Below W6.heap.size W6 W7) := mkHid (((Below.refl W6.heap.size W6).alloc (Nat.le_refl _) _).grown hgrow (by simp) (fun k hk => (HM.out.lt k hk).1)); clear hown hgrow))
        | (at_builtin; (refine wpList_append_bytes_w rfl (.tmp 126) (.tmp 127) rfl W6.heap.size i0 Tryd.underlying22 hi0 hz0 hz1 hz2 v7 (0 + nY) ([] ++ bc Y) rfl HO7.out ob BH.length cb BH rfl rfl HN.out (HBH.out W7 (HB6.out.trans (HG7.out.mono HB6.out.size))) (by have := HBB2.out; omega) HG7.out.size ?_; intro v8 W8 hown hgrow; obtain ⟨o8, c8, rfl, hl8, hby8⟩ := By.of_own (X := Y ++ BH) (by rw [bc_append]; exact hown); have HBY8 := mkHid hby8; have HL8 := mkHid hl8; have HG8 : Hid (Below W6.heap.size W6 W8) := mkHid (HG7.out.trans (grown_below hgrow HO7.out HG7.out.size)); clear hown hgrow hl8 hby8)))
      have HB8 : Aside (Below W0.heap.size W0 W8) := HB6.out.trans (HG8.out.mono HB6.out.size)
      have h4 := HRL.out W8 o8 c8 (Y ++ BH) (HGL.out W8 HB8.out) ⟨HBY8.out.mono HB6.out.size⟩ (by rw [HL8.out]; omega) (by rw [HL8.out]; have := HBB2.out; omega)
      rw [HL8.out, show 0 + nY + BH.length = nY + BH.length by omega] at h4
      go_wp2_with fail
      refine h4.mono ?_
      rintro e W9 ⟨hro, hb9⟩
      have HB9 : Aside (Below W0.heap.size W0 W9) := HB8.out.trans (hb9.mono HB8.out.size)
      obtain ⟨fy, dy, ny, vy, rfl, hony⟩ := rd_any hro
      obtain ⟨W10, hW10⟩ : ∃ W10, W9.alloc (.cells (fz 0).cells.toArray 28) = W10 := ⟨_, rfl⟩
      obtain ⟨G2, hG2⟩ : ∃ G2, W9.heap.size = G2 := ⟨_, rfl⟩
      have hg10 : W10.heap[G2]? = some (.cells (fz 0).cells.toArray 28 (0, 0)) := by rw [← hW10, ← hG2]; exact heap_alloc_new W9 _
      have hb10 : Below W9.heap.size W9 W10 := by rw [← hW10]; exact bel1 W9 _
      obtain ⟨W11, hW11⟩ : ∃ W11, W10.setRow G2 fy.cells.toArray = W11 := ⟨_, rfl⟩
      have hg11 : Fm W11 G2 fy := by rw [← hW11]; exact setRow_heap W10 G2 _ _ 28 (0, 0) hg10
      have hb11 : Below W9.heap.size W9 W11 := by
        refine ⟨?_, ?_, ?_, ?_, fun k hk => ?_⟩
        · rw [← hW11]; exact hb10.os
        · rw [← hW11]; exact hb10.tape
        · rw [← hW11]; exact hb10.output
        · rw [← hW11]; simpa using hb10.size
        · rw [← hW11, setRow_other W10 G2 k _ (by omega)]; exact hb10.block k hk
      have hfy42 : fy.cells.length = 42 := hony.size
      have HX11 : Aside ((Tryd.prog.info? 28).map (·.size) = some fy.cells.toArray.size) := by show _ = some fy.cells.length; rw [hfy42]; exact i28s
      have HS11 : Aside ((fz 0).cells.toArray.size = fy.cells.toArray.size) := by show (fz 0).cells.length = fy.cells.length; rw [hfy42]; rfl
      have HO11 : Aside (fy.cells.toArray.all (·.oneCell') = true) := hony.one
      have HW11 : Aside (W10.setRow G2 fy.cells.toArray = W11) := hW11
      have H10 : Aside (W10.heap[G2]? = some (.cells (fz 0).cells.toArray 28 (0, 0))) := hg10
      have H11 : Aside (Fm W11 G2 fy) := hg11
      have HB11 : Aside (Below W0.heap.size W0 W11) := HB9.out.trans (hb11.mono HB9.out.size)
      have HBW : Aside (Below w.heap.size w W11) := HB0.out.trans (HB11.out.mono HB0.out.size)
      clear h4 hro hb9 hg10 hb10 hW11 hg11 hb11 hfy42 hony
      simp only [fz, Fr.cells, List.replicate, List.cons_append, List.nil_append] at hW10
      go_upto_region 15 with (refine wpList_store_row rfl 28 _ _ rfl G2 fy.cells.toArray rfl rfl 28 _ H10.out HX11.out HS11.out HO11.out ?_; rw [HW11.out]; clear hW10 hG2)
      go_wp2
      go_ret
      have q9 := HBW.out
      rw [hF] at q9
      first | exact ⟨rfl, q9⟩ | exact ⟨rfl, HBW.out⟩
    · skip
      subst hk9
      clear hST'
      go_upto_region 8 with (refine wpList_store_row rfl 28 _ _ rfl G fx.cells.toArray rfl rfl 28 _ H4.out HX5.out HSZ.out HON.out ?_; rw [HW5.out]; clear hW4 hG)
      go_upto_region 10 with fail
      clear x0 x1 x2 x4 x5 y0 y1 y2 y4 y5
      go_wp2_with (refine wpList_load_row rfl 28 (.tmp 9) rfl G rfl 28 _ (0, 0) _ H5.out hu28 rfl HX5.out ?_)
      refine hp3.mono ?_
      rintro e W6 ⟨o3, c3, rfl, hy3, hb6⟩
      have HB6 : Aside (Below W0.heap.size W0 W6) := HB5.out.trans (hb6.mono HB5.out.size)
      have HB56 : Aside (Below W5.heap.size W5 W6) := hb6
      have HY6 : Aside (Pb W6 W0.heap.size o1 c1 Y) := HY5.out.below hb6
      have hY3 : Pb W6 W5.heap.size o3 c3 Y := ⟨by rw [HNY.out]; exact hy3⟩
      obtain ⟨SY, t1, t3⟩ : ∃ S, (convert 22 9 (.slice o1 nY c1)).run Tryd.prog W6 = .ok (.string S) W6 ∧ (convert 22 9 (.slice o3 nY c3)).run Tryd.prog W6 = .ok (.string S) W6 := ⟨_, str_any HY6.out.parts.2.1 HNY.out (fun e => by rw [← HNY.out]; exact HY6.out.parts.1 e), str_any hY3.parts.2.1 HNY.out (fun e => by rw [← HNY.out]; exact hY3.parts.1 e)⟩
      obtain ⟨z0, z5⟩ := HFM2.out W6 hb6
      have HNO : Aside (o1 = none → nY = 0 ∧ c1 = 0) := fun e => by rw [← HNY.out]; exact HY6.out.parts.1 e
      have HSL : Aside (Sl W6 o1 Y) := HY6.out.parts.2.1
      clear hp3 hy3 hb6 hY3 s1
      go_upto_region 13 with fail
      go_upto_region 14 with fail
      clear t1 t3 z0 z5
      have HM : Aside ((W6.alloc (.cells #[] 5)).ownsRow W6.heap.size 5 1 (.slice (some ⟨W6.heap.size, 0, none⟩) 0 0) 0 []) := World.ownsRow_made W6 #[] 0 (Nat.le_refl _) (by decide) rfl
      go_wp2_with (first
        | (at_builtin; (refine wpList_append_bytes_w rfl (.tmp 124) (.tmp 125) rfl W6.heap.size i0 Tryd.underlying22 hi0 hz0 hz1 hz2 (.slice (some ⟨W6.heap.size, 0, none⟩) 0 0) 0 [] rfl HM.out o1 nY c1 Y rfl HNY.out HNO.out (Sl_alloc HSL.out _) (by omega) (by simp) ?_; intro v7 W7 hown hgrow; have HO7 := mkHid hown; have HG7 : Hid (Below W6.heap.size W6 W7) := mkHid (((Below.refl W6.heap.size W6).alloc (Nat.le_refl _) _).grown hgrow (by simp) (fun k hk => (HM.out.lt k hk).1)); clear hown hgrow))
        | (at_builtin; (refine wpList_append_bytes_w rfl (.tmp 126) (.tmp 127) rfl W6.heap.size i0 Tryd.underlying22 hi0 hz0 hz1 hz2 v7 (0 + nY) ([] ++ bc Y) rfl HO7.out ob BH.length cb BH rfl rfl HN.out (HBH.out W7 (HB6.out.trans (HG7.out.mono HB6.out.size))) (by have := HBB2.out; omega) HG7.out.size ?_; intro v8 W8 hown hgrow; obtain ⟨o8, c8, rfl, hl8, hby8⟩ := By.of_own (X := Y ++ BH) (by rw [bc_append]; exact hown); have HBY8 := mkHid hby8; have HL8 := mkHid hl8; have HG8 : Hid (Below W6.heap.size W6 W8) := mkHid (HG7.out.trans (grown_below hgrow HO7.out HG7.out.size)); clear hown hgrow hl8 hby8)))
      have HB8 : Aside (Below W0.heap.size W0 W8) := HB6.out.trans (HG8.out.mono HB6.out.size)
      have h4 := HRL.out W8 o8 c8 (Y ++ BH) (HGL.out W8 HB8.out) ⟨HBY8.out.mono HB6.out.size⟩ (by rw [HL8.out]; omega) (by rw [HL8.out]; have := HBB2.out; omega)
      rw [HL8.out, show 0 + nY + BH.length = nY + BH.length by omega] at h4
      go_wp2_with fail
      refine h4.mono ?_
      rintro e W9 ⟨hro, hb9⟩
      have HB9 : Aside (Below W0.heap.size W0 W9) := HB8.out.trans (hb9.mono HB8.out.size)
      obtain ⟨fy, dy, ny, vy, rfl, hony⟩ := rd_any hro
      obtain ⟨W10, hW10⟩ : ∃ W10, W9.alloc (.cells (fz 0).cells.toArray 28) = W10 := ⟨_, rfl⟩
      obtain ⟨G2, hG2⟩ : ∃ G2, W9.heap.size = G2 := ⟨_, rfl⟩
      have hg10 : W10.heap[G2]? = some (.cells (fz 0).cells.toArray 28 (0, 0)) := by rw [← hW10, ← hG2]; exact heap_alloc_new W9 _
      have hb10 : Below W9.heap.size W9 W10 := by rw [← hW10]; exact bel1 W9 _
      obtain ⟨W11, hW11⟩ : ∃ W11, W10.setRow G2 fy.cells.toArray = W11 := ⟨_, rfl⟩
      have hg11 : Fm W11 G2 fy := by rw [← hW11]; exact setRow_heap W10 G2 _ _ 28 (0, 0) hg10
      have hb11 : Below W9.heap.size W9 W11 := by
        refine ⟨?_, ?_, ?_, ?_, fun k hk => ?_⟩
        · rw [← hW11]; exact hb10.os
        · rw [← hW11]; exact hb10.tape
        · rw [← hW11]; exact hb10.output
        · rw [← hW11]; simpa using hb10.size
        · rw [← hW11, setRow_other W10 G2 k _ (by omega)]; exact hb10.block k hk
      have hfy42 : fy.cells.length = 42 := hony.size
      have HX11 : Aside ((Tryd.prog.info? 28).map (·.size) = some fy.cells.toArray.size) := by show _ = some fy.cells.length; rw [hfy42]; exact i28s
      have HS11 : Aside ((fz 0).cells.toArray.size = fy.cells.toArray.size) := by show (fz 0).cells.length = fy.cells.length; rw [hfy42]; rfl
      have HO11 : Aside (fy.cells.toArray.all (·.oneCell') = true) := hony.one
      have HW11 : Aside (W10.setRow G2 fy.cells.toArray = W11) := hW11
      have H10 : Aside (W10.heap[G2]? = some (.cells (fz 0).cells.toArray 28 (0, 0))) := hg10
      have H11 : Aside (Fm W11 G2 fy) := hg11
      have HB11 : Aside (Below W0.heap.size W0 W11) := HB9.out.trans (hb11.mono HB9.out.size)
      have HBW : Aside (Below w.heap.size w W11) := HB0.out.trans (HB11.out.mono HB0.out.size)
      clear h4 hro hb9 hg10 hb10 hW11 hg11 hb11 hfy42 hony
      simp only [fz, Fr.cells, List.replicate, List.cons_append, List.nil_append] at hW10
      go_upto_region 15 with (refine wpList_store_row rfl 28 _ _ rfl G2 fy.cells.toArray rfl rfl 28 _ H10.out HX11.out HS11.out HO11.out ?_; rw [HW11.out]; clear hW10 hG2)
      go_wp2
      go_ret
      have q9 := HBW.out
      rw [hF] at q9
      first | exact ⟨rfl, q9⟩ | exact ⟨rfl, HBW.out⟩
  · have hno' : ¬ (k = 0 ∨ k = 48 ∨ k = 8 ∧ ln = false) := by
      rcases hno with ⟨h1, h2⟩ | ⟨h1, h2, h3⟩
      · rw [h1, h2]; simp
      · intro h
        rcases h with h | h | h
        · exact h3 h
        · exact h1 h
        · exact h2 h.1
    have HSR : Aside (rdS (Y ++ BH) 0 = (ca, (Y.length, 0)) ∧ rdE (Y ++ BH) 0 = 0) := HOPN.out BH (fun h => absurd h hno')
    clear HOPN hno'
    rcases hno with hk9 | ⟨k1, k2, k3⟩
    · skip
      obtain ⟨rfl, rfl⟩ := hk9
      obtain ⟨e1, e2, e3, e4⟩ := hST' rfl
      rw [e1] at x1
      rw [e2] at x2
      rw [e3] at x4
      rw [e4] at x5
      clear e1 e2 e3 e4 hST'
      go_upto_region 8 with (refine wpList_store_row rfl 28 _ _ rfl G fx.cells.toArray rfl rfl 28 _ H4.out HX5.out HSZ.out HON.out ?_; rw [HW5.out]; clear hW4 hG)
      go_upto_region 10 with fail
      clear x0 x1 x2 x4 x5 y0 y1 y2 y4 y5
      go_wp2_with (refine wpList_load_row rfl 28 (.tmp 9) rfl G rfl 28 _ (0, 0) _ H5.out hu28 rfl HX5.out ?_)
      refine hp3.mono ?_
      rintro e W6 ⟨o3, c3, rfl, hy3, hb6⟩
      have HB6 : Aside (Below W0.heap.size W0 W6) := HB5.out.trans (hb6.mono HB5.out.size)
      have HB56 : Aside (Below W5.heap.size W5 W6) := hb6
      have HY6 : Aside (Pb W6 W0.heap.size o1 c1 Y) := HY5.out.below hb6
      have hY3 : Pb W6 W5.heap.size o3 c3 Y := ⟨by rw [HNY.out]; exact hy3⟩
      obtain ⟨SY, t1, t3⟩ : ∃ S, (convert 22 9 (.slice o1 nY c1)).run Tryd.prog W6 = .ok (.string S) W6 ∧ (convert 22 9 (.slice o3 nY c3)).run Tryd.prog W6 = .ok (.string S) W6 := ⟨_, str_any HY6.out.parts.2.1 HNY.out (fun e => by rw [← HNY.out]; exact HY6.out.parts.1 e), str_any hY3.parts.2.1 HNY.out (fun e => by rw [← HNY.out]; exact hY3.parts.1 e)⟩
      obtain ⟨z0, z5⟩ := HFM2.out W6 hb6
      have HNO : Aside (o1 = none → nY = 0 ∧ c1 = 0) := fun e => by rw [← HNY.out]; exact HY6.out.parts.1 e
      have HSL : Aside (Sl W6 o1 Y) := HY6.out.parts.2.1
      clear hp3 hy3 hb6 hY3 s1
      go_upto_region 13 with fail
      go_upto_region 14 with fail
      clear t1 t3 z0 z5
      have HM : Aside ((W6.alloc (.cells #[] 5)).ownsRow W6.heap.size 5 1 (.slice (some ⟨W6.heap.size, 0, none⟩) 0 0) 0 []) := World.ownsRow_made W6 #[] 0 (Nat.le_refl _) (by decide) rfl
      go_wp2_with (first
        | (at_builtin; (refine wpList_append_bytes_w rfl (.tmp 124) (.tmp 125) rfl W6.heap.size i0 Tryd.underlying22 hi0 hz0 hz1 hz2 (.slice (some ⟨W6.heap.size, 0, none⟩) 0 0) 0 [] rfl HM.out o1 nY c1 Y rfl HNY.out HNO.out (Sl_alloc HSL.out _) (by omega) (by simp) ?_; intro v7 W7 hown hgrow; have HO7 := mkHid hown; have HG7 : Hid (Below W6.heap.size W6 W7) := mkHid (((Below.refl W6.heap.size W6).alloc (Nat.le_refl _) _).grown hgrow (by simp) (fun k hk => (HM.out.lt k hk).1)); clear hown hgrow))
        | (at_builtin; (refine wpList_append_bytes_w rfl (.tmp 126) (.tmp 127) rfl W6.heap.size i0 Tryd.underlying22 hi0 hz0 hz1 hz2 v7 (0 + nY) ([] ++ bc Y) rfl HO7.out ob BH.length cb BH rfl rfl HN.out (HBH.out W7 (HB6.out.trans (HG7.out.mono HB6.out.size))) (by have := HBB2.out; omega) HG7.out.size ?_; intro v8 W8 hown hgrow; obtain ⟨o8, c8, rfl, hl8, hby8⟩ := By.of_own (X := Y ++ BH) (by rw [bc_append]; exact hown); have HBY8 := mkHid hby8; have HL8 := mkHid hl8; have HG8 : Hid (Below W6.heap.size W6 W8) := mkHid (HG7.out.trans (grown_below hgrow HO7.out HG7.out.size)); clear hown hgrow hl8 hby8)))
      have HB8 : Aside (Below W0.heap.size W0 W8) := HB6.out.trans (HG8.out.mono HB6.out.size)
      have h4 := HRL.out W8 o8 c8 (Y ++ BH) (HGL.out W8 HB8.out) ⟨HBY8.out.mono HB6.out.size⟩ (by rw [HL8.out]; omega) (by rw [HL8.out]; have := HBB2.out; omega)
      rw [HL8.out, show 0 + nY + BH.length = nY + BH.length by omega] at h4
      go_wp2_with fail
      refine h4.mono ?_
      rintro e W9 ⟨hro, hb9⟩
      have HB9 : Aside (Below W0.heap.size W0 W9) := HB8.out.trans (hb9.mono HB8.out.size)
      rw [if_pos HSR.out.2] at hro
      obtain ⟨fy, dy, py, Fy, rfl, haby, hgy⟩ := hro
      rw [HSR.out.1] at haby ⊢
      dsimp only at haby ⊢
      rw [HNY.out]
      have hony : On fy dy := hgy.on'
      obtain ⟨W10, hW10⟩ : ∃ W10, W9.alloc (.cells (fz 0).cells.toArray 28) = W10 := ⟨_, rfl⟩
      obtain ⟨G2, hG2⟩ : ∃ G2, W9.heap.size = G2 := ⟨_, rfl⟩
      have hg10 : W10.heap[G2]? = some (.cells (fz 0).cells.toArray 28 (0, 0)) := by rw [← hW10, ← hG2]; exact heap_alloc_new W9 _
      have hb10 : Below W9.heap.size W9 W10 := by rw [← hW10]; exact bel1 W9 _
      obtain ⟨W11, hW11⟩ : ∃ W11, W10.setRow G2 fy.cells.toArray = W11 := ⟨_, rfl⟩
      have hg11 : Fm W11 G2 fy := by rw [← hW11]; exact setRow_heap W10 G2 _ _ 28 (0, 0) hg10
      have hb11 : Below W9.heap.size W9 W11 := by
        refine ⟨?_, ?_, ?_, ?_, fun k hk => ?_⟩
        · rw [← hW11]; exact hb10.os
        · rw [← hW11]; exact hb10.tape
        · rw [← hW11]; exact hb10.output
        · rw [← hW11]; simpa using hb10.size
        · rw [← hW11, setRow_other W10 G2 k _ (by omega)]; exact hb10.block k hk
      have hfy42 : fy.cells.length = 42 := hony.size
      have HX11 : Aside ((Tryd.prog.info? 28).map (·.size) = some fy.cells.toArray.size) := by show _ = some fy.cells.length; rw [hfy42]; exact i28s
      have HS11 : Aside ((fz 0).cells.toArray.size = fy.cells.toArray.size) := by show (fz 0).cells.length = fy.cells.length; rw [hfy42]; rfl
      have HO11 : Aside (fy.cells.toArray.all (·.oneCell') = true) := hony.one
      have HW11 : Aside (W10.setRow G2 fy.cells.toArray = W11) := hW11
      have H10 : Aside (W10.heap[G2]? = some (.cells (fz 0).cells.toArray 28 (0, 0))) := hg10
      have H11 : Aside (Fm W11 G2 fy) := hg11
      have HB11 : Aside (Below W0.heap.size W0 W11) := HB9.out.trans (hb11.mono HB9.out.size)
      have HBW : Aside (Below w.heap.size w W11) := HB0.out.trans (HB11.out.mono HB0.out.size)
      have hab2 : ab fy dy = ab fx dx := haby.trans HAB.out.symm
      have hlD : dy.D.length ≤ 140737488355328 := by have := congrArg Fa.D hab2; dsimp only [ab] at this; rw [this]; exact HFX.out.lD
      have hlA : dy.A.length ≤ 140737488355328 := by have := congrArg Fa.A hab2; dsimp only [ab] at this; rw [this]; exact HFX.out.lA
      have hB511 : Below W5.heap.size W5 W11 := (HB56.out.trans (HG8.out.mono HB56.out.size)).trans ((hb9.mono (Nat.le_trans HB56.out.size HG8.out.size)).trans (hb11.mono (Nat.le_trans (Nat.le_trans HB56.out.size HG8.out.size) hb9.size)))
      have hone := one_c fy fx dy dx W11 ((hgy.below hb11).fi hlD hlA) (HFX.out.below hB511) hab2
      have HGX : Aside (Fm W11 G fx) := (hB511.block G (lt_block H5.out)).trans H5.out
      clear h4 hb9 hg10 hb10 hW11 hg11 hb11 hfy42 hony haby hgy hab2 hlD hlA hB511
      simp only [fz, Fr.cells, List.replicate, List.cons_append, List.nil_append] at hW10
      go_upto_region 15 with (refine wpList_store_row rfl 28 _ _ rfl G2 fy.cells.toArray rfl rfl 28 _ H10.out HX11.out HS11.out HO11.out ?_; rw [HW11.out]; clear hW10 hG2)
      go_wp2_with (first | (refine wpList_load_row_g (by rfl) 28 (.tmp 14) rfl G2 rfl 28 _ (0, 0) _ H11.out hu28 rfl HX11.out ?_) | (refine wpList_load_row_g (by rfl) 28 (.tmp 9) rfl G rfl 28 _ (0, 0) _ HGX.out hu28 rfl HX5.out ?_))
      refine hone.mono ?_
      rintro e W12 ⟨rfl, hb12⟩
      have HBW2 : Aside (Below w.heap.size w W12) := HBW.out.trans (hb12.mono HBW.out.size)
      clear hone hb12
      go_wp2
      go_ret
      have q9 := HBW2.out
      rw [hF] at q9
      first | exact ⟨rfl, q9⟩ | exact ⟨rfl, HBW2.out⟩
    · skip
      have q48 : (k == 48) = false := by simpa using k1
      have q8 : (k == 8) = false := by simpa using k2
      have q0 : (k == 0) = false := by simpa using k3
      clear hST' k1 k2 k3
      go_upto_region 8 with (refine wpList_store_row rfl 28 _ _ rfl G fx.cells.toArray rfl rfl 28 _ H4.out HX5.out HSZ.out HON.out ?_; rw [HW5.out]; clear hW4 hG)
      go_upto_region 10 with fail
      clear x0 x1 x2 x4 x5 y0 y1 y2 y4 y5
      go_wp2_with (refine wpList_load_row rfl 28 (.tmp 9) rfl G rfl 28 _ (0, 0) _ H5.out hu28 rfl HX5.out ?_)
      refine hp3.mono ?_
      rintro e W6 ⟨o3, c3, rfl, hy3, hb6⟩
      have HB6 : Aside (Below W0.heap.size W0 W6) := HB5.out.trans (hb6.mono HB5.out.size)
      have HB56 : Aside (Below W5.heap.size W5 W6) := hb6
      have HY6 : Aside (Pb W6 W0.heap.size o1 c1 Y) := HY5.out.below hb6
      have hY3 : Pb W6 W5.heap.size o3 c3 Y := ⟨by rw [HNY.out]; exact hy3⟩
      obtain ⟨SY, t1, t3⟩ : ∃ S, (convert 22 9 (.slice o1 nY c1)).run Tryd.prog W6 = .ok (.string S) W6 ∧ (convert 22 9 (.slice o3 nY c3)).run Tryd.prog W6 = .ok (.string S) W6 := ⟨_, str_any HY6.out.parts.2.1 HNY.out (fun e => by rw [← HNY.out]; exact HY6.out.parts.1 e), str_any hY3.parts.2.1 HNY.out (fun e => by rw [← HNY.out]; exact hY3.parts.1 e)⟩
      obtain ⟨z0, z5⟩ := HFM2.out W6 hb6
      have HNO : Aside (o1 = none → nY = 0 ∧ c1 = 0) := fun e => by rw [← HNY.out]; exact HY6.out.parts.1 e
      have HSL : Aside (Sl W6 o1 Y) := HY6.out.parts.2.1
      clear hp3 hy3 hb6 hY3 s1
      go_upto_region 13 with fail
      go_upto_region 14 with fail
      clear t1 t3 z0 z5
      have HM : Aside ((W6.alloc (.cells #[] 5)).ownsRow W6.heap.size 5 1 (.slice (some ⟨W6.heap.size, 0, none⟩) 0 0) 0 []) := World.ownsRow_made W6 #[] 0 (Nat.le_refl _) (by decide) rfl
      go_wp2_with (first
        | (at_builtin; (refine wpList_append_bytes_w rfl (.tmp 124) (.tmp 125) rfl W6.heap.size i0 Tryd.underlying22 hi0 hz0 hz1 hz2 (.slice (some ⟨W6.heap.size, 0, none⟩) 0 0) 0 [] rfl HM.out o1 nY c1 Y rfl HNY.out HNO.out (Sl_alloc HSL.out _) (by omega) (by simp) ?_; intro v7 W7 hown hgrow; have HO7 := mkHid hown; have HG7 : Hid (Below W6.heap.size W6 W7) := mkHid (((Below.refl W6.heap.size W6).alloc (Nat.le_refl _) _).grown hgrow (by simp) (fun k hk => (HM.out.lt k hk).1)); clear hown hgrow))
        | (at_builtin; (refine wpList_append_bytes_w rfl (.tmp 126) (.tmp 127) rfl W6.heap.size i0 Tryd.underlying22 hi0 hz0 hz1 hz2 v7 (0 + nY) ([] ++ bc Y) rfl HO7.out ob BH.length cb BH rfl rfl HN.out (HBH.out W7 (HB6.out.trans (HG7.out.mono HB6.out.size))) (by have := HBB2.out; omega) HG7.out.size ?_; intro v8 W8 hown hgrow; obtain ⟨o8, c8, rfl, hl8, hby8⟩ := By.of_own (X := Y ++ BH) (by rw [bc_append]; exact hown); have HBY8 := mkHid hby8; have HL8 := mkHid hl8; have HG8 : Hid (Below W6.heap.size W6 W8) := mkHid (HG7.out.trans (grown_below hgrow HO7.out HG7.out.size)); clear hown hgrow hl8 hby8)))
      have HB8 : Aside (Below W0.heap.size W0 W8) := HB6.out.trans (HG8.out.mono HB6.out.size)
      have h4 := HRL.out W8 o8 c8 (Y ++ BH) (HGL.out W8 HB8.out) ⟨HBY8.out.mono HB6.out.size⟩ (by rw [HL8.out]; omega) (by rw [HL8.out]; have := HBB2.out; omega)
      rw [HL8.out, show 0 + nY + BH.length = nY + BH.length by omega] at h4
      go_wp2_with fail
      refine h4.mono ?_
      rintro e W9 ⟨hro, hb9⟩
      have HB9 : Aside (Below W0.heap.size W0 W9) := HB8.out.trans (hb9.mono HB8.out.size)
      rw [if_pos HSR.out.2] at hro
      obtain ⟨fy, dy, py, Fy, rfl, haby, hgy⟩ := hro
      rw [HSR.out.1] at haby ⊢
      dsimp only at haby ⊢
      rw [HNY.out]
      have hony : On fy dy := hgy.on'
      obtain ⟨W10, hW10⟩ : ∃ W10, W9.alloc (.cells (fz 0).cells.toArray 28) = W10 := ⟨_, rfl⟩
      obtain ⟨G2, hG2⟩ : ∃ G2, W9.heap.size = G2 := ⟨_, rfl⟩
      have hg10 : W10.heap[G2]? = some (.cells (fz 0).cells.toArray 28 (0, 0)) := by rw [← hW10, ← hG2]; exact heap_alloc_new W9 _
      have hb10 : Below W9.heap.size W9 W10 := by rw [← hW10]; exact bel1 W9 _
      obtain ⟨W11, hW11⟩ : ∃ W11, W10.setRow G2 fy.cells.toArray = W11 := ⟨_, rfl⟩
      have hg11 : Fm W11 G2 fy := by rw [← hW11]; exact setRow_heap W10 G2 _ _ 28 (0, 0) hg10
      have hb11 : Below W9.heap.size W9 W11 := by
        refine ⟨?_, ?_, ?_, ?_, fun k hk => ?_⟩
        · rw [← hW11]; exact hb10.os
        · rw [← hW11]; exact hb10.tape
        · rw [← hW11]; exact hb10.output
        · rw [← hW11]; simpa using hb10.size
        · rw [← hW11, setRow_other W10 G2 k _ (by omega)]; exact hb10.block k hk
      have hfy42 : fy.cells.length = 42 := hony.size
      have HX11 : Aside ((Tryd.prog.info? 28).map (·.size) = some fy.cells.toArray.size) := by show _ = some fy.cells.length; rw [hfy42]; exact i28s
      have HS11 : Aside ((fz 0).cells.toArray.size = fy.cells.toArray.size) := by show (fz 0).cells.length = fy.cells.length; rw [hfy42]; rfl
      have HO11 : Aside (fy.cells.toArray.all (·.oneCell') = true) := hony.one
      have HW11 : Aside (W10.setRow G2 fy.cells.toArray = W11) := hW11
      have H10 : Aside (W10.heap[G2]? = some (.cells (fz 0).cells.toArray 28 (0, 0))) := hg10
      have H11 : Aside (Fm W11 G2 fy) := hg11
      have HB11 : Aside (Below W0.heap.size W0 W11) := HB9.out.trans (hb11.mono HB9.out.size)
      have HBW : Aside (Below w.heap.size w W11) := HB0.out.trans (HB11.out.mono HB0.out.size)
      have hab2 : ab fy dy = ab fx dx := haby.trans HAB.out.symm
      have hlD : dy.D.length ≤ 140737488355328 := by have := congrArg Fa.D hab2; dsimp only [ab] at this; rw [this]; exact HFX.out.lD
      have hlA : dy.A.length ≤ 140737488355328 := by have := congrArg Fa.A hab2; dsimp only [ab] at this; rw [this]; exact HFX.out.lA
      have hB511 : Below W5.heap.size W5 W11 := (HB56.out.trans (HG8.out.mono HB56.out.size)).trans ((hb9.mono (Nat.le_trans HB56.out.size HG8.out.size)).trans (hb11.mono (Nat.le_trans (Nat.le_trans HB56.out.size HG8.out.size) hb9.size)))
      have hone := one_c fy fx dy dx W11 ((hgy.below hb11).fi hlD hlA) (HFX.out.below hB511) hab2
      have HGX : Aside (Fm W11 G fx) := (hB511.block G (lt_block H5.out)).trans H5.out
      clear h4 hb9 hg10 hb10 hW11 hg11 hb11 hfy42 hony haby hgy hab2 hlD hlA hB511
      simp only [fz, Fr.cells, List.replicate, List.cons_append, List.nil_append] at hW10
      go_upto_region 15 with (refine wpList_store_row rfl 28 _ _ rfl G2 fy.cells.toArray rfl rfl 28 _ H10.out HX11.out HS11.out HO11.out ?_; rw [HW11.out]; clear hW10 hG2)
      go_wp2_with (first | (refine wpList_load_row_g (by rfl) 28 (.tmp 14) rfl G2 rfl 28 _ (0, 0) _ H11.out hu28 rfl HX11.out ?_) | (refine wpList_load_row_g (by rfl) 28 (.tmp 9) rfl G rfl 28 _ (0, 0) _ HGX.out hu28 rfl HX5.out ?_))
      refine hone.mono ?_
      rintro e W12 ⟨rfl, hb12⟩
      have HBW2 : Aside (Below w.heap.size w W12) := HBW.out.trans (hb12.mono HBW.out.size)
      clear hone hb12
      go_wp2
      go_ret
      have q9 := HBW2.out
      rw [hF] at q9
      first | exact ⟨rfl, q9⟩ | exact ⟨rfl, HBW2.out⟩
end Go.Proofs.YtaeapgkfmofjlaaDoor
