/- VaultSeals, the walk. -/
import Derived.Test.YthhoknkdmmldbaaSm
namespace Go.Proofs.Ythhoknkdmmldbaa
open Go.RowKit Go.Shelf Go.Lib
set_option linter.unusedVariables false

set_option maxRecDepth 100000 in
set_option maxHeartbeats 8000000 in
theorem seals_walk (op oa : Option Addr) (cp ca : Nat) (lp la : List UInt8) (num : Int) (w : World) (hSp : Sl w op lp) (hSa : Sl w oa la) (hlp : lp.length ≤ 140737488351232) (hla : la.length ≤ 140737488351232) : Calls Try.prog 5 #[.slice op lp.length cp, .slice oa la.length ca, .int .i64 num] w fun e w' => e = .returned (.bool true) ∧ Below w.heap.size w w' := by
  obtain ⟨hn0, hn1⟩ := and_24 num
  obtain ⟨nn, hnn⟩ : ∃ nn, bits .and .i64 num 16777215 = nn := ⟨_, rfl⟩
  rw [hnn] at hn0 hn1
  obtain ⟨NP, hNP⟩ : ∃ NP, lp.length = NP := ⟨_, rfl⟩
  obtain ⟨NA, hNA⟩ : ∃ NA, la.length = NA := ⟨_, rfl⟩
  rw [hNP, hNA]
  have HSP : Aside (Sl w op lp) := hSp
  have HSA : Aside (Sl w oa la) := hSa
  have HNP : Aside _ := hNP
  have HNA : Aside _ := hNA
  have HLP : Aside _ := hlp
  have HLA : Aside _ := hla
  have jw : IntKind.i64.wrap (nn + 1) = nn + 1 := by rw [IntKind.wrap_i64]; omega
  have hNPl : NP ≤ 140737488351232 := by omega
  clear hSp hSa hNP hNA hlp hla
  go_enter Try.func5, Try.ntmps5
  go_wp2_with fail
  refine (new_c _).mono ?_
  rintro e W1 ⟨V, G, c, M, rfl, hv, hb⟩
  have HA0 : Aside (Ag w W1 V [rt]) := ⟨hb, G, c, M, hv⟩
  clear hv hb
  go_wp2_with fail
  refine Calls.mono (HA0.out.new (by simp)) ?_
  rintro e W2 ⟨rfl, ha, hbx⟩
  have HA1 : Aside (Ag w W2 V [rt, fr]) := ha
  clear ha hbx HA0
  go_wp2_with fail
  refine Calls.mono (HA1.out.new (by simp)) ?_
  rintro e W4 ⟨rfl, ha, hbx⟩
  have HA : Aside (Ag w W4 V [rt, fr, fr]) := ha
  clear ha hbx HA1
  have X3 : Aside _ := a2 W4 (.cells (hl z16).toArray 28) (.cells (hl z16).toArray 28)
  go_wp2_with (refine st28 rfl (.tmp 8) (.tmp 31) rfl W4.heap.size (nameL 1) rfl rfl z16 X3.out.1 (nameL_len 1) rfl (Hid.out ?_))
  rw [hz28, hz28]
  have hsz : w.heap.size ≤ W4.heap.size := HA.out.bel.size
  have HA' : Aside (Ag w ((W4.alloc (.cells (hl z16).toArray 28)).alloc (.cells (hl z16).toArray 28)) V [rt, fr, fr]) := HA.out.go X3.out.2.2
  obtain ⟨B8, hB8⟩ : ∃ B8, W4.heap.size = B8 := ⟨_, rfl⟩
  rw [hB8] at hsz ⊢
  have X8 : Aside _ := X3.out.1
  have X9 : Aside _ := X3.out.2.1
  rw [hB8] at X8 X9
  obtain ⟨B9, hB9⟩ : ∃ B9, B8 + 1 = B9 := ⟨_, rfl⟩
  rw [hB9] at X9 ⊢
  clear X3 HA
  generalize (W4.alloc (.cells (hl z16).toArray 28)).alloc (.cells (hl z16).toArray 28) = W5 at *
  have g8 : w.heap.size ≤ B8 := hsz
  have g9 : w.heap.size ≤ B9 := by omega
  have n89 : B8 ≠ B9 := by omega
  clear hB8 hB9 hsz
  have HA1 : Aside (Ag w (W5.setRow B8 (hl (nameL 1)).toArray) V [rt, fr, fr]) := HA'.out.set X8.out g8 _
  have Y8 : Aside _ := setRow_heap W5 B8 _ (hl (nameL 1)).toArray 28 (0, 0) X8.out
  have Y9 : Aside _ := (setRow_other W5 B8 B9 (hl (nameL 1)).toArray n89.symm).trans X9.out
  clear X8 X9 HA'
  generalize W5.setRow B8 (hl (nameL 1)).toArray = W6 at *
  refine mkHid ?_
  go_wp2_with (refine st28 rfl (.tmp 9) (.tmp 33) rfl B9 (nameL 2) rfl rfl z16 Y9.out (nameL_len 2) rfl (Hid.out ?_))
  have HA2 : Aside (Ag w (W6.setRow B9 (hl (nameL 2)).toArray) V [rt, fr, fr]) := HA1.out.set Y9.out g9 _
  have Z8 : Aside _ := (setRow_other W6 B9 B8 (hl (nameL 2)).toArray n89).trans Y8.out
  have Z9 : Aside _ := setRow_heap W6 B9 _ (hl (nameL 2)).toArray 28 (0, 0) Y9.out
  clear Y8 Y9 HA1
  generalize W6.setRow B9 (hl (nameL 2)).toArray = W7 at *
  refine mkHid ?_
  by_cases hbig : 65536 < NP
  · have HSB : Aside (Calls Try.prog 18 #[.pointer (some ⟨V, 0, none⟩), hv (nameL 1), .int .i64 nn, .slice oa NA ca, .slice op NP cp] W7 fun e w' => e = .returned (.tuple #[.slice none 0 0, .int .i64 3]) ∧ Below W7.heap.size W7 w') := by
      obtain ⟨G, c, M, hv⟩ := HA2.out.va
      exact seal_big hv (by simp) 1 (by simp) nn hn0 oa op NA NP ca cp hbig
    have j1 : (65536 : Int) < (NP : Int) := by omega
    have j2 : decide ((65536 : Int) < (NP : Int)) = true := by simpa using j1
    go_wp2_with (refine ld28 rfl (.tmp 8) rfl B8 rfl (nameL 1) Z8.out (nameL_len 1) ?_)
    refine Calls.mono HSB.out ?_
    rintro e W8 ⟨rfl, hb⟩
    have HBE : Aside (Below w.heap.size w W8) := HA2.out.bel.trans (hb.mono HA2.out.bel.size)
    clear hb
    go_wp2
    go_ret
    exact ⟨rfl, HBE.out⟩
  have j1 : ¬ (65536 : Int) < (NP : Int) := by omega
  have j2 : decide ((65536 : Int) < (NP : Int)) = false := by simpa using j1
  have j3 : IntKind.i64.wrap ((NP : Int) + 16) = (NP : Int) + 16 := by rw [IntKind.wrap_i64]; omega
  have hNP6 : NP ≤ 65536 := by omega
  have HSE : Aside (Calls Try.prog 18 #[.pointer (some ⟨V, 0, none⟩), hv (nameL 1), .int .i64 nn, .slice oa NA ca, .slice op NP cp] W7 fun e w' => ∃ g cg, e = .returned (.tuple #[.slice (some ⟨g, 0, none⟩) (NP + 16) cg, .int .i64 0]) ∧ Sg w w' V B8 B9 g cg NP (L4s nn la lp)) := by
    rw [← HNP.out, ← HNA.out]
    exact sg_seal HA2.out Z8.out Z9.out nn hn0 oa op ca cp la lp (HSA.out.bel HA2.out.bel) (HSP.out.bel HA2.out.bel) (by rw [HNP.out]; exact hNP6)
  go_wp2_with (refine ld28 rfl (.tmp 8) rfl B8 rfl (nameL 1) Z8.out (nameL_len 1) ?_)
  refine Calls.mono HSE.out ?_
  rintro e W8 ⟨g, cg, rfl, hsg⟩
  have HS8 : Aside (Sg w W8 V B8 B9 g cg NP (L4s nn la lp)) := hsg
  have j2' : decide ((65536 : Int) < (NP : Int)) = false := j2
  clear hsg HSE HA2 Z8 Z9
  have HO1 : Aside (∀ X, Sg w X V B8 B9 g cg NP (L4s nn la lp) → Calls Try.prog 19 #[.pointer (some ⟨V, 0, none⟩), hv (nameL 1), .int .i64 nn, .slice oa NA ca, .slice (some ⟨g, 0, none⟩) (NP + 16) cg] X fun e w' => (∃ gx cx, e = .returned (.tuple #[.slice (some ⟨gx, 0, none⟩) NP cx, .int .i64 0]) ∧ Sl w' (some ⟨gx, 0, none⟩) lp) ∧ Sg w w' V B8 B9 g cg NP (L4s nn la lp) ∧ Below X.heap.size X w') := fun X hX => by
    have := hX.opn_yes nn hn0 oa ca la lp (HSA.out.bel hX.ag.bel) HNP.out hNP6
    rw [HNA.out] at this
    exact this
  have HON : Aside (∀ X k m ob nb cb lb (og : Nat) (cc : Nat) (lc : List UInt8), Sg w X V B8 B9 g cg NP (L4s nn la lp) → k < 4 → 0 ≤ m → Sl X ob lb → lb.length = nb → By w.heap.size X (some ⟨og, 0, none⟩) cc lc → lc.length = NP + 16 → ¬ (k = 1 ∧ m = nn ∧ lb = la ∧ lc = zn NP 3) → Calls Try.prog 19 #[.pointer (some ⟨V, 0, none⟩), hv (nameL k), .int .i64 m, .slice ob nb cb, .slice (some ⟨og, 0, none⟩) (NP + 16) cc] X fun e w' => e = .returned (.tuple #[.slice none 0 0, .int .i64 20]) ∧ Sg w w' V B8 B9 g cg NP (L4s nn la lp) ∧ Below X.heap.size X w') := fun X k m ob nb cb lb og cc lc hX hk hm hs hnb hby hlc hno => by
    have := hX.opn_no k hk m hm ob cb lb hs (some ⟨og, 0, none⟩) cc lc hby HNP.out hNP6 hno
    rw [hnb, hlc] at this
    exact this
  go_wp2_with (refine ld28 rfl (.tmp 8) rfl B8 rfl (nameL 1) HS8.out.b8 (nameL_len 1) ?_)
  refine Calls.mono (HO1.out W8 HS8.out) ?_
  rintro e W9 ⟨⟨gx, cx, rfl, hsx⟩, hsg, hbe⟩
  have HS9 : Aside (Sg w W9 V B8 B9 g cg NP (L4s nn la lp)) := hsg
  have HX9 : Aside (Sl W9 (some ⟨gx, 0, none⟩) lp) := hsx
  clear hsg hsx hbe HS8 HO1
  go_wp2_with (refine ld28 rfl (.tmp 9) rfl B9 rfl (nameL 2) HS9.out.b9 (nameL_len 2) ?_)
  refine Calls.mono (HON.out W9 2 nn oa NA ca la g cg (zn NP 3) HS9.out (by omega) hn0 (HSA.out.bel HS9.out.ag.bel) HNA.out HS9.out.sb (by simp) (by omega)) ?_
  rintro e W10 ⟨rfl, hsg, hbe⟩
  have HS10 : Aside (Sg w W10 V B8 B9 g cg NP (L4s nn la lp)) := hsg
  have HX10 : Aside (Sl W10 (some ⟨gx, 0, none⟩) lp) := HX9.out.bel hbe
  clear hsg hbe HS9 HX9
  go_wp2_with (refine ld28 rfl (.tmp 8) rfl B8 rfl (nameL 1) HS10.out.b8 (nameL_len 1) ?_)
  refine Calls.mono (HON.out W10 1 (nn + 1) oa NA ca la g cg (zn NP 3) HS10.out (by omega) (by omega) (HSA.out.bel HS10.out.ag.bel) HNA.out HS10.out.sb (by simp) (by omega)) ?_
  rintro e W11 ⟨rfl, hsg, hbe⟩
  have HS11 : Aside (Sg w W11 V B8 B9 g cg NP (L4s nn la lp)) := hsg
  have HX11 : Aside (Sl W11 (some ⟨gx, 0, none⟩) lp) := HX10.out.bel hbe
  clear hsg hbe HS10 HX10
  have mixed : Try.prog.follows Departure.mixedOrders = true := by kernel_rfl
  go_upto_region 12 with fail
  go_cut [19, 20] from 83 to 96 (fun s19 s20 wr => s19 = .slice none 0 0 ∧ s20 = .int .i64 20 ∧ Aside (Sg w wr V B8 B9 g cg NP (L4s nn la lp)) ∧ Aside (Sl wr (some ⟨gx, 0, none⟩) lp))
  case first =>
    obtain ⟨F, hF⟩ : ∃ F : World → Prop, ∀ X, F X ↔ Below W11.heap.size W11 X := ⟨_, fun _ => Iff.rfl⟩
    have HF : Aside (F W11.drew) := (hF _).2 (bel_drew W11)
    have HSZ : Aside (∀ X, F X → W11.heap.size ≤ X.heap.size) := fun X h => ((hF X).1 h).size
    have HFL : Aside (∀ X, F X → X.rangeAt B8 0 (hl (nameL 1))) := fun X h => range_of' (HS11.out.bel ((hF X).1 h)).b8
    have HFB : Aside (∀ X X', F X → Below W11.heap.size X X' → F X') := fun X X' hX hb => (hF _).2 (((hF X).1 hX).trans hb)
    have HSL : Aside (∀ X, F X → Sl X oa la) := fun X hX => HSA.out.bel (HS11.out.ag.bel.trans (((hF X).1 hX).mono HS11.out.ag.bel.size))
    have HOP : Aside (∀ X g2 c2, F X → Sl X (some ⟨g2, 0, none⟩) (la ++ [1]) → Calls Try.prog 19 #[.pointer (some ⟨V, 0, none⟩), hv (nameL 1), .int .i64 nn, .slice (some ⟨g2, 0, none⟩) (NA + 1) c2, .slice (some ⟨g, 0, none⟩) (NP + 16) cg] X fun e w' => e = .returned (.tuple #[.slice none 0 0, .int .i64 20]) ∧ F w') := fun X g2 c2 hX hs => by
      have hsx := HS11.out.bel ((hF X).1 hX)
      refine (HON.out X 1 nn (some ⟨g2, 0, none⟩) (NA + 1) c2 (la ++ [1]) g cg (zn NP 3) hsx (by omega) hn0 hs (by simp [HNA.out]) hsx.sb (by simp) (by simp)).mono ?_
      rintro e w' ⟨rfl, _, hb⟩
      exact ⟨rfl, (hF _).2 (((hF X).1 hX).trans (hb.mono ((hF X).1 hX).size))⟩
    have HA1 : Aside (∀ X k, F X → X.heap[k]? = some (.cells #[] 5 (0, 0)) → W11.heap.size ≤ k → ∃ v X', (Builtin.append_ #[38, 38] 38 #[.slice (some ⟨k, 0, none⟩) 0 0, .slice oa NA ca]).run Try.prog X = .ok v X' ∧ X'.ownsRow W11.heap.size 5 1 v NA (hl la) ∧ F X' ∧ (∀ j, j < X.heap.size → j ≠ k → X'.heap[j]? = X.heap[j]?)) := fun X k hX hk hge => by
      obtain ⟨v, X', h1, h2, h3, h4⟩ := ap1 (cp := ca) hk hge (HSZ.out X hX) (HSL.out X hX) HLA.out
      rw [HNA.out] at h1 h2
      exact ⟨v, X', h1, h2, HFB.out _ _ hX (h3.bel (HSZ.out X hX)), h4⟩
    have HA2 : Aside (∀ X k v, F X → X.heap[k]? = some (.cells #[.int .u8 1] 5 (0, 0)) → X.ownsRow W11.heap.size 5 1 v NA (hl la) → ∃ g c X', (Builtin.append_ #[38, 38] 38 #[v, .slice (some ⟨k, 0, none⟩) 1 1]).run Try.prog X = .ok (.slice (some ⟨g, 0, none⟩) (NA + 1) c) X' ∧ Sl X' (some ⟨g, 0, none⟩) (la ++ [1]) ∧ F X') := fun X k v hX hk ho => by
      obtain ⟨g, c, X', h1, h2, h3⟩ := ap2x (x := 1) hk (HSZ.out X hX) (by rw [HNA.out]; exact ho) HLA.out
      rw [HNA.out] at h1
      exact ⟨g, c, X', h1, h2, HFB.out _ _ hX (h3.bel (HSZ.out X hX))⟩
    have HFE : Aside (∀ X, F X → Sg w X V B8 B9 g cg NP (L4s nn la lp) ∧ Sl X (some ⟨gx, 0, none⟩) lp) := fun X hX => ⟨HS11.out.bel ((hF X).1 hX), HX11.out.bel ((hF X).1 hX)⟩
    have HAL : Aside (∀ X o, F X → F (X.alloc o)) := fun X o hX => HFB.out _ _ hX ((bel1 X o).mono (HSZ.out X hX))
    have hm1 : (Try.prog.info? 28).map (·.size) = some (hl (nameL 1)).length := hi28.trans (by simp [nameL_len])
    have hmu := hu28
    clear hF HFB HSL HON HS11 HX11 HSA HSP HNP HNA HLP HLA
    unfold hv at HOP
    generalize hl (nameL 1) = Z1 at *
    generalize hHL : hl la = ZL at *
    clear hHL
    refine wp_region_held_drew (S := F) (by kernel_rfl) HF.out (fun hHeld => ?_)
    refine wpAnyH_take (i := 0) (v := .pointer (some ⟨V, 0, none⟩)) rfl (by kernel_rfl) (by kernel_rfl) (by kernel_rfl) (fun _ _ _ h => h) (Or.inl ⟨by rfl, by intro w hs; go_simp⟩) hHeld ?_
    refine norm_any' (fun K hK => ?_)
    go_simp
    refine hK _ _ ?_
    clear hK K
    refine wpAnyH_take (i := 1) (v := .agg Z1.toArray) rfl (by kernel_rfl) (by kernel_rfl) (by kernel_rfl) (fun _ _ _ h => h) (yieldsIf_load_mid (by rfl) 28 _ rfl B8 0 rfl Z1 _ (fun X h => HFL.out X h) hmu rfl hm1) hHeld ?_
    refine norm_any' (fun K hK => ?_)
    go_simp
    refine hK _ _ ?_
    clear hK K
    refine wpAnyH_take (i := 2) (v := .int .i64 nn) rfl (by kernel_rfl) (by kernel_rfl) (by kernel_rfl) (fun _ _ _ h => h) (Or.inl ⟨by rfl, by intro w hs; go_simp⟩) hHeld ?_
    refine norm_any' (fun K hK => ?_)
    go_simp
    refine hK _ _ ?_
    clear hK K
    refine wpAnyH_take (i := 4) (v := .slice oa NA ca) rfl (by kernel_rfl) (by kernel_rfl) (by kernel_rfl) (fun _ _ _ h => h) (Or.inl ⟨by rfl, by intro w hs; go_simp⟩) hHeld ?_
    refine norm_any' (fun K hK => ?_)
    go_simp
    refine hK _ _ ?_
    clear hK K
    refine wpAnyH_take (i := 8) (v := .slice (some ⟨g, 0, none⟩) (NP + 16) cg) rfl (by kernel_rfl) (by kernel_rfl) (by kernel_rfl) (fun _ _ _ h => h) (Or.inl ⟨by rfl, by intro w hs; go_simp⟩) hHeld ?_
    refine norm_any' (fun K hK => ?_)
    go_simp
    refine hK _ _ ?_
    clear hK K
    have hYs := HSZ.out _ HF.out
    refine wpAnyH_ready (rs := [3, 6]) (by kernel_rfl) (by simp) (AllReadyH.cons rfl (fun K hK => ?_) (AllReadyH.cons rfl (fun K hK => ?_) AllReadyH.nil))
    · skip
      have HFa : Aside (F (W11.drew.alloc (.cells #[] 5))) := HAL.out _ _ HF.out
      have HKa : Aside _ := heap_alloc_new W11.drew (.cells #[] 5)
      go_simp
      refine hK.out _ _ HFa.out (fun hHeld => ?_)
      clear hK K
      refine norm_any' (fun K hK => ?_)
      go_simp
      refine hK _ _ ?_
      clear hK K
      refine wpAnyH_ready (rs := [5, 6]) (by kernel_rfl) (by simp) (AllReadyH.cons rfl (fun K hK => ?_) (AllReadyH.cons rfl (fun K hK => ?_) AllReadyH.nil))
      · skip
        obtain ⟨v1, Y3, hr1, ho1, hf1, hk1⟩ := HA1.out _ _ HFa.out HKa.out hYs
        have HR1 : Aside _ := hr1
        have HO1 : Aside _ := ho1
        have HF3 : Aside (F Y3) := hf1
        clear hr1 ho1 hf1 hk1
        refine step_append_g (by rfl) _ _ 38 38 rfl _ _ (by rfl) (by rfl) HR1.out ?_
        refine hK.out _ _ HF3.out (fun hHeld => ?_)
        clear hK K
        refine norm_any' (fun K hK => ?_)
        go_simp
        refine hK _ _ ?_
        clear hK K
        refine wpAnyH_ready (rs := [6]) (by kernel_rfl) (by simp) (AllReadyH.cons rfl (fun K hK => ?_) AllReadyH.nil)
        have HF4 : Aside (F (Y3.alloc (.cells #[.int .u8 1] 5))) := HAL.out _ _ HF3.out
        have HK4 : Aside _ := heap_alloc_new Y3 (.cells #[.int .u8 1] 5)
        have HO4 : Aside _ := own_bel HO1.out (bel1 Y3 (.cells #[.int .u8 1] 5))
        go_simp
        refine hK.out _ _ HF4.out (fun hHeld => ?_)
        clear hK K
        refine norm_any' (fun K hK => ?_)
        go_simp
        refine hK _ _ ?_
        clear hK K
        obtain ⟨g5, c5, Y5, hr2, hs5, hf5⟩ := HA2.out _ _ _ HF4.out HK4.out HO4.out
        have HR2 : Aside _ := hr2
        have HS5 : Aside (Sl Y5 (some ⟨g5, 0, none⟩) (la ++ [1])) := hs5
        have HF5 : Aside (F Y5) := hf5
        clear hr2 hs5 hf5
        refine wpAnyH_ready (rs := [7]) (by kernel_rfl) (by simp) (AllReadyH.cons rfl (fun K hK => ?_) AllReadyH.nil)
        refine step_append_g (by rfl) _ _ 38 38 rfl _ _ (by rfl) (by rfl) HR2.out ?_
        refine hK.out _ _ HF5.out (fun hHeld => ?_)
        clear hK K
        refine norm_any' (fun K hK => ?_)
        go_simp
        refine hK _ _ ?_
        clear hK K
        refine wpAnyH_ready (rs := [9]) (by kernel_rfl) (by simp) (AllReadyH.cons rfl (fun K hK => ?_) AllReadyH.nil)
        go_simp
        refine Calls.mono (HOP.out _ _ _ HF5.out HS5.out) ?_
        rintro e Y6 ⟨rfl, hz⟩
        have HF6 : Aside (F Y6) := hz
        clear hz
        refine hK.out _ _ HF6.out (fun hHeld => ?_)
        clear hK K
        refine norm_any' (fun K hK => ?_)
        go_simp
        refine hK _ _ ?_
        clear hK K
        refine wpAnyH_take (i := 10) (v := .tuple #[.slice none 0 0, .int .i64 20]) rfl (by kernel_rfl) (by kernel_rfl) (by kernel_rfl) (fun _ _ _ h => h) (Or.inl ⟨by rfl, by intro w hs; go_simp⟩) hHeld ?_
        refine norm_any' (fun K hK => ?_)
        go_simp
        refine hK _ _ ?_
        clear hK K
        refine wpAnyH_take (i := 11) (v := .slice none 0 0) rfl (by kernel_rfl) (by kernel_rfl) (by kernel_rfl) (fun _ _ _ h => h) (Or.inl ⟨by rfl, by intro w hs; go_simp⟩) hHeld ?_
        refine norm_any' (fun K hK => ?_)
        go_simp
        refine hK _ _ ?_
        clear hK K
        refine wpAnyH_take (i := 12) (v := .int .i64 20) rfl (by kernel_rfl) (by kernel_rfl) (by kernel_rfl) (fun _ _ _ h => h) (Or.inl ⟨by rfl, by intro w hs; go_simp⟩) hHeld ?_
        refine norm_any' (fun K hK => ?_)
        go_simp
        refine hK _ _ ?_
        clear hK K
        refine wpAnyH_take (i := 13) (v := .slice none 0 0) rfl (by kernel_rfl) (by kernel_rfl) (by kernel_rfl) (fun _ _ _ h => h) (Or.inl ⟨by rfl, by intro w hs; go_simp⟩) hHeld ?_
        refine norm_any' (fun K hK => ?_)
        go_simp
        refine hK _ _ ?_
        clear hK K
        refine wpAnyH_take (i := 14) (v := .int .i64 20) rfl (by kernel_rfl) (by kernel_rfl) (by kernel_rfl) (fun _ _ _ h => h) (Or.inl ⟨by rfl, by intro w hs; go_simp⟩) hHeld ?_
        refine norm_any' (fun K hK => ?_)
        go_simp
        refine hK _ _ ?_
        clear hK K
        refine wpAnyH_done (by kernel_rfl) ?_ _
        clear hHeld HFL HOP HA1 HA2
        go_wp2_with fail
        go_meet
        exact ⟨rfl, rfl, (HFE.out _ HF6.out).1, (HFE.out _ HF6.out).2⟩
      · skip
        have HFb : Aside (F ((W11.drew.alloc (.cells #[] 5)).alloc (.cells #[.int .u8 1] 5))) := HAL.out _ _ HFa.out
        have HKb : Aside (((W11.drew.alloc (.cells #[] 5)).alloc (.cells #[.int .u8 1] 5)).heap[W11.heap.size + 1]? = some (.cells #[.int .u8 1] 5 (0, 0))) := new' (by simp)
        have HKc : Aside (((W11.drew.alloc (.cells #[] 5)).alloc (.cells #[.int .u8 1] 5)).heap[W11.heap.size]? = some (.cells #[] 5 (0, 0))) := nth' HKa.out
        have HLT2 : Aside (W11.heap.size + 1 < ((W11.drew.alloc (.cells #[] 5)).alloc (.cells #[.int .u8 1] 5)).heap.size) := by show _ < _; simp
        go_simp
        refine hK.out _ _ HFb.out (fun hHeld => ?_)
        clear hK K
        refine norm_any' (fun K hK => ?_)
        go_simp
        refine hK _ _ ?_
        clear hK K
        refine wpAnyH_ready (rs := [5]) (by kernel_rfl) (by simp) (AllReadyH.cons rfl (fun K hK => ?_) AllReadyH.nil)
        obtain ⟨v1, Y3, hr1, ho1, hf1, hk1⟩ := HA1.out _ _ HFb.out HKc.out hYs
        have HR1 : Aside _ := hr1
        have HO4 : Aside _ := ho1
        have HF4 : Aside (F Y3) := hf1
        have HK4 : Aside _ := (hk1 _ HLT2.out (by omega)).trans HKb.out
        clear hr1 ho1 hf1 hk1
        refine step_append_g (by rfl) _ _ 38 38 rfl _ _ (by rfl) (by rfl) HR1.out ?_
        refine hK.out _ _ HF4.out (fun hHeld => ?_)
        clear hK K
        refine norm_any' (fun K hK => ?_)
        go_simp
        refine hK _ _ ?_
        clear hK K
        obtain ⟨g5, c5, Y5, hr2, hs5, hf5⟩ := HA2.out _ _ _ HF4.out HK4.out HO4.out
        have HR2 : Aside _ := hr2
        have HS5 : Aside (Sl Y5 (some ⟨g5, 0, none⟩) (la ++ [1])) := hs5
        have HF5 : Aside (F Y5) := hf5
        clear hr2 hs5 hf5
        refine wpAnyH_ready (rs := [7]) (by kernel_rfl) (by simp) (AllReadyH.cons rfl (fun K hK => ?_) AllReadyH.nil)
        refine step_append_g (by rfl) _ _ 38 38 rfl _ _ (by rfl) (by rfl) HR2.out ?_
        refine hK.out _ _ HF5.out (fun hHeld => ?_)
        clear hK K
        refine norm_any' (fun K hK => ?_)
        go_simp
        refine hK _ _ ?_
        clear hK K
        refine wpAnyH_ready (rs := [9]) (by kernel_rfl) (by simp) (AllReadyH.cons rfl (fun K hK => ?_) AllReadyH.nil)
        go_simp
        refine Calls.mono (HOP.out _ _ _ HF5.out HS5.out) ?_
        rintro e Y6 ⟨rfl, hz⟩
        have HF6 : Aside (F Y6) := hz
        clear hz
        refine hK.out _ _ HF6.out (fun hHeld => ?_)
        clear hK K
        refine norm_any' (fun K hK => ?_)
        go_simp
        refine hK _ _ ?_
        clear hK K
        refine wpAnyH_take (i := 10) (v := .tuple #[.slice none 0 0, .int .i64 20]) rfl (by kernel_rfl) (by kernel_rfl) (by kernel_rfl) (fun _ _ _ h => h) (Or.inl ⟨by rfl, by intro w hs; go_simp⟩) hHeld ?_
        refine norm_any' (fun K hK => ?_)
        go_simp
        refine hK _ _ ?_
        clear hK K
        refine wpAnyH_take (i := 11) (v := .slice none 0 0) rfl (by kernel_rfl) (by kernel_rfl) (by kernel_rfl) (fun _ _ _ h => h) (Or.inl ⟨by rfl, by intro w hs; go_simp⟩) hHeld ?_
        refine norm_any' (fun K hK => ?_)
        go_simp
        refine hK _ _ ?_
        clear hK K
        refine wpAnyH_take (i := 12) (v := .int .i64 20) rfl (by kernel_rfl) (by kernel_rfl) (by kernel_rfl) (fun _ _ _ h => h) (Or.inl ⟨by rfl, by intro w hs; go_simp⟩) hHeld ?_
        refine norm_any' (fun K hK => ?_)
        go_simp
        refine hK _ _ ?_
        clear hK K
        refine wpAnyH_take (i := 13) (v := .slice none 0 0) rfl (by kernel_rfl) (by kernel_rfl) (by kernel_rfl) (fun _ _ _ h => h) (Or.inl ⟨by rfl, by intro w hs; go_simp⟩) hHeld ?_
        refine norm_any' (fun K hK => ?_)
        go_simp
        refine hK _ _ ?_
        clear hK K
        refine wpAnyH_take (i := 14) (v := .int .i64 20) rfl (by kernel_rfl) (by kernel_rfl) (by kernel_rfl) (fun _ _ _ h => h) (Or.inl ⟨by rfl, by intro w hs; go_simp⟩) hHeld ?_
        refine norm_any' (fun K hK => ?_)
        go_simp
        refine hK _ _ ?_
        clear hK K
        refine wpAnyH_done (by kernel_rfl) ?_ _
        clear hHeld HFL HOP HA1 HA2
        go_wp2_with fail
        go_meet
        exact ⟨rfl, rfl, (HFE.out _ HF6.out).1, (HFE.out _ HF6.out).2⟩
    · skip
      have HFa : Aside (F (W11.drew.alloc (.cells #[.int .u8 1] 5))) := HAL.out _ _ HF.out
      have HKa : Aside _ := heap_alloc_new W11.drew (.cells #[.int .u8 1] 5)
      go_simp
      refine hK.out _ _ HFa.out (fun hHeld => ?_)
      clear hK K
      refine norm_any' (fun K hK => ?_)
      go_simp
      refine hK _ _ ?_
      clear hK K
      refine wpAnyH_ready (rs := [3]) (by kernel_rfl) (by simp) (AllReadyH.cons rfl (fun K hK => ?_) AllReadyH.nil)
      have HFb : Aside (F ((W11.drew.alloc (.cells #[.int .u8 1] 5)).alloc (.cells #[] 5))) := HAL.out _ _ HFa.out
      have HKc : Aside (((W11.drew.alloc (.cells #[.int .u8 1] 5)).alloc (.cells #[] 5)).heap[W11.heap.size + 1]? = some (.cells #[] 5 (0, 0))) := new' (by simp)
      have HKb : Aside (((W11.drew.alloc (.cells #[.int .u8 1] 5)).alloc (.cells #[] 5)).heap[W11.heap.size]? = some (.cells #[.int .u8 1] 5 (0, 0))) := nth' HKa.out
      have HLT2 : Aside (W11.heap.size < ((W11.drew.alloc (.cells #[.int .u8 1] 5)).alloc (.cells #[] 5)).heap.size) := by show _ < _; simp; omega
      go_simp
      refine hK.out _ _ HFb.out (fun hHeld => ?_)
      clear hK K
      refine norm_any' (fun K hK => ?_)
      go_simp
      refine hK _ _ ?_
      clear hK K
      refine wpAnyH_ready (rs := [5]) (by kernel_rfl) (by simp) (AllReadyH.cons rfl (fun K hK => ?_) AllReadyH.nil)
      obtain ⟨v1, Y3, hr1, ho1, hf1, hk1⟩ := HA1.out _ _ HFb.out HKc.out (by omega)
      have HR1 : Aside _ := hr1
      have HO4 : Aside _ := ho1
      have HF4 : Aside (F Y3) := hf1
      have HK4 : Aside _ := (hk1 _ HLT2.out (by omega)).trans HKb.out
      clear hr1 ho1 hf1 hk1
      refine step_append_g (by rfl) _ _ 38 38 rfl _ _ (by rfl) (by rfl) HR1.out ?_
      refine hK.out _ _ HF4.out (fun hHeld => ?_)
      clear hK K
      refine norm_any' (fun K hK => ?_)
      go_simp
      refine hK _ _ ?_
      clear hK K
      obtain ⟨g5, c5, Y5, hr2, hs5, hf5⟩ := HA2.out _ _ _ HF4.out HK4.out HO4.out
      have HR2 : Aside _ := hr2
      have HS5 : Aside (Sl Y5 (some ⟨g5, 0, none⟩) (la ++ [1])) := hs5
      have HF5 : Aside (F Y5) := hf5
      clear hr2 hs5 hf5
      refine wpAnyH_ready (rs := [7]) (by kernel_rfl) (by simp) (AllReadyH.cons rfl (fun K hK => ?_) AllReadyH.nil)
      refine step_append_g (by rfl) _ _ 38 38 rfl _ _ (by rfl) (by rfl) HR2.out ?_
      refine hK.out _ _ HF5.out (fun hHeld => ?_)
      clear hK K
      refine norm_any' (fun K hK => ?_)
      go_simp
      refine hK _ _ ?_
      clear hK K
      refine wpAnyH_ready (rs := [9]) (by kernel_rfl) (by simp) (AllReadyH.cons rfl (fun K hK => ?_) AllReadyH.nil)
      go_simp
      refine Calls.mono (HOP.out _ _ _ HF5.out HS5.out) ?_
      rintro e Y6 ⟨rfl, hz⟩
      have HF6 : Aside (F Y6) := hz
      clear hz
      refine hK.out _ _ HF6.out (fun hHeld => ?_)
      clear hK K
      refine norm_any' (fun K hK => ?_)
      go_simp
      refine hK _ _ ?_
      clear hK K
      refine wpAnyH_take (i := 10) (v := .tuple #[.slice none 0 0, .int .i64 20]) rfl (by kernel_rfl) (by kernel_rfl) (by kernel_rfl) (fun _ _ _ h => h) (Or.inl ⟨by rfl, by intro w hs; go_simp⟩) hHeld ?_
      refine norm_any' (fun K hK => ?_)
      go_simp
      refine hK _ _ ?_
      clear hK K
      refine wpAnyH_take (i := 11) (v := .slice none 0 0) rfl (by kernel_rfl) (by kernel_rfl) (by kernel_rfl) (fun _ _ _ h => h) (Or.inl ⟨by rfl, by intro w hs; go_simp⟩) hHeld ?_
      refine norm_any' (fun K hK => ?_)
      go_simp
      refine hK _ _ ?_
      clear hK K
      refine wpAnyH_take (i := 12) (v := .int .i64 20) rfl (by kernel_rfl) (by kernel_rfl) (by kernel_rfl) (fun _ _ _ h => h) (Or.inl ⟨by rfl, by intro w hs; go_simp⟩) hHeld ?_
      refine norm_any' (fun K hK => ?_)
      go_simp
      refine hK _ _ ?_
      clear hK K
      refine wpAnyH_take (i := 13) (v := .slice none 0 0) rfl (by kernel_rfl) (by kernel_rfl) (by kernel_rfl) (fun _ _ _ h => h) (Or.inl ⟨by rfl, by intro w hs; go_simp⟩) hHeld ?_
      refine norm_any' (fun K hK => ?_)
      go_simp
      refine hK _ _ ?_
      clear hK K
      refine wpAnyH_take (i := 14) (v := .int .i64 20) rfl (by kernel_rfl) (by kernel_rfl) (by kernel_rfl) (fun _ _ _ h => h) (Or.inl ⟨by rfl, by intro w hs; go_simp⟩) hHeld ?_
      refine norm_any' (fun K hK => ?_)
      go_simp
      refine hK _ _ ?_
      clear hK K
      refine wpAnyH_done (by kernel_rfl) ?_ _
      clear hHeld HFL HOP HA1 HA2
      go_wp2_with fail
      go_meet
      exact ⟨rfl, rfl, (HFE.out _ HF6.out).1, (HFE.out _ HF6.out).2⟩
  case rest =>
  obtain ⟨rfl, rfl, HS12, HX12⟩ := hcut
  clear HS11 HX11
  have hcv1 : (convert 38 9 (.slice (some ⟨gx, 0, none⟩) NP cx)).run Try.prog wc = .ok (.string ⟨lp.toArray⟩) wc := by rw [← HNP.out]; exact conv_bytes HX12.out cx
  have hcv2 : (convert 38 9 (.slice op NP cp)).run Try.prog wc = .ok (.string ⟨lp.toArray⟩) wc := by rw [← HNP.out]; exact conv_bytes (HSP.out.bel HS12.out.ag.bel) cp
  obtain ⟨BL, hBL⟩ : ∃ BL : ByteArray, ⟨lp.toArray⟩ = BL := ⟨_, rfl⟩
  rw [hBL] at hcv1 hcv2
  have HBL : Aside _ := hBL
  clear hBL
  go_wp2_with fail
  clear hcv1 hcv2
  go_loopg [21] 40 (fun kx s21 wr => ∃ k : Nat, s21 = .int .i64 (k : Int) ∧ k ≤ 40 ∧ 40 - k ≤ kx ∧ Aside (Sg w wr V B8 B9 g cg NP (L4s nn la lp)))
  case atStart => exact ⟨0, rfl, by omega, by omega, HS12.out⟩
  case round =>
    obtain ⟨k, rfl, hk, hg, HSr⟩ := hrel
    clear HS12 HX12
    by_cases hlt : k < NP + 16 ∧ k < 40
    · have i1 : (k : Int) < ((NP + 16 : Nat) : Int) := by omega
      have i1' : (k : Int) < (NP : Int) + 16 := by omega
      have i2 : (k : Int) < 40 := by omega
      have i0 : (0 : Int) ≤ (k : Int) := by omega
      have iw : IntKind.i64.wrap ((k : Int) + 1) = (k : Int) + 1 := by rw [IntKind.wrap_i64]; omega
      have hSa' := HSr.out.bel (bel1 wr (.cells #[] 5))
      obtain ⟨v, X', hr1, ho1, hg1, _⟩ := ap1 (cp := cg) (n₀ := wr.heap.size) (heap_alloc_new wr (.cells #[] 5)) (Nat.le_refl _) (by simp) hSa'.sb.sl (by simp; omega)
      rw [zn_len] at hr1 ho1
      have hbX : Below wr.heap.size wr X' := (bel1 wr (.cells #[] 5)).trans (hg1.bel (by simp))
      obtain ⟨g2, c2, rfl⟩ : ∃ g2 c2, v = .slice (some ⟨g2, 0, none⟩) (NP + 16) c2 := by
        obtain ⟨_, h | ⟨g, cap, cur, e, _⟩⟩ := ho1
        · omega
        · exact ⟨g, cap, e⟩
      obtain ⟨y, hy⟩ : ∃ y, y = (zn NP 3)[k]'(by simp; omega) := ⟨_, rfl⟩
      obtain ⟨c1, f1, by1, be1, ca1⟩ := own_turn (n₀ := w.heap.size) (y := y ^^^ 1) ho1 (by simp) hlt.1 (by omega)
      rw [← hy] at c1
      have hxo := xor1' y
      obtain ⟨yv, hyv⟩ : ∃ yv : Int, ((y ^^^ 1).toNat : Int) = yv := ⟨_, rfl⟩
      obtain ⟨yi, hyi⟩ : ∃ yi : Int, (y.toNat : Int) = yi := ⟨_, rfl⟩
      rw [hyv] at by1 be1 hxo
      rw [hyi] at c1 hxo
      have HSX : Aside (Sg w (X'.setCell ⟨g2, k, none⟩ (.int .u8 yv)) V B8 B9 g cg NP (L4s nn la lp)) := HSr.out.bel (hbX.trans be1)
      have HOC : Aside (Calls Try.prog 19 #[.pointer (some ⟨V, 0, none⟩), hv (nameL 1), .int .i64 nn, .slice oa NA ca, .slice (some ⟨g2, 0, none⟩) (NP + 16) c2] (X'.setCell ⟨g2, k, none⟩ (.int .u8 yv)) fun e w' => e = .returned (.tuple #[.slice none 0 0, .int .i64 20]) ∧ Sg w w' V B8 B9 g cg NP (L4s nn la lp)) := by
        refine (HON.out _ 1 nn oa NA ca la g2 c2 _ HSX.out (by omega) hn0 (HSA.out.bel HSX.out.ag.bel) HNA.out by1 (by simp) ?_).mono fun e w' h => ⟨h.1, h.2.1⟩
        rintro ⟨_, _, _, e⟩
        have := congrArg (fun l => l[k]?) e
        simp only [List.getElem?_set_self (show k < (zn NP 3).length by simp; omega)] at this
        rw [List.getElem?_eq_getElem (show k < (zn NP 3).length by simp; omega), ← hy] at this
        injection this with this
        exact xor1_ne y this
      have HB8 : Aside _ := HSX.out.b8
      have HR1 : Aside _ := hr1
      clear hr1 ho1 hg1 hbX by1 be1 hy hyv hyi HSX hSa'
      go_wp2_with (first | (refine wpList_append_run' rfl _ _ 38 38 rfl _ _ rfl rfl HR1.out ?_) | (refine ld28 rfl (.tmp 8) rfl B8 rfl (nameL 1) HB8.out (nameL_len 1) ?_))
      refine Calls.mono HOC.out ?_
      rintro e W3 ⟨rfl, hs3⟩
      have HS3 : Aside (Sg w W3 V B8 B9 g cg NP (L4s nn la lp)) := hs3
      clear hs3 HOC HB8 HR1 HSr c1 f1
      go_wp2
      go_roundg (40 - (k + 1))
      case measure => omega
      case rel => exact ⟨k + 1, by simp, by omega, Nat.le_refl _, HS3.out⟩
    · have iw0 : (0 : Int) ≤ (k : Int) := by omega
      clear hg HON
      rcases (show NP + 16 ≤ k ∨ (k < NP + 16 ∧ k = 40) by omega) with hc | ⟨hc, rfl⟩
      · have i1 : ¬ ((k : Int) < ((NP + 16 : Nat) : Int)) := by omega
        have i1' : ¬ ((k : Int) < (NP : Int) + 16) := by omega
        have i3 : decide ((k : Int) < (NP : Int) + 16) = false := by simpa using i1'
        go_wp2_with fail
        refine Calls.mono ((HSr.out.bel (bel1 _ _)).spied_no HNP.out hNP6 _ (heap_alloc_new wr _)) ?_
        rintro e W3 ⟨⟨o3, c3, rfl⟩, hb⟩
        have HS3 : Aside (Sg w W3 V B8 B9 g cg NP (L4s nn la lp)) := (HSr.out.bel (bel1 _ _)).bel hb
        clear hb HSr
        go_wp2_with fail
        refine Calls.mono ((HS3.out.bel (bel1 _ _)).spied_yes HNP.out hNP6 _ (heap_alloc_new W3 _)) ?_
        rintro e W4 ⟨⟨go, co, gb, cb, rfl, hce, hsl⟩, hb⟩
        have HS4 : Aside (Sg w W4 V B8 B9 g cg NP (L4s nn la lp)) := (HS3.out.bel (bel1 _ _)).bel hb
        have HCE : Aside (W4.cell? ⟨go, 0, none⟩ = some (.slice (some ⟨gb, 0, none⟩) NP cb)) := hce
        have HSB : Aside (Sl W4 (some ⟨gb, 0, none⟩) lp) := hsl
        clear hb HS3 hce hsl
        go_wp2_with fail
        obtain ⟨F, hF⟩ : ∃ F : World → Prop, ∀ X, F X ↔ Below W4.heap.size W4 X := ⟨_, fun _ => Iff.rfl⟩
        have HF : Aside (F W4.drew) := (hF _).2 (bel_drew W4)
        have HFB : Aside (∀ X X', F X → Below X.heap.size X X' → F X') := fun X X' hX hb => (hF _).2 (((hF X).1 hX).trans (hb.mono ((hF X).1 hX).size))
        have HCL : Aside (∀ X, F X → X.cell? ⟨go, 0, none⟩ = some (.slice (some ⟨gb, 0, none⟩) NP cb)) := fun X hX => by
          have hlt : go < W4.heap.size := by
            cases hh : W4.heap[go]? with
            | none => have := HCE.out; simp [World.cell?, hh] at this
            | some o => exact (Array.getElem?_eq_some_iff.1 hh).1
          exact (World.cell?_of_block (a := ⟨go, 0, none⟩) (((hF X).1 hX).block go hlt)).trans HCE.out
        have HC1 : Aside (∀ X, F X → (convert 38 9 (.slice (some ⟨gb, 0, none⟩) NP cb)).run Try.prog X = .ok (.string BL) X) := fun X hX => by
          have := conv_bytes (HSB.out.bel ((hF X).1 hX)) cb
          rw [HNP.out, HBL.out] at this
          exact this
        have HC2 : Aside (∀ X, F X → (convert 38 9 (.slice op NP cp)).run Try.prog X = .ok (.string BL) X) := fun X hX => by
          have := conv_bytes (HSP.out.bel (HS4.out.bel ((hF X).1 hX)).ag.bel) cp
          rw [HNP.out, HBL.out] at this
          exact this
        have HH1 : Aside (∀ X k, F X → X.heap[k]? = some (.cells #[.slice (some ⟨g, 0, none⟩) (NP + 16) cg] 38 (0, 0)) → Calls Try.prog 24 #[.pointer (some ⟨V, 0, none⟩), .slice (some ⟨B8, 0, none⟩) 16 16, .slice (some ⟨k, 0, none⟩) 1 1] X fun e w' => e = .returned (.bool true) ∧ F w') := fun X k hX hk =>
          ((HS4.out.bel ((hF X).1 hX)).hid_yes HNP.out hNP6 k hk).mono fun e w' h => ⟨h.1, HFB.out _ _ hX h.2⟩
        have HH2 : Aside (∀ X k, F X → X.heap[k]? = some (.cells #[.slice (some ⟨g, 0, none⟩) (NP + 16) cg] 38 (0, 0)) → Calls Try.prog 24 #[.pointer (some ⟨V, 0, none⟩), .slice (some ⟨g, 0, none⟩) (NP + 16) cg, .slice (some ⟨k, 0, none⟩) 1 1] X fun e w' => e = .returned (.bool false) ∧ F w') := fun X k hX hk =>
          ((HS4.out.bel ((hF X).1 hX)).hid_no HNP.out hNP6 k hk).mono fun e w' h => ⟨h.1, HFB.out _ _ hX h.2⟩
        have HFE : Aside (∀ X, F X → Below w.heap.size w X) := fun X hX => (HS4.out.bel ((hF X).1 hX)).ag.bel
        clear hF HS4 HCE HSB HSA HSP HNP HNA HLP HLA HBL
        refine wp_region_held_drew (S := F) (by kernel_rfl) HF.out (fun hHeld => ?_)
        refine wpAnyH_take (i := 0) (v := .slice o3 0 c3) rfl (by kernel_rfl) (by kernel_rfl) (by kernel_rfl) (fun _ _ _ h => h) (Or.inl ⟨by rfl, by intro w hs; go_simp⟩) hHeld ?_
        refine norm_any' (fun K hK => ?_)
        go_simp
        refine hK _ _ ?_
        clear hK K
        refine wpAnyH_take (i := 1) (v := .int .i64 0) rfl (by kernel_rfl) (by kernel_rfl) (by kernel_rfl) (fun _ _ _ h => h) (Or.inl ⟨by rfl, by intro w hs; go_simp⟩) hHeld ?_
        refine norm_any' (fun K hK => ?_)
        go_simp
        refine hK _ _ ?_
        clear hK K
        refine wpAnyH_take (i := 2) (v := .bool true) rfl (by kernel_rfl) (by kernel_rfl) (by kernel_rfl) (fun _ _ _ h => h) (Or.inl ⟨by rfl, by intro w hs; go_simp⟩) hHeld ?_
        refine norm_any' (fun K hK => ?_)
        go_simp
        refine hK _ _ ?_
        clear hK K
        refine wpAnyH_take (i := 3) (v := .bool true) rfl (by kernel_rfl) (by kernel_rfl) (by kernel_rfl) (fun _ _ _ h => h) (Or.inl ⟨by rfl, by intro w hs; go_simp⟩) hHeld ?_
        refine norm_any' (fun K hK => ?_)
        go_simp
        refine hK _ _ ?_
        clear hK K
        refine wpAnyH_take (i := 4) (v := .slice (some ⟨go, 0, none⟩) 1 co) rfl (by kernel_rfl) (by kernel_rfl) (by kernel_rfl) (fun _ _ _ h => h) (Or.inl ⟨by rfl, by intro w hs; go_simp⟩) hHeld ?_
        refine norm_any' (fun K hK => ?_)
        go_simp
        refine hK _ _ ?_
        clear hK K
        refine wpAnyH_take (i := 5) (v := .int .i64 1) rfl (by kernel_rfl) (by kernel_rfl) (by kernel_rfl) (fun _ _ _ h => h) (Or.inl ⟨by rfl, by intro w hs; go_simp⟩) hHeld ?_
        refine norm_any' (fun K hK => ?_)
        go_simp
        refine hK _ _ ?_
        clear hK K
        refine wpAnyH_take (i := 6) (v := .bool true) rfl (by kernel_rfl) (by kernel_rfl) (by kernel_rfl) (fun _ _ _ h => h) (Or.inl ⟨by rfl, by intro w hs; go_simp⟩) hHeld ?_
        refine norm_any' (fun K hK => ?_)
        go_simp
        refine hK _ _ ?_
        clear hK K
        refine wpAnyH_take (i := 7) (v := .bool true) rfl (by kernel_rfl) (by kernel_rfl) (by kernel_rfl) (fun _ _ _ h => h) (Or.inl ⟨by rfl, by intro w hs; go_simp⟩) hHeld ?_
        refine norm_any' (fun K hK => ?_)
        go_simp
        refine hK _ _ ?_
        clear hK K
        refine wpAnyH_take (i := 8) (v := .bool true) rfl (by kernel_rfl) (by kernel_rfl) (by kernel_rfl) (fun _ _ _ h => h) (Or.inl ⟨by rfl, by intro w hs; go_simp⟩) hHeld ?_
        refine norm_any' (fun K hK => ?_)
        go_simp
        refine hK _ _ ?_
        clear hK K
        refine wpAnyH_take (i := 9) (v := .slice (some ⟨go, 0, none⟩) 1 co) rfl (by kernel_rfl) (by kernel_rfl) (by kernel_rfl) (fun _ _ _ h => h) (Or.inl ⟨by rfl, by intro w hs; go_simp⟩) hHeld ?_
        refine norm_any' (fun K hK => ?_)
        go_simp
        refine hK _ _ ?_
        clear hK K
        refine wpAnyH_take (i := 10) (v := .pointer (some ⟨go, 0, none⟩)) rfl (by kernel_rfl) (by kernel_rfl) (by kernel_rfl) (fun _ _ _ h => h) (Or.inl ⟨by rfl, by intro w hs; go_simp⟩) hHeld ?_
        refine norm_any' (fun K hK => ?_)
        go_simp
        refine hK _ _ ?_
        clear hK K
        refine wpAnyH_take (i := 11) (v := .slice (some ⟨gb, 0, none⟩) NP cb) rfl (by kernel_rfl) (by kernel_rfl) (by kernel_rfl) (fun _ _ _ h => h) (Or.inl ⟨by rfl, by intro w hs; have := HCL.out w hs; go_simp⟩) hHeld ?_
        refine norm_any' (fun K hK => ?_)
        go_simp
        refine hK _ _ ?_
        clear hK K
        refine wpAnyH_take (i := 12) (v := .string BL) rfl (by kernel_rfl) (by kernel_rfl) (by kernel_rfl) (fun _ _ _ h => h) (Or.inl ⟨by rfl, by intro w hs; have := HC1.out w hs; go_simp⟩) hHeld ?_
        refine norm_any' (fun K hK => ?_)
        go_simp
        refine hK _ _ ?_
        clear hK K
        refine wpAnyH_take (i := 13) (v := .slice op NP cp) rfl (by kernel_rfl) (by kernel_rfl) (by kernel_rfl) (fun _ _ _ h => h) (Or.inl ⟨by rfl, by intro w hs; go_simp⟩) hHeld ?_
        refine norm_any' (fun K hK => ?_)
        go_simp
        refine hK _ _ ?_
        clear hK K
        refine wpAnyH_take (i := 14) (v := .string BL) rfl (by kernel_rfl) (by kernel_rfl) (by kernel_rfl) (fun _ _ _ h => h) (Or.inl ⟨by rfl, by intro w hs; have := HC2.out w hs; go_simp⟩) hHeld ?_
        refine norm_any' (fun K hK => ?_)
        go_simp
        refine hK _ _ ?_
        clear hK K
        refine wpAnyH_take (i := 15) (v := .bool true) rfl (by kernel_rfl) (by kernel_rfl) (by kernel_rfl) (fun _ _ _ h => h) (Or.inl ⟨by rfl, by intro w hs; go_simp⟩) hHeld ?_
        refine norm_any' (fun K hK => ?_)
        go_simp
        refine hK _ _ ?_
        clear hK K
        refine wpAnyH_take (i := 16) (v := .bool true) rfl (by kernel_rfl) (by kernel_rfl) (by kernel_rfl) (fun _ _ _ h => h) (Or.inl ⟨by rfl, by intro w hs; go_simp⟩) hHeld ?_
        refine norm_any' (fun K hK => ?_)
        go_simp
        refine hK _ _ ?_
        clear hK K
        refine wpAnyH_take (i := 17) (v := .bool true) rfl (by kernel_rfl) (by kernel_rfl) (by kernel_rfl) (fun _ _ _ h => h) (Or.inl ⟨by rfl, by intro w hs; go_simp⟩) hHeld ?_
        refine norm_any' (fun K hK => ?_)
        go_simp
        refine hK _ _ ?_
        clear hK K
        refine wpAnyH_take (i := 18) (v := .pointer (some ⟨V, 0, none⟩)) rfl (by kernel_rfl) (by kernel_rfl) (by kernel_rfl) (fun _ _ _ h => h) (Or.inl ⟨by rfl, by intro w hs; go_simp⟩) hHeld ?_
        refine norm_any' (fun K hK => ?_)
        go_simp
        refine hK _ _ ?_
        clear hK K
        refine wpAnyH_take (i := 19) (v := .slice (some ⟨B8, 0, none⟩) 16 16) rfl (by kernel_rfl) (by kernel_rfl) (by kernel_rfl) (fun _ _ _ h => h) (Or.inl ⟨by rfl, by intro w hs; go_simp⟩) hHeld ?_
        refine norm_any' (fun K hK => ?_)
        go_simp
        refine hK _ _ ?_
        clear hK K
        refine wpAnyH_take (i := 20) (v := .slice (some ⟨g, 0, none⟩) (NP + 16) cg) rfl (by kernel_rfl) (by kernel_rfl) (by kernel_rfl) (fun _ _ _ h => h) (Or.inl ⟨by rfl, by intro w hs; go_simp⟩) hHeld ?_
        refine norm_any' (fun K hK => ?_)
        go_simp
        refine hK _ _ ?_
        clear hK K
        have HFa : Aside (F (W4.drew.alloc (.cells #[.slice (some ⟨g, 0, none⟩) (NP + 16) cg] 38))) := HFB.out _ _ HF.out (bel1 _ _)
        have HKa : Aside _ := heap_alloc_new W4.drew (.cells #[.slice (some ⟨g, 0, none⟩) (NP + 16) cg] 38)
        refine wpAnyH_ready (rs := [21]) (by kernel_rfl) (by simp) (AllReadyH.cons rfl (fun K hK => ?_) AllReadyH.nil)
        go_simp
        skip
        refine hK.out _ _ HFa.out (fun hHeld => ?_)
        clear hK K
        refine norm_any' (fun K hK => ?_)
        go_simp
        refine hK _ _ ?_
        clear hK K
        refine wpAnyH_ready (rs := [22]) (by kernel_rfl) (by simp) (AllReadyH.cons rfl (fun K hK => ?_) AllReadyH.nil)
        go_simp
        refine Calls.mono (HH1.out _ _ HFa.out HKa.out) ?_
        rintro e Y1 ⟨rfl, hz⟩
        have HF1 : Aside (F Y1) := hz
        clear hz
        refine hK.out _ _ HF1.out (fun hHeld => ?_)
        clear hK K
        refine norm_any' (fun K hK => ?_)
        go_simp
        refine hK _ _ ?_
        clear hK K
        refine wpAnyH_take (i := 23) (v := .bool true) rfl (by kernel_rfl) (by kernel_rfl) (by kernel_rfl) (fun _ _ _ h => h) (Or.inl ⟨by rfl, by intro w hs; go_simp⟩) hHeld ?_
        refine norm_any' (fun K hK => ?_)
        go_simp
        refine hK _ _ ?_
        clear hK K
        refine wpAnyH_take (i := 24) (v := .bool true) rfl (by kernel_rfl) (by kernel_rfl) (by kernel_rfl) (fun _ _ _ h => h) (Or.inl ⟨by rfl, by intro w hs; go_simp⟩) hHeld ?_
        refine norm_any' (fun K hK => ?_)
        go_simp
        refine hK _ _ ?_
        clear hK K
        refine wpAnyH_take (i := 25) (v := .pointer (some ⟨V, 0, none⟩)) rfl (by kernel_rfl) (by kernel_rfl) (by kernel_rfl) (fun _ _ _ h => h) (Or.inl ⟨by rfl, by intro w hs; go_simp⟩) hHeld ?_
        refine norm_any' (fun K hK => ?_)
        go_simp
        refine hK _ _ ?_
        clear hK K
        refine wpAnyH_take (i := 26) (v := .slice (some ⟨g, 0, none⟩) (NP + 16) cg) rfl (by kernel_rfl) (by kernel_rfl) (by kernel_rfl) (fun _ _ _ h => h) (Or.inl ⟨by rfl, by intro w hs; go_simp⟩) hHeld ?_
        refine norm_any' (fun K hK => ?_)
        go_simp
        refine hK _ _ ?_
        clear hK K
        refine wpAnyH_take (i := 27) (v := .slice (some ⟨g, 0, none⟩) (NP + 16) cg) rfl (by kernel_rfl) (by kernel_rfl) (by kernel_rfl) (fun _ _ _ h => h) (Or.inl ⟨by rfl, by intro w hs; go_simp⟩) hHeld ?_
        refine norm_any' (fun K hK => ?_)
        go_simp
        refine hK _ _ ?_
        clear hK K
        have HFb : Aside (F (Y1.alloc (.cells #[.slice (some ⟨g, 0, none⟩) (NP + 16) cg] 38))) := HFB.out _ _ HF1.out (bel1 _ _)
        have HKb : Aside _ := heap_alloc_new Y1 (.cells #[.slice (some ⟨g, 0, none⟩) (NP + 16) cg] 38)
        refine wpAnyH_ready (rs := [28]) (by kernel_rfl) (by simp) (AllReadyH.cons rfl (fun K hK => ?_) AllReadyH.nil)
        go_simp
        skip
        refine hK.out _ _ HFb.out (fun hHeld => ?_)
        clear hK K
        refine norm_any' (fun K hK => ?_)
        go_simp
        refine hK _ _ ?_
        clear hK K
        refine wpAnyH_ready (rs := [29]) (by kernel_rfl) (by simp) (AllReadyH.cons rfl (fun K hK => ?_) AllReadyH.nil)
        go_simp
        refine Calls.mono (HH2.out _ _ HFb.out HKb.out) ?_
        rintro e Y2 ⟨rfl, hz⟩
        have HF2 : Aside (F Y2) := hz
        clear hz
        refine hK.out _ _ HF2.out (fun hHeld => ?_)
        clear hK K
        refine norm_any' (fun K hK => ?_)
        go_simp
        refine hK _ _ ?_
        clear hK K
        refine wpAnyH_take (i := 30) (v := .bool true) rfl (by kernel_rfl) (by kernel_rfl) (by kernel_rfl) (fun _ _ _ h => h) (Or.inl ⟨by rfl, by intro w hs; go_simp⟩) hHeld ?_
        refine norm_any' (fun K hK => ?_)
        go_simp
        refine hK _ _ ?_
        clear hK K
        refine wpAnyH_take (i := 31) (v := .bool true) rfl (by kernel_rfl) (by kernel_rfl) (by kernel_rfl) (fun _ _ _ h => h) (Or.inl ⟨by rfl, by intro w hs; go_simp⟩) hHeld ?_
        refine norm_any' (fun K hK => ?_)
        go_simp
        refine hK _ _ ?_
        clear hK K
        refine wpAnyH_take (i := 32) (v := .bool true) rfl (by kernel_rfl) (by kernel_rfl) (by kernel_rfl) (fun _ _ _ h => h) (Or.inl ⟨by rfl, by intro w hs; go_simp⟩) hHeld ?_
        refine norm_any' (fun K hK => ?_)
        go_simp
        refine hK _ _ ?_
        clear hK K
        refine wpAnyH_done (by kernel_rfl) ?_ _
        clear hHeld HFB HCL HC1 HC2 HH1 HH2
        go_wp2
        go_ret
        exact ⟨rfl, HFE.out _ HF2.out⟩
      · have i1 : ((40 : Nat) : Int) < ((NP + 16 : Nat) : Int) := by omega
        have i1' : (40 : Int) < (NP : Int) + 16 := by omega
        have i3 : decide ((40 : Int) < (NP : Int) + 16) = true := by simpa using i1'
        go_wp2_with fail
        refine Calls.mono ((HSr.out.bel (bel1 _ _)).spied_no HNP.out hNP6 _ (heap_alloc_new wr _)) ?_
        rintro e W3 ⟨⟨o3, c3, rfl⟩, hb⟩
        have HS3 : Aside (Sg w W3 V B8 B9 g cg NP (L4s nn la lp)) := (HSr.out.bel (bel1 _ _)).bel hb
        clear hb HSr
        go_wp2_with fail
        refine Calls.mono ((HS3.out.bel (bel1 _ _)).spied_yes HNP.out hNP6 _ (heap_alloc_new W3 _)) ?_
        rintro e W4 ⟨⟨go, co, gb, cb, rfl, hce, hsl⟩, hb⟩
        have HS4 : Aside (Sg w W4 V B8 B9 g cg NP (L4s nn la lp)) := (HS3.out.bel (bel1 _ _)).bel hb
        have HCE : Aside (W4.cell? ⟨go, 0, none⟩ = some (.slice (some ⟨gb, 0, none⟩) NP cb)) := hce
        have HSB : Aside (Sl W4 (some ⟨gb, 0, none⟩) lp) := hsl
        clear hb HS3 hce hsl
        go_wp2_with fail
        obtain ⟨F, hF⟩ : ∃ F : World → Prop, ∀ X, F X ↔ Below W4.heap.size W4 X := ⟨_, fun _ => Iff.rfl⟩
        have HF : Aside (F W4.drew) := (hF _).2 (bel_drew W4)
        have HFB : Aside (∀ X X', F X → Below X.heap.size X X' → F X') := fun X X' hX hb => (hF _).2 (((hF X).1 hX).trans (hb.mono ((hF X).1 hX).size))
        have HCL : Aside (∀ X, F X → X.cell? ⟨go, 0, none⟩ = some (.slice (some ⟨gb, 0, none⟩) NP cb)) := fun X hX => by
          have hlt : go < W4.heap.size := by
            cases hh : W4.heap[go]? with
            | none => have := HCE.out; simp [World.cell?, hh] at this
            | some o => exact (Array.getElem?_eq_some_iff.1 hh).1
          exact (World.cell?_of_block (a := ⟨go, 0, none⟩) (((hF X).1 hX).block go hlt)).trans HCE.out
        have HC1 : Aside (∀ X, F X → (convert 38 9 (.slice (some ⟨gb, 0, none⟩) NP cb)).run Try.prog X = .ok (.string BL) X) := fun X hX => by
          have := conv_bytes (HSB.out.bel ((hF X).1 hX)) cb
          rw [HNP.out, HBL.out] at this
          exact this
        have HC2 : Aside (∀ X, F X → (convert 38 9 (.slice op NP cp)).run Try.prog X = .ok (.string BL) X) := fun X hX => by
          have := conv_bytes (HSP.out.bel (HS4.out.bel ((hF X).1 hX)).ag.bel) cp
          rw [HNP.out, HBL.out] at this
          exact this
        have HH1 : Aside (∀ X k, F X → X.heap[k]? = some (.cells #[.slice (some ⟨g, 0, none⟩) (NP + 16) cg] 38 (0, 0)) → Calls Try.prog 24 #[.pointer (some ⟨V, 0, none⟩), .slice (some ⟨B8, 0, none⟩) 16 16, .slice (some ⟨k, 0, none⟩) 1 1] X fun e w' => e = .returned (.bool true) ∧ F w') := fun X k hX hk =>
          ((HS4.out.bel ((hF X).1 hX)).hid_yes HNP.out hNP6 k hk).mono fun e w' h => ⟨h.1, HFB.out _ _ hX h.2⟩
        have HH2 : Aside (∀ X k, F X → X.heap[k]? = some (.cells #[.slice (some ⟨g, 0, none⟩) (NP + 16) cg] 38 (0, 0)) → Calls Try.prog 24 #[.pointer (some ⟨V, 0, none⟩), .slice (some ⟨g, 0, none⟩) (NP + 16) cg, .slice (some ⟨k, 0, none⟩) 1 1] X fun e w' => e = .returned (.bool false) ∧ F w') := fun X k hX hk =>
          ((HS4.out.bel ((hF X).1 hX)).hid_no HNP.out hNP6 k hk).mono fun e w' h => ⟨h.1, HFB.out _ _ hX h.2⟩
        have HFE : Aside (∀ X, F X → Below w.heap.size w X) := fun X hX => (HS4.out.bel ((hF X).1 hX)).ag.bel
        clear hF HS4 HCE HSB HSA HSP HNP HNA HLP HLA HBL
        refine wp_region_held_drew (S := F) (by kernel_rfl) HF.out (fun hHeld => ?_)
        refine wpAnyH_take (i := 0) (v := .slice o3 0 c3) rfl (by kernel_rfl) (by kernel_rfl) (by kernel_rfl) (fun _ _ _ h => h) (Or.inl ⟨by rfl, by intro w hs; go_simp⟩) hHeld ?_
        refine norm_any' (fun K hK => ?_)
        go_simp
        refine hK _ _ ?_
        clear hK K
        refine wpAnyH_take (i := 1) (v := .int .i64 0) rfl (by kernel_rfl) (by kernel_rfl) (by kernel_rfl) (fun _ _ _ h => h) (Or.inl ⟨by rfl, by intro w hs; go_simp⟩) hHeld ?_
        refine norm_any' (fun K hK => ?_)
        go_simp
        refine hK _ _ ?_
        clear hK K
        refine wpAnyH_take (i := 2) (v := .bool true) rfl (by kernel_rfl) (by kernel_rfl) (by kernel_rfl) (fun _ _ _ h => h) (Or.inl ⟨by rfl, by intro w hs; go_simp⟩) hHeld ?_
        refine norm_any' (fun K hK => ?_)
        go_simp
        refine hK _ _ ?_
        clear hK K
        refine wpAnyH_take (i := 3) (v := .bool true) rfl (by kernel_rfl) (by kernel_rfl) (by kernel_rfl) (fun _ _ _ h => h) (Or.inl ⟨by rfl, by intro w hs; go_simp⟩) hHeld ?_
        refine norm_any' (fun K hK => ?_)
        go_simp
        refine hK _ _ ?_
        clear hK K
        refine wpAnyH_take (i := 4) (v := .slice (some ⟨go, 0, none⟩) 1 co) rfl (by kernel_rfl) (by kernel_rfl) (by kernel_rfl) (fun _ _ _ h => h) (Or.inl ⟨by rfl, by intro w hs; go_simp⟩) hHeld ?_
        refine norm_any' (fun K hK => ?_)
        go_simp
        refine hK _ _ ?_
        clear hK K
        refine wpAnyH_take (i := 5) (v := .int .i64 1) rfl (by kernel_rfl) (by kernel_rfl) (by kernel_rfl) (fun _ _ _ h => h) (Or.inl ⟨by rfl, by intro w hs; go_simp⟩) hHeld ?_
        refine norm_any' (fun K hK => ?_)
        go_simp
        refine hK _ _ ?_
        clear hK K
        refine wpAnyH_take (i := 6) (v := .bool true) rfl (by kernel_rfl) (by kernel_rfl) (by kernel_rfl) (fun _ _ _ h => h) (Or.inl ⟨by rfl, by intro w hs; go_simp⟩) hHeld ?_
        refine norm_any' (fun K hK => ?_)
        go_simp
        refine hK _ _ ?_
        clear hK K
        refine wpAnyH_take (i := 7) (v := .bool true) rfl (by kernel_rfl) (by kernel_rfl) (by kernel_rfl) (fun _ _ _ h => h) (Or.inl ⟨by rfl, by intro w hs; go_simp⟩) hHeld ?_
        refine norm_any' (fun K hK => ?_)
        go_simp
        refine hK _ _ ?_
        clear hK K
        refine wpAnyH_take (i := 8) (v := .bool true) rfl (by kernel_rfl) (by kernel_rfl) (by kernel_rfl) (fun _ _ _ h => h) (Or.inl ⟨by rfl, by intro w hs; go_simp⟩) hHeld ?_
        refine norm_any' (fun K hK => ?_)
        go_simp
        refine hK _ _ ?_
        clear hK K
        refine wpAnyH_take (i := 9) (v := .slice (some ⟨go, 0, none⟩) 1 co) rfl (by kernel_rfl) (by kernel_rfl) (by kernel_rfl) (fun _ _ _ h => h) (Or.inl ⟨by rfl, by intro w hs; go_simp⟩) hHeld ?_
        refine norm_any' (fun K hK => ?_)
        go_simp
        refine hK _ _ ?_
        clear hK K
        refine wpAnyH_take (i := 10) (v := .pointer (some ⟨go, 0, none⟩)) rfl (by kernel_rfl) (by kernel_rfl) (by kernel_rfl) (fun _ _ _ h => h) (Or.inl ⟨by rfl, by intro w hs; go_simp⟩) hHeld ?_
        refine norm_any' (fun K hK => ?_)
        go_simp
        refine hK _ _ ?_
        clear hK K
        refine wpAnyH_take (i := 11) (v := .slice (some ⟨gb, 0, none⟩) NP cb) rfl (by kernel_rfl) (by kernel_rfl) (by kernel_rfl) (fun _ _ _ h => h) (Or.inl ⟨by rfl, by intro w hs; have := HCL.out w hs; go_simp⟩) hHeld ?_
        refine norm_any' (fun K hK => ?_)
        go_simp
        refine hK _ _ ?_
        clear hK K
        refine wpAnyH_take (i := 12) (v := .string BL) rfl (by kernel_rfl) (by kernel_rfl) (by kernel_rfl) (fun _ _ _ h => h) (Or.inl ⟨by rfl, by intro w hs; have := HC1.out w hs; go_simp⟩) hHeld ?_
        refine norm_any' (fun K hK => ?_)
        go_simp
        refine hK _ _ ?_
        clear hK K
        refine wpAnyH_take (i := 13) (v := .slice op NP cp) rfl (by kernel_rfl) (by kernel_rfl) (by kernel_rfl) (fun _ _ _ h => h) (Or.inl ⟨by rfl, by intro w hs; go_simp⟩) hHeld ?_
        refine norm_any' (fun K hK => ?_)
        go_simp
        refine hK _ _ ?_
        clear hK K
        refine wpAnyH_take (i := 14) (v := .string BL) rfl (by kernel_rfl) (by kernel_rfl) (by kernel_rfl) (fun _ _ _ h => h) (Or.inl ⟨by rfl, by intro w hs; have := HC2.out w hs; go_simp⟩) hHeld ?_
        refine norm_any' (fun K hK => ?_)
        go_simp
        refine hK _ _ ?_
        clear hK K
        refine wpAnyH_take (i := 15) (v := .bool true) rfl (by kernel_rfl) (by kernel_rfl) (by kernel_rfl) (fun _ _ _ h => h) (Or.inl ⟨by rfl, by intro w hs; go_simp⟩) hHeld ?_
        refine norm_any' (fun K hK => ?_)
        go_simp
        refine hK _ _ ?_
        clear hK K
        refine wpAnyH_take (i := 16) (v := .bool true) rfl (by kernel_rfl) (by kernel_rfl) (by kernel_rfl) (fun _ _ _ h => h) (Or.inl ⟨by rfl, by intro w hs; go_simp⟩) hHeld ?_
        refine norm_any' (fun K hK => ?_)
        go_simp
        refine hK _ _ ?_
        clear hK K
        refine wpAnyH_take (i := 17) (v := .bool true) rfl (by kernel_rfl) (by kernel_rfl) (by kernel_rfl) (fun _ _ _ h => h) (Or.inl ⟨by rfl, by intro w hs; go_simp⟩) hHeld ?_
        refine norm_any' (fun K hK => ?_)
        go_simp
        refine hK _ _ ?_
        clear hK K
        refine wpAnyH_take (i := 18) (v := .pointer (some ⟨V, 0, none⟩)) rfl (by kernel_rfl) (by kernel_rfl) (by kernel_rfl) (fun _ _ _ h => h) (Or.inl ⟨by rfl, by intro w hs; go_simp⟩) hHeld ?_
        refine norm_any' (fun K hK => ?_)
        go_simp
        refine hK _ _ ?_
        clear hK K
        refine wpAnyH_take (i := 19) (v := .slice (some ⟨B8, 0, none⟩) 16 16) rfl (by kernel_rfl) (by kernel_rfl) (by kernel_rfl) (fun _ _ _ h => h) (Or.inl ⟨by rfl, by intro w hs; go_simp⟩) hHeld ?_
        refine norm_any' (fun K hK => ?_)
        go_simp
        refine hK _ _ ?_
        clear hK K
        refine wpAnyH_take (i := 20) (v := .slice (some ⟨g, 0, none⟩) (NP + 16) cg) rfl (by kernel_rfl) (by kernel_rfl) (by kernel_rfl) (fun _ _ _ h => h) (Or.inl ⟨by rfl, by intro w hs; go_simp⟩) hHeld ?_
        refine norm_any' (fun K hK => ?_)
        go_simp
        refine hK _ _ ?_
        clear hK K
        have HFa : Aside (F (W4.drew.alloc (.cells #[.slice (some ⟨g, 0, none⟩) (NP + 16) cg] 38))) := HFB.out _ _ HF.out (bel1 _ _)
        have HKa : Aside _ := heap_alloc_new W4.drew (.cells #[.slice (some ⟨g, 0, none⟩) (NP + 16) cg] 38)
        refine wpAnyH_ready (rs := [21]) (by kernel_rfl) (by simp) (AllReadyH.cons rfl (fun K hK => ?_) AllReadyH.nil)
        go_simp
        skip
        refine hK.out _ _ HFa.out (fun hHeld => ?_)
        clear hK K
        refine norm_any' (fun K hK => ?_)
        go_simp
        refine hK _ _ ?_
        clear hK K
        refine wpAnyH_ready (rs := [22]) (by kernel_rfl) (by simp) (AllReadyH.cons rfl (fun K hK => ?_) AllReadyH.nil)
        go_simp
        refine Calls.mono (HH1.out _ _ HFa.out HKa.out) ?_
        rintro e Y1 ⟨rfl, hz⟩
        have HF1 : Aside (F Y1) := hz
        clear hz
        refine hK.out _ _ HF1.out (fun hHeld => ?_)
        clear hK K
        refine norm_any' (fun K hK => ?_)
        go_simp
        refine hK _ _ ?_
        clear hK K
        refine wpAnyH_take (i := 23) (v := .bool true) rfl (by kernel_rfl) (by kernel_rfl) (by kernel_rfl) (fun _ _ _ h => h) (Or.inl ⟨by rfl, by intro w hs; go_simp⟩) hHeld ?_
        refine norm_any' (fun K hK => ?_)
        go_simp
        refine hK _ _ ?_
        clear hK K
        refine wpAnyH_take (i := 24) (v := .bool true) rfl (by kernel_rfl) (by kernel_rfl) (by kernel_rfl) (fun _ _ _ h => h) (Or.inl ⟨by rfl, by intro w hs; go_simp⟩) hHeld ?_
        refine norm_any' (fun K hK => ?_)
        go_simp
        refine hK _ _ ?_
        clear hK K
        refine wpAnyH_take (i := 25) (v := .pointer (some ⟨V, 0, none⟩)) rfl (by kernel_rfl) (by kernel_rfl) (by kernel_rfl) (fun _ _ _ h => h) (Or.inl ⟨by rfl, by intro w hs; go_simp⟩) hHeld ?_
        refine norm_any' (fun K hK => ?_)
        go_simp
        refine hK _ _ ?_
        clear hK K
        refine wpAnyH_take (i := 26) (v := .slice (some ⟨g, 0, none⟩) (NP + 16) cg) rfl (by kernel_rfl) (by kernel_rfl) (by kernel_rfl) (fun _ _ _ h => h) (Or.inl ⟨by rfl, by intro w hs; go_simp⟩) hHeld ?_
        refine norm_any' (fun K hK => ?_)
        go_simp
        refine hK _ _ ?_
        clear hK K
        refine wpAnyH_take (i := 27) (v := .slice (some ⟨g, 0, none⟩) (NP + 16) cg) rfl (by kernel_rfl) (by kernel_rfl) (by kernel_rfl) (fun _ _ _ h => h) (Or.inl ⟨by rfl, by intro w hs; go_simp⟩) hHeld ?_
        refine norm_any' (fun K hK => ?_)
        go_simp
        refine hK _ _ ?_
        clear hK K
        have HFb : Aside (F (Y1.alloc (.cells #[.slice (some ⟨g, 0, none⟩) (NP + 16) cg] 38))) := HFB.out _ _ HF1.out (bel1 _ _)
        have HKb : Aside _ := heap_alloc_new Y1 (.cells #[.slice (some ⟨g, 0, none⟩) (NP + 16) cg] 38)
        refine wpAnyH_ready (rs := [28]) (by kernel_rfl) (by simp) (AllReadyH.cons rfl (fun K hK => ?_) AllReadyH.nil)
        go_simp
        skip
        refine hK.out _ _ HFb.out (fun hHeld => ?_)
        clear hK K
        refine norm_any' (fun K hK => ?_)
        go_simp
        refine hK _ _ ?_
        clear hK K
        refine wpAnyH_ready (rs := [29]) (by kernel_rfl) (by simp) (AllReadyH.cons rfl (fun K hK => ?_) AllReadyH.nil)
        go_simp
        refine Calls.mono (HH2.out _ _ HFb.out HKb.out) ?_
        rintro e Y2 ⟨rfl, hz⟩
        have HF2 : Aside (F Y2) := hz
        clear hz
        refine hK.out _ _ HF2.out (fun hHeld => ?_)
        clear hK K
        refine norm_any' (fun K hK => ?_)
        go_simp
        refine hK _ _ ?_
        clear hK K
        refine wpAnyH_take (i := 30) (v := .bool true) rfl (by kernel_rfl) (by kernel_rfl) (by kernel_rfl) (fun _ _ _ h => h) (Or.inl ⟨by rfl, by intro w hs; go_simp⟩) hHeld ?_
        refine norm_any' (fun K hK => ?_)
        go_simp
        refine hK _ _ ?_
        clear hK K
        refine wpAnyH_take (i := 31) (v := .bool true) rfl (by kernel_rfl) (by kernel_rfl) (by kernel_rfl) (fun _ _ _ h => h) (Or.inl ⟨by rfl, by intro w hs; go_simp⟩) hHeld ?_
        refine norm_any' (fun K hK => ?_)
        go_simp
        refine hK _ _ ?_
        clear hK K
        refine wpAnyH_take (i := 32) (v := .bool true) rfl (by kernel_rfl) (by kernel_rfl) (by kernel_rfl) (fun _ _ _ h => h) (Or.inl ⟨by rfl, by intro w hs; go_simp⟩) hHeld ?_
        refine norm_any' (fun K hK => ?_)
        go_simp
        refine hK _ _ ?_
        clear hK K
        refine wpAnyH_done (by kernel_rfl) ?_ _
        clear hHeld HFB HCL HC1 HC2 HH1 HH2
        go_wp2
        go_ret
        exact ⟨rfl, HFE.out _ HF2.out⟩
end Go.Proofs.Ythhoknkdmmldbaa
