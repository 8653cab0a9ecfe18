/- ParamsStrange: the walk. Written by tools/gen-params-strange.py. -/
import Derived.Test.YtcppnellgkbndaaDoorPf
namespace Go.Proofs.YtcppnellgkbndaaDoor
open Go.ChangeShapes Go.WideShapes Go.ChangeAt Go.RowKit
set_option linter.unusedVariables false
set_option maxRecDepth 100000

theorem e_own (w : World) : (w.alloc (.cells #[] 5)).ownsRow w.heap.size 5 1 (.slice (some ⟨w.heap.size, 0, none⟩) 0 0) 0 (bc []) := by
  refine ⟨rfl, .inr ⟨w.heap.size, 0, #[], rfl, Nat.le_refl _, heap_alloc_new w _, Nat.le_refl _, ?_⟩⟩
  simp [bc]
theorem e_blk {B n : Nat} {w : World} {v : Value} {xs : List Value} (h : w.ownsRow B 5 1 v n xs) : ∀ k, v.ownBlock = some k → B ≤ k := by
  obtain ⟨_, ⟨rfl, _⟩ | ⟨g, cap, cur, rfl, k1, _⟩⟩ := h
  · intro k hk; simp [Value.ownBlock] at hk
  · intro k hk
    simp only [Value.ownBlock, Option.some.injEq] at hk
    omega
theorem e_join {B n : Nat} {w : World} {v : Value} {l : List UInt8} (h : w.ownsRow B 5 1 v n (bc l)) (hn : l.length = n) : ∃ o c, v = .slice o n c ∧ Lb w o c l := by
  subst hn
  exact Lb.own h
theorem e_two (w : World) (a b : Int) (ha : 0 ≤ a) (ha1 : a < 256) (hb : 0 ≤ b) (hb1 : b < 256) : (w.alloc (.cells #[.int .u8 a, .int .u8 b] 5)).ownsRow w.heap.size 5 1 (.slice (some ⟨w.heap.size, 0, none⟩) 2 2) 2 (bc [UInt8.ofNat a.toNat, UInt8.ofNat b.toNat]) := by
  have e : (bc [UInt8.ofNat a.toNat, UInt8.ofNat b.toNat]).toArray = #[Value.int .u8 a, .int .u8 b] := by
    have e1 : ((UInt8.ofNat a.toNat).toNat : Int) = a := by rw [UInt8.toNat_ofNat']; omega
    have e2 : ((UInt8.ofNat b.toNat).toNat : Int) = b := by rw [UInt8.toNat_ofNat']; omega
    simp only [bc, List.map_cons, List.map_nil, e1, e2]
  refine own_of_block (l := [UInt8.ofNat a.toNat, UInt8.ofNat b.toNat]) ?_ (Nat.le_refl _) (by simp)
  rw [e]
  exact heap_alloc_new w _
theorem strange_num (num : Int) : 33 ≤ wrap64 (33 + (wrap64 (num.tmod 31 + 31)).tmod 31) ∧ wrap64 (33 + (wrap64 (num.tmod 31 + 31)).tmod 31) ≤ 63 := by
  have h1 : -31 < num.tmod 31 ∧ num.tmod 31 < 31 := by
    have a := Int.tmod_lt_of_pos num (show (0 : Int) < 31 by decide)
    have b := Int.lt_tmod_of_pos num (show (0 : Int) < 31 by decide)
    exact ⟨b, a⟩
  have h2 : wrap64 (num.tmod 31 + 31) = num.tmod 31 + 31 := by unfold wrap64; omega
  rw [h2]
  have h3 : (num.tmod 31 + 31).tmod 31 = (num.tmod 31 + 31) % 31 := Int.tmod_eq_emod_of_nonneg (by omega)
  rw [h3]
  have h4 : wrap64 (33 + (num.tmod 31 + 31) % 31) = 33 + (num.tmod 31 + 31) % 31 := by unfold wrap64; omega
  rw [h4]
  omega
set_option maxHeartbeats 8000000 in
theorem strange_walk (p : Ps) (num : Int) (vo : Option Addr) (vc : Nat) (v : List UInt8) (s : Bool) (w : World) (hp : Pl w p) (hv : Lb w vo vc v) (hvl : v.length ≤ 140737488351232) (ht : Tb w)
    (x : Option Addr) (hu : w.cell? ⟨1, 0, none⟩ = some (.iface 138 (.pointer x))) : Calls Tryd.prog 6 #[.agg p.cells.toArray, .agg #[.int .i64 num, .slice vo v.length vc], .bool s] w fun e w' => e = .returned (.bool true) ∧ Below w.heap.size w w' := by
  have HT : Aside (∀ X, Below w.heap.size w X → Tb X) := fun X hb => Tb_below ht hb (Tb_pos ht)
  have HU : Aside (∀ X, Below w.heap.size w X → X.cell? ⟨1, 0, none⟩ = some (.iface 138 (.pointer x))) := fun X hb => cell_bel hu hb
  have HV : Aside (∀ X, Below w.heap.size w X → Lb X vo vc v) := fun X hb => hv.bel hb
  have HVL : Aside (v.length ≤ 140737488351232) := hvl
  obtain ⟨dc, hdc⟩ : ∃ dc, defA = dc := ⟨_, rfl⟩
  have HDF : Aside (∀ X, Calls Tryd.prog 13 #[] X fun e w' => e = .returned (.agg dc) ∧ Below X.heap.size X w') := fun X => by have := default_c X; rwa [hdc] at this
  have HD8 : Aside (∀ X, Below w.heap.size w X → Calls Tryd.prog 8 #[.agg dc, .bool false] X fun e w' => ∃ o c, e = .returned (.tuple #[.slice o 2 c, .int .i64 0]) ∧ (convert 22 9 (.slice o 2 c)).run Tryd.prog w' = .ok (.string ⟨#[15, 0]⟩) w' ∧ Below X.heap.size X w') := fun X hb => by
    have := dflt_s X (HT.out X hb)
    rwa [hdc] at this
  have HPP : Aside (∀ X, Below w.heap.size w X → Pl X p) := fun X hb => hp.bel hb
  have HNO : Aside (p.bad s = true → ∀ X, Below w.heap.size w X → Calls Tryd.prog 8 #[.agg p.cells.toArray, .bool s] X fun e w' => e = .returned (.tuple #[.slice none 0 0, .int .i64 2]) ∧ Below X.heap.size X w') := fun h X hb => put_no p s X (hp.bel hb) h
  have HPU : Aside (∀ (X : World), Below w.heap.size w X → p.bad s = false → Calls Tryd.prog 8 #[.agg p.cells.toArray, .bool s] X fun e w' => ∃ o c, e = .returned (.tuple #[.slice o (p.bytes s).length c, .int .i64 0]) ∧ Lb w' o c (p.bytes s) ∧ Below X.heap.size X w') := fun X hb h2 => put_s p s X (hp.bel hb) (HT.out X hb) h2
  have HRA : Aside (∀ (X : World) (l : List UInt8) (o : Option Addr) (c : Nat) (RC : Int) (RQ : Rq), Below w.heap.size w X → Lb X o c l → l.length ≤ 140737488351232 → rdL l s (l.length + 1) 0 (fun _ => false) (refq dps) = (RC, RQ) → Calls Tryd.prog 17 #[.slice o l.length c, .bool s] X fun e w' => ∃ q, e = .returned (.tuple #[.agg q.cells.toArray, .int .i64 RC]) ∧ refq q = RQ ∧ Pn X.heap.size w' q ∧ Below X.heap.size X w') :=
    fun X l o c RC RQ hb h1 h2 h3 => read_c o c l s X (HT.out X hb) h1.sl h2 h1.le h1.cm x (HU.out X hb) RC RQ h3
  have hpm := hp.pm
  have H16 : Aside (p.reset.length = 16) := hp.r16
  obtain ⟨pc, hpc⟩ : ∃ pc, p.cells.toArray = pc := ⟨_, rfl⟩
  have HPC : Aside (p.cells.toArray = pc) := hpc
  have HIP : Aside ((Tryd.prog.info? 25).map (·.size) = some pc.size) := by show _ = _; rw [hi25, ← hpc]; simp [Ps.cells, hp.r16]
  rw [hpc] at hpm
  rw [hpc]
  obtain ⟨W0, hW0⟩ : ∃ W0, w.alloc (.cells pc 25) = W0 := ⟨_, rfl⟩
  have HB0 : Below w.heap.size w W0 := by rw [← hW0]; exact bel1 w _
  have HROW0 : W0.heap[w.heap.size]? = some (.cells pc 25 (0, 0)) := by
    have := hpm.row
    rw [hpc, hW0] at this
    exact this
  obtain ⟨W1, hW1⟩ : ∃ W1, W0.alloc (.cells #[.int .i64 num, .slice vo v.length vc] 50) = W1 := ⟨_, rfl⟩
  have hb01 : Below W0.heap.size W0 W1 := by rw [← hW1]; exact bel1 W0 _
  have HB1 : Aside (Below w.heap.size w W1) := bel_trans HB0 hb01
  have HKP : Aside (∀ X, Below W1.heap.size W1 X → X.heap[w.heap.size]? = some (.cells pc 25 (0, 0))) := fun X hX => (hX.block _ (Nat.lt_of_lt_of_le (lt_block HROW0) hb01.size)).trans ((hb01.block _ (lt_block HROW0)).trans HROW0)
  have HC0 : Aside (W1.cell? ⟨W0.heap.size, 0, none⟩ = some (.int .i64 num)) := by show _ = _; rw [← hW1]; simp [go_sem]
  have HC1 : Aside (W1.cell? ⟨W0.heap.size, 1, none⟩ = some (.slice vo v.length vc)) := by show _ = _; rw [← hW1]; simp [go_sem]
  clear hp hv ht hu hdc hpm hpc HB0 HROW0 hb01 hvl
  obtain ⟨P, hP⟩ : ∃ P, w.heap.size = P := ⟨_, rfl⟩
  have HP : Aside (w.heap.size = P) := hP
  obtain ⟨P2, hP2⟩ : ∃ P2, W0.heap.size = P2 := ⟨_, rfl⟩
  rw [hP] at HKP
  rw [hP2] at HC0 HC1
  obtain ⟨vn, hvn⟩ : ∃ vn, v.length = vn := ⟨_, rfl⟩
  have HVN : Aside (v.length = vn) := hvn
  rw [hvn] at HC1 hW1 ⊢
  go_enter Tryd.func6, Tryd.ntmps6
  go_wp2_with fail
  refine wp_region_held_drew (S := fun Z : World => Z.cell? ⟨P2, 0, none⟩ = some (.int .i64 num) ∧ Z.cell? ⟨P2, 1, none⟩ = some (.slice vo vn vc)) (by kernel_rfl) ⟨HC0.out, HC1.out⟩ (fun hHeld => ?_)
  refine wpAnyH_take (i := 0) (v := .pointer (some ⟨P2, 0, none⟩)) rfl (by kernel_rfl) (by kernel_rfl) (by kernel_rfl) (fun _ _ _ h => h) (Or.inl ⟨by rfl, by intro w hs; go_simp⟩) hHeld ?_
  refine norm_any' (fun K hK => ?_)
  go_simp
  refine hK _ _ ?_
  clear hK K
  refine wpAnyH_take (i := 1) (v := .int .i64 num) rfl (by kernel_rfl) (by kernel_rfl) (by kernel_rfl) (fun _ _ _ h => h) (Or.inl ⟨by rfl, by rintro w ⟨s0, s1⟩; go_simp⟩) hHeld ?_
  refine norm_any' (fun K hK => ?_)
  go_simp
  refine hK _ _ ?_
  clear hK K
  refine wpAnyH_take (i := 2) (v := .pointer (some ⟨P2, 1, none⟩)) rfl (by kernel_rfl) (by kernel_rfl) (by kernel_rfl) (fun _ _ _ h => h) (Or.inl ⟨by rfl, by intro w hs; go_simp⟩) hHeld ?_
  refine norm_any' (fun K hK => ?_)
  go_simp
  refine hK _ _ ?_
  clear hK K
  refine wpAnyH_take (i := 3) (v := .slice vo vn vc) rfl (by kernel_rfl) (by kernel_rfl) (by kernel_rfl) (fun _ _ _ h => h) (Or.inl ⟨by rfl, by rintro w ⟨s0, s1⟩; go_simp⟩) hHeld ?_
  refine norm_any' (fun K hK => ?_)
  go_simp
  refine hK _ _ ?_
  clear hK K
  refine wpAnyH_take (i := 4) (v := .int .i64 num) rfl (by kernel_rfl) (by kernel_rfl) (by kernel_rfl) (fun _ _ _ h => h) (Or.inl ⟨by rfl, by intro w hs; go_simp⟩) hHeld ?_
  refine norm_any' (fun K hK => ?_)
  go_simp
  refine hK _ _ ?_
  clear hK K
  refine wpAnyH_take (i := 5) (v := .slice vo vn vc) rfl (by kernel_rfl) (by kernel_rfl) (by kernel_rfl) (fun _ _ _ h => h) (Or.inl ⟨by rfl, by intro w hs; go_simp⟩) hHeld ?_
  refine norm_any' (fun K hK => ?_)
  go_simp
  refine hK _ _ ?_
  clear hK K
  refine wpAnyH_done (by kernel_rfl) ?_ _
  clear hHeld
  have HB2 : Aside (Below w.heap.size w W1.drew ∧ Below W1.heap.size W1 W1.drew) := ⟨bel_trans HB1.out (Below.refl _ _).drew, (Below.refl _ _).drew⟩
  clear hW0 hW1 hP2 hvn hP
  generalize W1.drew = W2 at *
  have HR2 : Aside (W2.heap[P]? = some (.cells pc 25 (0, 0))) := HKP.out W2 HB2.out.2
  by_cases hbad : p.bad s = true
  · have hpn := HNO.out hbad W2 HB2.out.1
    rw [HPC.out] at hpn
    go_wp2_with (first | (refine wpList_load_row rfl 25 (.tmp 3) rfl P rfl 25 _ (0, 0) _ HR2.out hu25 rfl HIP.out ?_))
    refine hpn.mono ?_
    rintro e W3 ⟨rfl, hb3⟩
    have HB3 : Aside (Below w.heap.size w W3 ∧ Below W1.heap.size W1 W3) := ⟨bel_trans HB2.out.1 hb3, bel_trans HB2.out.2 hb3⟩
    clear hpn hb3 HB2 HR2
    go_wp2_with fail
    refine (HDF.out W3).mono ?_
    rintro e W4 ⟨rfl, hb4⟩
    have HB4 : Aside (Below w.heap.size w W4 ∧ Below W1.heap.size W1 W4) := ⟨bel_trans HB3.out.1 hb4, bel_trans HB3.out.2 hb4⟩
    have HB34 : Aside (Below W3.heap.size W3 W4) := hb4
    clear hb4
    go_wp2_with fail
    refine (HD8.out W4 HB4.out.1).mono ?_
    rintro e W5 ⟨od, cd, rfl, hcv, hb5⟩
    have HB5 : Aside (Below w.heap.size w W5 ∧ Below W1.heap.size W1 W5) := ⟨bel_trans HB4.out.1 hb5, bel_trans HB4.out.2 hb5⟩
    have HB35 : Aside (Below W3.heap.size W3 W5) := bel_trans HB34.out hb5
    clear hb5 HB4 HB34
    go_wp2
    go_ret
    exact ⟨rfl, HB5.out.1⟩
  · have HBD : Aside (p.bad s = false) := by show _ = _; simpa using hbad
    clear hbad
    obtain ⟨np, hnp⟩ : ∃ np, (p.bytes s).length = np := ⟨_, rfl⟩
    have HNP : Aside ((p.bytes s).length = np) := hnp
    have HNB : Aside (np ≤ 680) := by show _ ≤ _; rw [← hnp]; exact bytes_len H16.out HBD.out
    clear hnp
    have hpn := HPU.out W2 HB2.out.1 HBD.out
    rw [HPC.out, HNP.out] at hpn
    go_wp2_with (first | (refine wpList_load_row rfl 25 (.tmp 3) rfl P rfl 25 _ (0, 0) _ HR2.out hu25 rfl HIP.out ?_))
    refine hpn.mono ?_
    rintro e W3 ⟨o3, c3, rfl, hl3, hb3⟩
    have HL3 : Aside (Lb W3 o3 c3 (p.bytes s)) := hl3
    have HB3 : Aside (Below w.heap.size w W3 ∧ Below W1.heap.size W1 W3) := ⟨bel_trans HB2.out.1 hb3, bel_trans HB2.out.2 hb3⟩
    clear hpn hl3 hb3 HB2 HR2
    go_wp2_with fail
    refine (HDF.out W3).mono ?_
    rintro e W4 ⟨rfl, hb4⟩
    have HB4 : Aside (Below w.heap.size w W4 ∧ Below W1.heap.size W1 W4) := ⟨bel_trans HB3.out.1 hb4, bel_trans HB3.out.2 hb4⟩
    have HB34 : Aside (Below W3.heap.size W3 W4) := hb4
    clear hb4
    go_wp2_with fail
    refine (HD8.out W4 HB4.out.1).mono ?_
    rintro e W5 ⟨od, cd, rfl, hcv, hb5⟩
    have HB5 : Aside (Below w.heap.size w W5 ∧ Below W1.heap.size W1 W5) := ⟨bel_trans HB4.out.1 hb5, bel_trans HB4.out.2 hb5⟩
    have HB35 : Aside (Below W3.heap.size W3 W5) := bel_trans HB34.out hb5
    clear hb5 HB4 HB34
    have HL5 : Aside (Lb W5 o3 c3 (p.bytes s)) := HL3.out.bel HB35.out
    by_cases hlong : (60 : Int) < (vn : Int)
    · go_wp2
      go_ret
      exact ⟨rfl, HB5.out.1⟩
    · clear HL3 HB3 HB35
      have hsmall : vn ≤ 60 := by omega
      have HSM : Aside (vn ≤ 60) := hsmall
      go_upto_region 9 with fail
      obtain ⟨i0, hi, hz0, hz1, hz2⟩ := info_parts info5
      have hsb := strange_num num
      obtain ⟨sn, hsn⟩ : ∃ sn, wrap64 (33 + (wrap64 (num.tmod 31 + 31)).tmod 31) = sn := ⟨_, rfl⟩
      rw [hsn] at hsb ⊢
      clear hsn
      have e1 : sn % 256 = sn := by omega
      have e2 : (vn : Int) % 256 = (vn : Int) := by omega
      have e3 : ¬ (63 : Int) < sn := by omega
      have HSB : Aside (33 ≤ sn ∧ sn < 64) := ⟨by omega, by omega⟩
      obtain ⟨L1, hL1⟩ : ∃ L1, layB sn v = L1 := ⟨_, rfl⟩
      have HL1 : Aside (layB sn v = L1) := hL1
      have HXS : Aside (bc [UInt8.ofNat sn.toNat, UInt8.ofNat (vn : Int).toNat] ++ bc v = bc L1) := by
        show _ = _
        rw [← hL1, strange_lay sn v (by omega) (by omega) (by rw [HVN.out]; omega), HVN.out, ← bc_append]
        rfl
      have HN1 : Aside (L1.length = 2 + vn) := by
        show _ = _
        rw [← hL1, strange_lay sn v (by omega) (by omega) (by rw [HVN.out]; omega), ← HVN.out]
        simp only [List.length_cons]
        omega
      clear hL1 hsb
      have HVA : Aside (Lb (W5.alloc (.cells #[.int .u8 sn, .int .u8 (vn : Int)] 5)) vo vc v) := (HV.out W5 HB5.out.1).bel (bel1 W5 _)
      have HNA : Aside (vo = none → vn = 0 ∧ vc = 0) := fun h => by have := HVA.out.nil h; rw [HVN.out] at this; exact this
      have HOA : Aside ((W5.alloc (.cells #[.int .u8 sn, .int .u8 (vn : Int)] 5)).ownsRow W5.heap.size 5 1 (.slice (some ⟨W5.heap.size, 0, none⟩) 2 2) 2 (bc [UInt8.ofNat sn.toNat, UInt8.ofNat (vn : Int).toNat])) := by
        have h1 := HSB.out
        have h2 := HSM.out
        exact e_two W5 sn (vn : Int) (by omega) (by omega) (by omega) (by omega)
      have HSA : Aside (W5.heap.size ≤ (W5.alloc (.cells #[.int .u8 sn, .int .u8 (vn : Int)] 5)).heap.size) := (bel1 W5 _).size
      go_upto_region 10 with (at_builtin; refine wpList_append_bytes rfl (.tmp 55) (.tmp 56) rfl W5.heap.size i0 Tryd.underlying22 hi hz0 hz1 hz2 (.slice (some ⟨W5.heap.size, 0, none⟩) 2 2) 2 (bc [UInt8.ofNat sn.toNat, UInt8.ofNat (vn : Int).toNat]) rfl HOA.out vo vn vc v rfl HVN.out HNA.out HVA.out.sl (by have := HSM.out; omega) HSA.out ?_; intro v9 W9 hown9 hgrow9; have HO9 : Aside (W9.ownsRow W5.heap.size 5 1 v9 (2 + vn) (bc L1)) := (by rw [← HXS.out]; exact hown9); have HB59 : Aside (Below W5.heap.size W5 W9) := (bel1 W5 _).grown hgrow9 HSA.out (e_blk HOA.out); clear hown9 hgrow9)
      obtain ⟨os, cs, hv9, hls⟩ := e_join HO9.out HN1.out
      subst hv9
      have HLS : Aside (Lb W9 os cs L1) := hls
      have HB9 : Aside (Below w.heap.size w W9 ∧ Below W1.heap.size W1 W9) := ⟨bel_trans HB5.out.1 HB59.out, bel_trans HB5.out.2 HB59.out⟩
      have HL9 : Aside (Lb W9 o3 c3 (p.bytes s)) := HL5.out.bel HB59.out
      clear hls HOA HO9 HVA HSA HXS HNA HL5 HB59 HB5 hcv e1 e2
      obtain ⟨n1, hn1⟩ : ∃ n1, 2 + vn = n1 := ⟨_, rfl⟩
      rw [hn1] at HN1 ⊢
      have HNN : Aside (n1 ≤ 62) := by show _ ≤ _; omega
      clear hn1
      have HE9 : Aside ((W9.alloc (.cells #[] 5)).ownsRow W9.heap.size 5 1 (.slice (some ⟨W9.heap.size, 0, none⟩) 0 0) 0 (bc [])) := e_own W9
      have HLa : Aside (Lb (W9.alloc (.cells #[] 5)) os cs L1) := HLS.out.bel (bel1 W9 _)
      have HSa : Aside (W9.heap.size ≤ (W9.alloc (.cells #[] 5)).heap.size) := (bel1 W9 _).size
      have HNs : Aside (os = none → n1 = 0 ∧ cs = 0) := fun h => by have := HLS.out.nil h; rw [HN1.out] at this; exact this
      have HNp : Aside (o3 = none → np = 0 ∧ c3 = 0) := fun h => by have := HL9.out.nil h; rw [HNP.out] at this; exact this
      have e4 : ¬ (63 : Int) < sn := e3
      go_wp2_with (first
        | (at_builtin; refine wpList_append_bytes rfl (.tmp 63) (.tmp 64) rfl W9.heap.size i0 Tryd.underlying22 hi hz0 hz1 hz2 va n1 (bc L1) rfl HOa.out o3 np c3 (p.bytes s) rfl HNP.out HNp.out HLb.out.sl (by have := HNN.out; have := HNB.out; omega) HBa.out.size ?_; intro vb Wb hownb hgrowb; have HOb : Aside (Wb.ownsRow W9.heap.size 5 1 vb (n1 + np) (bc (L1 ++ p.bytes s))) := (by rw [bc_append]; exact hownb); have HBb : Aside (Below W9.heap.size W9 Wb) := HBa.out.grown hgrowb HBa.out.size (e_blk HOa.out); clear hownb hgrowb)
        | (at_builtin; refine wpList_append_bytes rfl (.tmp 61) (.tmp 62) rfl W9.heap.size i0 Tryd.underlying22 hi hz0 hz1 hz2 (.slice (some ⟨W9.heap.size, 0, none⟩) 0 0) 0 (bc []) rfl HE9.out os n1 cs L1 rfl HN1.out HNs.out HLa.out.sl (by have := HNN.out; omega) HSa.out ?_; intro va Wa howna hgrowa; rw [Nat.zero_add] at howna; have HOa : Aside (Wa.ownsRow W9.heap.size 5 1 va n1 (bc L1)) := howna; have HBa : Aside (Below W9.heap.size W9 Wa) := (bel1 W9 _).grown hgrowa HSa.out (e_blk HE9.out); have HLb : Aside (Lb Wa o3 c3 (p.bytes s)) := HL9.out.bel HBa.out; clear howna hgrowa))
      have HLEN2 : Aside ((L1 ++ p.bytes s).length = n1 + np) := by show _ = _; rw [List.length_append, HN1.out, HNP.out]
      obtain ⟨ob, cb, hvb, hlb⟩ := e_join HOb.out HLEN2.out
      subst hvb
      have HBWb : Aside (Below w.heap.size w Wb) := bel_trans HB9.out.1 HBb.out
      have hr := HRA.out Wb (L1 ++ p.bytes s) ob cb 0 (refq p) HBWb.out hlb (by rw [HLEN2.out]; have := HNN.out; have := HNB.out; omega) (by rw [← HL1.out]; exact strange_one H16.out HBD.out sn v HSB.out.1 HSB.out.2 (by rw [HVN.out]; exact HSM.out))
      rw [HLEN2.out] at hr
      clear hlb HOa HOb HLa HLb HBa HE9 HSa
      refine hr.mono ?_
      rintro e X1 ⟨q, rfl, hq, hnnq, hbq⟩
      clear hr
      have HQ : Aside (refq q = refq p ∧ Pn Wb.heap.size X1 q ∧ Below Wb.heap.size Wb X1) := ⟨hq, hnnq, hbq⟩
      clear hq hnnq hbq
      have HSZnq : Aside (q.cells.toArray.size = 34) := Ps.size34 HQ.out.2.1.r16
      have HONnq : Aside (q.cells.toArray.all (·.oneCell') = true) := q.one34
      obtain ⟨DQ, hDnq⟩ : ∃ DQ, q.cells.toArray = DQ := ⟨_, rfl⟩
      rw [hDnq] at HSZnq HONnq ⊢
      have HCnq : Aside (q.cells.toArray = DQ) := hDnq
      clear hDnq
      have HInq : Aside ((Tryd.prog.info? 25).map (·.size) = some DQ.size) := by show _ = _; rw [HSZnq.out]; exact hi25
      have HZnq : Aside (zA.size = DQ.size) := by show _ = _; rw [HSZnq.out]; rfl
      obtain ⟨X1a, hX1a⟩ : ∃ X1a, X1.alloc (.cells zA 25) = X1a := ⟨_, rfl⟩
      have HGX1a : Aside (X1a.heap[X1.heap.size]? = some (.cells zA 25 (0, 0))) := by show _ = _; rw [← hX1a]; exact heap_alloc_new X1 _
      have HBX1a : Aside (Below X1.heap.size X1 X1a) := by show Below _ _ _; rw [← hX1a]; exact bel1 _ _
      unfold zA at hX1a
      go_upto_region 13 with (refine wpList_store_row rfl 25 (.tmp 15) (.tmp 68) rfl X1.heap.size DQ rfl rfl 25 _ HGX1a.out HInq.out HZnq.out HONnq.out ?_)
      obtain ⟨X2, hX2⟩ : ∃ X2, X1a.setRow X1.heap.size DQ = X2 := ⟨_, rfl⟩
      rw [hX2]
      have HRX2 : Aside (X2.heap[X1.heap.size]? = some (.cells DQ 25 (0, 0))) := by show _ = _; rw [← hX2]; exact setRow_heap X1a _ _ _ 25 (0, 0) HGX1a.out
      have HBX2 : Aside (Below X1.heap.size X1 X2) := by show Below _ _ _; rw [← hX2]; exact HBX1a.out.trans ⟨rfl, rfl, rfl, by simp, fun j hj => setRow_other X1a _ j _ (by omega)⟩
      clear hX2 hX1a HGX1a HBX1a HZnq
      have HBX : Aside (Below w.heap.size w X2 ∧ Below W1.heap.size W1 X2 ∧ Below W9.heap.size W9 X2) := by
        have h := bel_trans HBb.out (bel_trans HQ.out.2.2 HBX2.out)
        exact ⟨bel_trans HB9.out.1 h, bel_trans HB9.out.2 h, h⟩
      have HPQ : Aside (∀ X, Below X2.heap.size X2 X → Pl X q) := fun X hX => ((HQ.out.2.1.bel (bel_trans HBX2.out hX)).pl)
      have HREF : Aside (refq q = refq p) := HQ.out.1
      have HLX1 : Aside (Lb X2 os cs L1) := HLS.out.bel HBX.out.2.2
      have HLX2 : Aside (Lb X2 o3 c3 (p.bytes s)) := HL9.out.bel HBX.out.2.2
      generalize X1.heap.size = AQ at HRX2 ⊢
      clear HBX2 HQ HBb HBWb HLS HL9
      have HE2 : Aside ((X2.alloc (.cells #[] 5)).ownsRow X2.heap.size 5 1 (.slice (some ⟨X2.heap.size, 0, none⟩) 0 0) 0 (bc [])) := e_own X2
      have HLa2 : Aside (Lb (X2.alloc (.cells #[] 5)) os cs L1) := HLX1.out.bel (bel1 X2 _)
      have HSa2 : Aside (X2.heap.size ≤ (X2.alloc (.cells #[] 5)).heap.size) := (bel1 X2 _).size
      go_wp2_with (first
        | (at_builtin; refine wpList_append_bytes rfl (.tmp 75) (.tmp 76) rfl X2.heap.size i0 Tryd.underlying22 hi hz0 hz1 hz2 vb (n1 + np) (bc (L1 ++ p.bytes s)) rfl HOb.out os n1 cs L1 rfl HN1.out HNs.out HLc.out.sl (by have := HNN.out; have := HNB.out; omega) HBb.out.size ?_; intro vd Yd hownd hgrowd; have HOd : Aside (Yd.ownsRow X2.heap.size 5 1 vd (n1 + np + n1) (bc (L1 ++ p.bytes s ++ L1))) := (by rw [bc_append (L1 ++ p.bytes s)]; exact hownd); have HBd : Aside (Below X2.heap.size X2 Yd) := HBb.out.grown hgrowd HBb.out.size (e_blk HOb.out); clear hownd hgrowd)
        | (at_builtin; refine wpList_append_bytes rfl (.tmp 73) (.tmp 74) rfl X2.heap.size i0 Tryd.underlying22 hi hz0 hz1 hz2 va n1 (bc L1) rfl HOa.out o3 np c3 (p.bytes s) rfl HNP.out HNp.out HLb.out.sl (by have := HNN.out; have := HNB.out; omega) HBa.out.size ?_; intro vb Yb hownb hgrowb; have HOb : Aside (Yb.ownsRow X2.heap.size 5 1 vb (n1 + np) (bc (L1 ++ p.bytes s))) := (by rw [bc_append]; exact hownb); have HBb : Aside (Below X2.heap.size X2 Yb) := HBa.out.grown hgrowb HBa.out.size (e_blk HOa.out); have HLc : Aside (Lb Yb os cs L1) := HLX1.out.bel HBb.out; clear hownb hgrowb)
        | (at_builtin; refine wpList_append_bytes rfl (.tmp 71) (.tmp 72) rfl X2.heap.size i0 Tryd.underlying22 hi hz0 hz1 hz2 (.slice (some ⟨X2.heap.size, 0, none⟩) 0 0) 0 (bc []) rfl HE2.out os n1 cs L1 rfl HN1.out HNs.out HLa2.out.sl (by have := HNN.out; omega) HSa2.out ?_; intro va Ya howna hgrowa; rw [Nat.zero_add] at howna; have HOa : Aside (Ya.ownsRow X2.heap.size 5 1 va n1 (bc L1)) := howna; have HBa : Aside (Below X2.heap.size X2 Ya) := (bel1 X2 _).grown hgrowa HSa2.out (e_blk HE2.out); have HLb : Aside (Lb Ya o3 c3 (p.bytes s)) := HLX2.out.bel HBa.out; clear howna hgrowa))
      have HLEN3 : Aside ((L1 ++ p.bytes s ++ L1).length = n1 + np + n1) := by show _ = _; rw [List.length_append, List.length_append, HN1.out, HNP.out]
      obtain ⟨od', cd', hvd, hld⟩ := e_join HOd.out HLEN3.out
      subst hvd
      have HBYd : Aside (Below w.heap.size w Yd) := bel_trans HBX.out.1 HBd.out
      have hr := HRA.out Yd (L1 ++ p.bytes s ++ L1) od' cd' 13 rqE HBYd.out hld (by rw [HLEN3.out]; have := HNN.out; have := HNB.out; omega) (by rw [← HL1.out]; exact strange_two H16.out HBD.out sn v HSB.out.1 HSB.out.2 (by rw [HVN.out]; exact HSM.out))
      rw [HLEN3.out] at hr
      clear hld HOa HOb HOd HLa2 HLb HLc HBa HBb HE2 HSa2
      refine hr.mono ?_
      rintro e X5 ⟨r, rfl, hrq, hnr, hbr⟩
      clear hr
      generalize r.cells.toArray = DR
      have HB25 : Aside (Below X2.heap.size X2 X5) := bel_trans HBd.out hbr
      clear hrq hnr hbr HBYd HBd
      obtain ⟨D4, hD4⟩ : ∃ D4, (refq p).cells.toArray = D4 := ⟨_, rfl⟩
      have heql : ∀ X, (binOp .eql 34 (.agg D4) (.agg D4)).run Tryd.prog X = .ok (.bool true) X := fun X => by rw [← hD4]; exact eq34s (refq p) X
      have HKE : Aside (∀ X, Below X5.heap.size X5 X → X.heap[P]? = some (.cells pc 25 (0, 0)) ∧ X.heap[AQ]? = some (.cells DQ 25 (0, 0))) := fun X hX => ⟨HKP.out X (bel_trans HBX.out.2.1 (bel_trans HB25.out hX)), ((bel_trans HB25.out hX).block _ (lt_block HRX2.out)).trans HRX2.out⟩
      have HFQ : Aside (∀ X, Below X5.heap.size X5 X → Calls Tryd.prog 10 #[.agg DQ] X fun e w' => e = .returned (.agg D4) ∧ Below X.heap.size X w') := fun X hX => by
        have := refs_c q X (HPQ.out X (bel_trans HB25.out hX))
        rwa [HCnq.out, HREF.out, hD4] at this
      have HFP : Aside (∀ X, Below X5.heap.size X5 X → Calls Tryd.prog 10 #[.agg pc] X fun e w' => e = .returned (.agg D4) ∧ Below X.heap.size X w') := fun X hX => by
        have := refs_c p X (HPP.out X (bel_trans HBX.out.1 (bel_trans HB25.out hX)))
        rwa [HPC.out, hD4] at this
      have HEN : Aside (Below w.heap.size w X5) := bel_trans HBX.out.1 HB25.out
      clear hD4 HPQ HREF HRX2 HB25 HKP HBX HLX1 HLX2
      go_wp2_with fail
      refine wp_region_held_drew (S := fun Z : World => Z.heap[P]? = some (.cells pc 25 (0, 0)) ∧ Z.heap[AQ]? = some (.cells DQ 25 (0, 0))) (by kernel_rfl) (HKE.out _ (Below.refl _ _).drew) (fun hHeld => ?_)
      refine wpAnyH_take (i := 0) (v := .int .i64 0) rfl (by kernel_rfl) (by kernel_rfl) (by kernel_rfl) (fun _ _ _ h => h) (Or.inl ⟨by rfl, by intro w hs; go_simp⟩) hHeld ?_
      refine norm_any' (fun K hK => ?_)
      go_simp
      refine hK _ _ ?_
      clear hK K
      refine wpAnyH_take (i := 1) (v := .bool true) rfl (by kernel_rfl) (by kernel_rfl) (by kernel_rfl) (fun _ _ _ h => h) (Or.inl ⟨by rfl, by intro w hs; go_simp⟩) hHeld ?_
      refine norm_any' (fun K hK => ?_)
      go_simp
      refine hK _ _ ?_
      clear hK K
      refine wpAnyH_take (i := 2) (v := .bool true) rfl (by kernel_rfl) (by kernel_rfl) (by kernel_rfl) (fun _ _ _ h => h) (Or.inl ⟨by rfl, by intro w hs; go_simp⟩) hHeld ?_
      refine norm_any' (fun K hK => ?_)
      go_simp
      refine hK _ _ ?_
      clear hK K
      refine wpAnyH_take (i := 3) (v := .agg DQ) rfl (by kernel_rfl) (by kernel_rfl) (by kernel_rfl) (fun _ _ _ h => h) (yl25 (by rfl) _ rfl AQ rfl DQ (fun X h => h.2) HInq.out) hHeld ?_
      refine norm_any' (fun K hK => ?_)
      go_simp
      refine hK _ _ ?_
      clear hK K
      refine wpAnyH_take (i := 5) (v := .agg pc) rfl (by kernel_rfl) (by kernel_rfl) (by kernel_rfl) (fun _ _ _ h => h) (yl25 (by rfl) _ rfl P rfl pc (fun X h => h.1) HIP.out) hHeld ?_
      refine norm_any' (fun K hK => ?_)
      go_simp
      refine hK _ _ ?_
      clear hK K
      refine wpAnyH_ready (rs := [4]) (by kernel_rfl) (by simp) (AllReadyH.cons rfl (fun K hK => ?_) AllReadyH.nil)
      go_simp
      refine Calls.mono (HFQ.out _ (Below.refl _ _).drew) ?_
      rintro e wa ⟨rfl, hbwa⟩
      have HBwa : Aside (Below X5.heap.size X5 wa) := bel_trans (Below.refl _ _).drew hbwa
      clear hbwa
      refine hK.out _ _ (HKE.out _ HBwa.out) (fun hHeld => ?_)
      clear hK K
      refine norm_any' (fun K hK => ?_)
      go_simp
      refine hK _ _ ?_
      clear hK K
      refine wpAnyH_ready (rs := [6]) (by kernel_rfl) (by simp) (AllReadyH.cons rfl (fun K hK => ?_) AllReadyH.nil)
      go_simp
      refine Calls.mono (HFP.out _ HBwa.out) ?_
      rintro e wb ⟨rfl, hbwb⟩
      have HBwb : Aside (Below X5.heap.size X5 wb) := bel_trans HBwa.out hbwb
      clear hbwb
      refine hK.out _ _ (HKE.out _ HBwb.out) (fun hHeld => ?_)
      clear hK K
      refine norm_any' (fun K hK => ?_)
      go_simp
      refine hK _ _ ?_
      clear hK K
      refine wpAnyH_take (i := 7) (v := .bool true) rfl (by kernel_rfl) (by kernel_rfl) (by kernel_rfl) (fun _ _ _ h => h) (Or.inl ⟨by rfl, by intro w hs; go_simp⟩) hHeld ?_
      refine norm_any' (fun K hK => ?_)
      go_simp
      refine hK _ _ ?_
      clear hK K
      refine wpAnyH_take (i := 8) (v := .bool true) rfl (by kernel_rfl) (by kernel_rfl) (by kernel_rfl) (fun _ _ _ h => h) (Or.inl ⟨by rfl, by intro w hs; go_simp⟩) hHeld ?_
      refine norm_any' (fun K hK => ?_)
      go_simp
      refine hK _ _ ?_
      clear hK K
      refine wpAnyH_take (i := 9) (v := .bool true) rfl (by kernel_rfl) (by kernel_rfl) (by kernel_rfl) (fun _ _ _ h => h) (Or.inl ⟨by rfl, by intro w hs; go_simp⟩) hHeld ?_
      refine norm_any' (fun K hK => ?_)
      go_simp
      refine hK _ _ ?_
      clear hK K
      refine wpAnyH_take (i := 10) (v := .int .i64 13) rfl (by kernel_rfl) (by kernel_rfl) (by kernel_rfl) (fun _ _ _ h => h) (Or.inl ⟨by rfl, by intro w hs; go_simp⟩) hHeld ?_
      refine norm_any' (fun K hK => ?_)
      go_simp
      refine hK _ _ ?_
      clear hK K
      refine wpAnyH_take (i := 11) (v := .bool true) rfl (by kernel_rfl) (by kernel_rfl) (by kernel_rfl) (fun _ _ _ h => h) (Or.inl ⟨by rfl, by intro w hs; go_simp⟩) hHeld ?_
      refine norm_any' (fun K hK => ?_)
      go_simp
      refine hK _ _ ?_
      clear hK K
      refine wpAnyH_take (i := 12) (v := .bool true) rfl (by kernel_rfl) (by kernel_rfl) (by kernel_rfl) (fun _ _ _ h => h) (Or.inl ⟨by rfl, by intro w hs; go_simp⟩) hHeld ?_
      refine norm_any' (fun K hK => ?_)
      go_simp
      refine hK _ _ ?_
      clear hK K
      refine wpAnyH_take (i := 13) (v := .bool true) rfl (by kernel_rfl) (by kernel_rfl) (by kernel_rfl) (fun _ _ _ h => h) (Or.inl ⟨by rfl, by intro w hs; go_simp⟩) hHeld ?_
      refine norm_any' (fun K hK => ?_)
      go_simp
      refine hK _ _ ?_
      clear hK K
      refine wpAnyH_done (by kernel_rfl) ?_ _
      clear hHeld
      have HEND : Aside (Below w.heap.size w wb) := bel_trans HEN.out HBwb.out
      clear heql HKE HFQ HFP HBwa HBwb
      go_wp2
      go_ret
      exact ⟨rfl, HEND.out⟩
end Go.Proofs.YtcppnellgkbndaaDoor
