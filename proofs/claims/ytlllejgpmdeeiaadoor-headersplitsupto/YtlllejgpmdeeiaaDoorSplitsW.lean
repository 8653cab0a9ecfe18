/- The walk of caravellaw02.HeaderSplits. -/
import Derived.Test.YtlllejgpmdeeiaaDoorSplitsB
import Derived.Deep.RegionWith
import Derived.Deep.RegionHeld
namespace Go.Proofs.YtlllejgpmdeeiaaDoor
open Go.ChangeShapes Go.WideShapes Go.ChangeAt Go.RowKit
set_option linter.unusedVariables false

/-- the loop's relation: what lies from o on is as it was -/
structure LR (w5 wr : World) (l : List UInt8) (g1 o : Nat) (cur0 : Array Value) : Prop where
  only : Only g1 w5 wr
  same : l.length = 0 → wr = w5
  row : 0 < l.length → ∃ cur, wr.heap[g1]? = some (.cells cur 5 (0, 0)) ∧ ∀ j, o ≤ j → cur[j]? = cur0[j]?
theorem Only.cell {R : Nat} {w w' : World} (o : Only R w w') {a : Addr} (h : a.block ≠ R) : w'.cell? a = w.cell? a := World.cell?_of_block (o.block _ h)
theorem Only.drew {R : Nat} {w w' : World} (o : Only R w w') : Only R w.drew w' := ⟨o.os, o.tape, o.output, o.size, o.block⟩
theorem Only.drew' {R : Nat} {w w' : World} (o : Only R w.drew w') : Only R w w' := ⟨o.os, o.tape, o.output, o.size, o.block⟩
theorem LR.sl {w5 wr : World} {l : List UInt8} {g1 o n : Nat} {cur0 : Array Value} (h : LR w5 wr l g1 o cur0) (h0 : w5.heap[g1]? = some (.cells cur0 5 (0, 0))) (hs : Sl w5 (some ⟨g1, 0, none⟩) l) (hn : o + n ≤ l.length) (hp : 0 < l.length) : Sl wr (some ⟨g1, o, none⟩) (sub l o n) := by
  obtain ⟨cur, hc, ha⟩ := h.row hp
  intro j hj
  rw [sub_length l o n hn] at hj
  obtain ⟨b', off', he, hx⟩ := hs (o + j) (by omega)
  simp only [Option.some.injEq, Addr.mk.injEq, and_true] at he
  obtain ⟨rfl, rfl⟩ := he
  refine ⟨g1, o, rfl, ?_⟩
  unfold World.cell? at hx ⊢
  rw [h0] at hx
  rw [hc]
  have e := ha (o + j) (by omega)
  simp only [Nat.zero_add] at hx
  simp only [e]
  rw [hx]
  simp [sub]
theorem LR.next {w5 wr w6 : World} {l : List UInt8} {g1 o n : Nat} {cur0 cur : Array Value} (h : LR w5 wr l g1 o cur0) (hp : 0 < l.length) (ha : ∀ j, o ≤ j → cur[j]? = cur0[j]?) (sp : SpR wr.drew w6 g1 o n cur) : LR w5 w6 l g1 (o + n) cur0 := by
  obtain ⟨cur', hb, _, hc⟩ := sp.row
  exact ⟨h.only.trans sp.only.drew', fun h0 => by omega, fun _ => ⟨cur', hb, fun j hj => (hc j (.inr hj)).trans (ha j (by omega))⟩⟩

set_option maxRecDepth 10000 in
set_option maxHeartbeats 2000000 in
theorem splits_walk (ao : Option Addr) (l : List UInt8) (cap : Nat) (ids : Int) (w : World) (ht : Tb w) (hs : Sl w ao l) (hl : l.length ≤ 1048576) (hcap : l.length ≤ cap) (hcm : cap ≤ 9223372036854775807) (hnil : ao = none → l.length = 0 ∧ cap = 0) :
    Calls Tryd.prog 4 #[.slice ao l.length cap, .int .i64 ids] w fun e w' => e = .returned (.bool true) ∧ Below w.heap.size w w' := by
  obtain ⟨i0, hi, hz0, hz1, hz2⟩ := info_parts info5
  obtain ⟨b, off, hao⟩ : ∃ b off, 0 < l.length → ao = some ⟨b, off, none⟩ ∧ b < w.heap.size := by
    by_cases hp : 0 < l.length
    · obtain ⟨b, off, he, hx⟩ := hs 0 hp
      exact ⟨b, off, fun _ => ⟨he, World.block_lt_of_cell? w _ hx⟩⟩
    · exact ⟨0, 0, fun h => absurd h hp⟩
  have HAO := mkHid hao
  have HT := mkHid ht
  have HS := mkHid hs
  have HN := mkHid hnil
  clear ht hs hnil hao
  go_enter Tryd.func4, Tryd.ntmps4
  go_wp2_with (first
    | (at_builtin; refine wpList_append_bytes rfl (.tmp 10) (.tmp 11) rfl w.heap.size i0 Tryd.underlying22 hi hz0 hz1 hz2 _ 0 [] rfl (World.ownsRow_made w #[] 0 (Nat.le_refl _) (by decide) rfl) ao l.length cap l rfl rfl HN.out (Sl_alloc HS.out _) (by omega) (by simp) ?_; intro v1 w1 hown hgrow; have HO1 := mkHid hown; have HG1 := mkHid hgrow; clear hown hgrow)
    | (at_builtin; refine wpList_append_bytes rfl (.tmp 12) (.tmp 13) rfl w.heap.size i0 Tryd.underlying22 hi hz0 hz1 hz2 v1 (0 + l.length) ([] ++ bc l) rfl (HO1.out.alloc _) (some ⟨w1.heap.size, 0, none⟩) 1 1 [90] rfl rfl (fun h => by cases h) (Sl_new w1 90) (by omega) (by have := HG1.out.size; simp at this ⊢; omega) ?_; intro v2 w2 hown hgrow; obtain ⟨g, cp, cur, hmi⟩ := made_in HO1.out HG1.out hown hgrow; have HM := mkHid hmi; clear hown hgrow hmi HO1 HG1; have hv2 := HM.out.val; subst hv2; have hroom := HM.out.room; have hmost := HM.out.most))
  have HT2 := mkHid (Tb_below HT.out HM.out.below (Tb_pos HT.out))
  refine (split_row (some ⟨g, 0, none⟩) l cp ids _ HM.out.sl HT2.out (by omega) (fun h => by cases h)).mono ?_
  rintro e w3 ⟨p1, c1, ps, g1, B1, rfl, hown1, hch1, hsl1, hB1, hbel3⟩
  have HB3 := mkHid hbel3
  have HO1 := mkHid hown1
  have HSL1 := mkHid hsl1
  have HCH := mkHid hch1
  have HB1 := mkHid hB1
  clear hown1 hch1 hsl1 hbel3 hB1
  go_wp2_with fail
  refine (split_row (some ⟨g, 0, none⟩) l cp ids _ (Sl_below HM.out.sl HB3.out) (Tb_below HT2.out HB3.out (Tb_pos HT2.out)) (by omega) (fun h => by cases h)).mono ?_
  rintro e w4 ⟨p2, c2, ps2, g2, B2, rfl, hown2, hch2, hsl2, hB2, hbel4⟩
  obtain rfl := Chain.one_of hch2 HCH.out
  have HB4 := mkHid hbel4
  have HO2 := mkHid hown2
  have HSL2 := mkHid hsl2
  have HB2 := mkHid hB2
  clear hown2 hch2 hsl2 hbel4 hB2
  go_wp2_with fail
  have HBW4 := mkHid ((HM.out.below.trans (HB3.out.mono HM.out.below.size)).trans (HB4.out.mono (Nat.le_trans HM.out.below.size HB3.out.size)))
  refine (rsplit_all ao b off l cap ids _ (Sl_below HS.out HBW4.out) (fun h => (HAO.out h).1) (by omega) hcap hcm).mono ?_
  rintro e w5 ⟨p3, c3, ps3, rfl, hown3, hch3, hbel5⟩
  obtain rfl := Chain.one_of hch3 HCH.out
  have HB5 := mkHid hbel5
  have HO3 := mkHid hown3
  clear hown3 hch3 hbel5
  -- what lies at w5
  have h32 := HB3.out.size
  have h43 := HB4.out.size
  have h54 := HB5.out.size
  have hgl : g < w2.heap.size := lt_block HM.out.block
  have h2w := HM.out.below.size
  obtain ⟨cur0, hcur0⟩ : ∃ cur0, 0 < l.length → w5.heap[g1]? = some (.cells cur0 5 (0, 0)) := by
    by_cases hp : 0 < l.length
    · obtain ⟨_, _, _, cur0, hc⟩ := HSL1.out hp
      exact ⟨cur0, fun _ => (HB5.out.block g1 (by have := lt_block hc; omega)).trans ((HB4.out.block g1 (lt_block hc)).trans hc)⟩
    · exact ⟨#[], fun h => absurd h hp⟩
  have HC0 := mkHid hcur0
  have HF : Hid (0 < l.length → w2.heap.size ≤ g1 ∧ g1 < w3.heap.size ∧ g1 < B1 ∧ w3.heap.size ≤ g2 ∧ g2 < w4.heap.size ∧ Sl w5 (some ⟨g1, 0, none⟩) l ∧ Sl w5 (some ⟨g2, 0, none⟩) l) := by
    intro hp
    obtain ⟨s1, s2, s3, cur1, hc1⟩ := HSL1.out hp
    obtain ⟨u1, u2, u3, cur2, hc2⟩ := HSL2.out hp
    have l1 := lt_block hc1
    have l2 := lt_block hc2
    exact ⟨s2, l1, s3, u2, l2, Sl_below (Sl_below s1 HB4.out) HB5.out, Sl_below u1 HB5.out⟩
  have HO15 := mkHid (rows_below (rows_below HO1.out HB4.out) HB5.out)
  have HO25 := mkHid (rows_below HO2.out HB5.out)
  have HS5 := mkHid (Sl_below HS.out (HBW4.out.trans (HB5.out.mono HBW4.out.size)))
  have HA5 := mkHid (Sl_below (Sl_below (Sl_below HM.out.all HB3.out) HB4.out) HB5.out)
  have HBW5 := mkHid (HBW4.out.trans (HB5.out.mono HBW4.out.size))
  have hpl := HCH.out.le
  have H0 : Hid (LR w5 w5 l g1 0 cur0) := ⟨Only.refl _ _, fun _ => rfl, fun hp => ⟨cur0, hcur0 hp, fun _ _ => rfl⟩⟩
  clear hcur0 HO1 HO2 HSL1 HSL2 HT HT2 HS
  go_wp2
  go_loopg [9] (ps3.length + 1) (fun m i wr => ∃ k o, k ≤ ps3.length ∧ m = ps3.length + 1 - k ∧ i = .int .i64 (k : Nat) ∧ Hid (Chain l ids (ps3.drop k) o l.length) ∧ Hid (LR w5 wr l g1 o cur0))
  case atStart => exact ⟨0, 0, by omega, by omega, rfl, by simpa using HCH, H0⟩
  case round =>
    obtain ⟨k, o, hk, hm, rfl, HC, HR⟩ := hrel
    clear H0
    by_cases hlt : k < ps3.length
    · have hd : ps3.drop k = ps3[k] :: ps3.drop (k + 1) := List.drop_eq_getElem_cons hlt
      obtain ⟨q1, hq1, hq1b, hq1l, hcell1, hm1, hm1'⟩ := prows_cell HO15.out hlt
      obtain ⟨q2, hq2, hq2b, hq2l, hcell2, hm2, hm2'⟩ := prows_cell HO25.out hlt
      obtain ⟨q3, hq3, hq3b, hq3l, hcell3, hm3, hm3'⟩ := rrows_cell HO3.out hlt
      have hch := HC.out
      rw [hd] at hch
      obtain ⟨x, hx⟩ : ∃ x, ps3[k] = x := ⟨_, rfl⟩
      rw [hx] at hcell1 hcell2 hcell3 hch
      obtain ⟨o', n⟩ := x
      obtain ⟨rfl, hps, hn0, hch'⟩ := hch
      have hon := hch'.le
      have hpos : 0 < l.length := by omega
      obtain ⟨f1, f2, f3, f4, f5, f6, f7⟩ := HF.out hpos
      obtain ⟨hao, hbl⟩ := HAO.out hpos
      subst hq1 hq2 hq3
      have hB2 := HB2.out
      have n1 : q1 ≠ g1 := by omega
      have n2 : q2 ≠ g1 := by omega
      have n3 : q3 ≠ g1 := by omega
      have hsub := sub_length l o' n (by omega)
      have dd1 : wr.cell? ⟨q1, k, none⟩ = some (.slice (some ⟨g1, o', none⟩) n n) := (HR.out.only.cell n1).trans hcell1
      have dd2 : wr.cell? ⟨q2, k, none⟩ = some (.slice (some ⟨g2, o', none⟩) n n) := (HR.out.only.cell n2).trans hcell2
      have dd3 : wr.cell? ⟨q3, k, none⟩ = some (.slice (some ⟨b, off + o', none⟩) n (cap - o')) := (HR.out.only.cell n3).trans hcell3
      obtain ⟨cur', hcur', hag⟩ := HR.out.row hpos
      have hs5 := HS5.out
      rw [hao] at hs5
      have hw3 : Sl w5 (some ⟨b, off + o', none⟩) (sub l o' n) := Sl_cut (off + o') hs5 (by omega) (fun _ => rfl)
      have hw2 : Sl w5 (some ⟨g2, o', none⟩) (sub l o' n) := Sl_cut o' f7 (by omega) (fun _ => by omega)
      have hw1 : Sl wr (some ⟨g1, o', none⟩) (sub l o' n) := HR.out.sl (HC0.out hpos) f6 (by omega) hpos
      obtain ⟨X, hX⟩ : ∃ X, sub l o' n = X := ⟨_, rfl⟩
      rw [hX] at hsub hw1 hw2 hw3
      have SP := spoilt_any g1 o' n X cur' (some ⟨b, off + o', none⟩) (cap - o') wr.drew hcur' hw1 (show Sl wr _ _ from HR.out.only.sl hw3 (by omega)) (fun h => by cases h) (by omega)
      rw [hsub] at SP
      have HSP := mkHid SP
      have HS0 : Hid (wr.drew.cell? ⟨q1, k, none⟩ = some (.slice (some ⟨g1, o', none⟩) n n) ∧ wr.drew.cell? ⟨q2, k, none⟩ = some (.slice (some ⟨g2, o', none⟩) n n) ∧ wr.drew.cell? ⟨q3, k, none⟩ = some (.slice (some ⟨b, off + o', none⟩) n (cap - o')) ∧ Sl wr.drew (some ⟨g2, o', none⟩) X ∧ Sl wr.drew (some ⟨b, off + o', none⟩) X) := ⟨dd1, dd2, dd3, HR.out.only.sl hw2 (by omega), HR.out.only.sl hw3 (by omega)⟩
      have HAFT : Hid (∀ w6, SpR wr.drew w6 g1 o' n cur' → Hid (w6.cell? ⟨q1, k, none⟩ = some (.slice (some ⟨g1, o', none⟩) n n) ∧ w6.cell? ⟨q2, k, none⟩ = some (.slice (some ⟨g2, o', none⟩) n n) ∧ w6.cell? ⟨q3, k, none⟩ = some (.slice (some ⟨b, off + o', none⟩) n (cap - o')) ∧ Sl w6 (some ⟨g2, o', none⟩) X ∧ Sl w6 (some ⟨b, off + o', none⟩) X) ∧ Hid (LR w5 w6 l g1 (o' + n) cur0)) := by
        intro w6 sp
        have ho : Only g1 w5 w6 := HR.out.only.trans sp.only.drew'
        exact ⟨⟨(ho.cell n1).trans hcell1, (ho.cell n2).trans hcell2, (ho.cell n3).trans hcell3, ho.sl hw2 (by omega), ho.sl hw3 (by omega)⟩, HR.out.next hpos hag sp⟩
      have HCH' := mkHid hch'
      clear hcell1 hcell2 hcell3 hch' hw1 hw2 hw3 SP hs5 hcur' hag hx hd HC hX f1 f2 f3 f4 f5 f6 f7 hps hao
      go_wp2
      refine wp_region_held_drew (S := fun w' => w'.cell? ⟨q1, k, none⟩ = some (.slice (some ⟨g1, o', none⟩) n n) ∧ w'.cell? ⟨q2, k, none⟩ = some (.slice (some ⟨g2, o', none⟩) n n) ∧ w'.cell? ⟨q3, k, none⟩ = some (.slice (some ⟨b, off + o', none⟩) n (cap - o')) ∧ Sl w' (some ⟨g2, o', none⟩) X ∧ Sl w' (some ⟨b, off + o', none⟩) X) (by kernel_rfl) ?_ (fun hHeld => ?_)
      · exact HS0.out
      refine wpAnyH_take (i := 0) (v := .slice (some ⟨q1, 0, none⟩) ps3.length c1) rfl (by kernel_rfl) (by kernel_rfl) (by kernel_rfl) (fun _ _ _ h => h) (Or.inl ⟨by rfl, fun w hSw => by rfl⟩) hHeld ?_
      refine wpAnyH_take (i := 1) (v := .int .i64 (k : Int)) rfl (by kernel_rfl) (by kernel_rfl) (by kernel_rfl) (fun _ _ _ h => h) (Or.inl ⟨by rfl, fun w hSw => by rfl⟩) hHeld ?_
      refine norm_any' (fun K hK => ?_)
      go_simp
      refine hK _ _ ?_
      clear hK K
      refine wpAnyH_take (i := 2) (v := .pointer (some ⟨q1, k, none⟩)) rfl (by kernel_rfl) (by kernel_rfl) (by kernel_rfl) (fun _ _ _ h => h) (Or.inl ⟨by rfl, by intro w hSw; clear hSw; go_simp⟩) hHeld ?_
      refine norm_any' (fun K hK => ?_)
      go_simp
      refine hK _ _ ?_
      clear hK K
      refine wpAnyH_take (i := 3) (v := .slice (some ⟨g1, o', none⟩) n n) rfl (by kernel_rfl) (by kernel_rfl) (by kernel_rfl) (fun _ _ _ h => h) (Or.inl ⟨by rfl, by intro w hSw; obtain ⟨t1, t2, t3, t4, t5⟩ := hSw; go_simp⟩) hHeld ?_
      refine wpAnyH_take (i := 4) (v := .slice (some ⟨q3, 0, none⟩) ps3.length c3) rfl (by kernel_rfl) (by kernel_rfl) (by kernel_rfl) (fun _ _ _ h => h) (Or.inl ⟨by rfl, fun w hSw => by rfl⟩) hHeld ?_
      refine wpAnyH_take (i := 5) (v := .int .i64 (k : Int)) rfl (by kernel_rfl) (by kernel_rfl) (by kernel_rfl) (fun _ _ _ h => h) (Or.inl ⟨by rfl, fun w hSw => by rfl⟩) hHeld ?_
      refine norm_any' (fun K hK => ?_)
      go_simp
      refine hK _ _ ?_
      clear hK K
      refine wpAnyH_take (i := 6) (v := .pointer (some ⟨q3, k, none⟩)) rfl (by kernel_rfl) (by kernel_rfl) (by kernel_rfl) (fun _ _ _ h => h) (Or.inl ⟨by rfl, by intro w hSw; clear hSw; go_simp⟩) hHeld ?_
      refine norm_any' (fun K hK => ?_)
      go_simp
      refine hK _ _ ?_
      clear hK K
      refine wpAnyH_take (i := 7) (v := .slice (some ⟨b, off + o', none⟩) n (cap - o')) rfl (by kernel_rfl) (by kernel_rfl) (by kernel_rfl) (fun _ _ _ h => h) (Or.inl ⟨by rfl, by intro w hSw; obtain ⟨t1, t2, t3, t4, t5⟩ := hSw; go_simp⟩) hHeld ?_
      refine norm_any' (fun K hK => ?_)
      go_simp
      refine hK _ _ ?_
      clear hK K
      refine wpAnyH_ready (rs := [8]) (by kernel_rfl) (by simp) (AllReadyH.cons rfl (fun K hK => ?_) AllReadyH.nil)
      go_simp
      refine HSP.out.mono ?_
      rintro e w6 ⟨rfl, hsp⟩
      obtain ⟨HS6, HL6⟩ := HAFT.out w6 hsp
      clear hsp
      refine hK.out _ _ HS6.out (fun hHeld => ?_)
      clear hK K
      refine norm_any' (fun K hK => ?_)
      go_simp
      refine hK _ _ ?_
      clear hK K
      refine wpAnyH_take (i := 9) (v := .bool false) rfl (by kernel_rfl) (by kernel_rfl) (by kernel_rfl) (fun _ _ _ h => h) (Or.inl ⟨by rfl, fun w hSw => by rfl⟩) hHeld ?_
      refine norm_any' (fun K hK => ?_)
      go_simp
      refine hK _ _ ?_
      clear hK K
      refine wpAnyH_take (i := 10) (v := .bool false) rfl (by kernel_rfl) (by kernel_rfl) (by kernel_rfl) (fun _ _ _ h => h) (Or.inl ⟨by rfl, fun w hSw => by rfl⟩) hHeld ?_
      refine norm_any' (fun K hK => ?_)
      go_simp
      refine hK _ _ ?_
      clear hK K
      refine wpAnyH_take (i := 11) (v := .slice (some ⟨q2, 0, none⟩) ps3.length c2) rfl (by kernel_rfl) (by kernel_rfl) (by kernel_rfl) (fun _ _ _ h => h) (Or.inl ⟨by rfl, fun w hSw => by rfl⟩) hHeld ?_
      refine wpAnyH_take (i := 12) (v := .int .i64 (k : Int)) rfl (by kernel_rfl) (by kernel_rfl) (by kernel_rfl) (fun _ _ _ h => h) (Or.inl ⟨by rfl, fun w hSw => by rfl⟩) hHeld ?_
      refine norm_any' (fun K hK => ?_)
      go_simp
      refine hK _ _ ?_
      clear hK K
      refine wpAnyH_take (i := 13) (v := .pointer (some ⟨q2, k, none⟩)) rfl (by kernel_rfl) (by kernel_rfl) (by kernel_rfl) (fun _ _ _ h => h) (Or.inl ⟨by rfl, by intro w hSw; clear hSw; go_simp⟩) hHeld ?_
      refine norm_any' (fun K hK => ?_)
      go_simp
      refine hK _ _ ?_
      clear hK K
      refine wpAnyH_take (i := 14) (v := .slice (some ⟨g2, o', none⟩) n n) rfl (by kernel_rfl) (by kernel_rfl) (by kernel_rfl) (fun _ _ _ h => h) (Or.inl ⟨by rfl, by intro w hSw; obtain ⟨t1, t2, t3, t4, t5⟩ := hSw; go_simp⟩) hHeld ?_
      refine norm_any' (fun K hK => ?_)
      go_simp
      refine hK _ _ ?_
      clear hK K
      refine wpAnyH_take (i := 15) (v := .string ⟨X.toArray⟩) rfl (by kernel_rfl) (by kernel_rfl) (by kernel_rfl) (fun _ _ _ h => h) (Or.inl ⟨by rfl, by intro w hSw; have cz := str_any (cap := n) (m := n) hSw.2.2.2.1 hsub (fun h => by cases h); clear hSw; go_simp⟩) hHeld ?_
      refine wpAnyH_take (i := 16) (v := .slice (some ⟨q3, 0, none⟩) ps3.length c3) rfl (by kernel_rfl) (by kernel_rfl) (by kernel_rfl) (fun _ _ _ h => h) (Or.inl ⟨by rfl, fun w hSw => by rfl⟩) hHeld ?_
      refine wpAnyH_take (i := 17) (v := .int .i64 (k : Int)) rfl (by kernel_rfl) (by kernel_rfl) (by kernel_rfl) (fun _ _ _ h => h) (Or.inl ⟨by rfl, fun w hSw => by rfl⟩) hHeld ?_
      refine norm_any' (fun K hK => ?_)
      go_simp
      refine hK _ _ ?_
      clear hK K
      refine wpAnyH_take (i := 18) (v := .pointer (some ⟨q3, k, none⟩)) rfl (by kernel_rfl) (by kernel_rfl) (by kernel_rfl) (fun _ _ _ h => h) (Or.inl ⟨by rfl, by intro w hSw; clear hSw; go_simp⟩) hHeld ?_
      refine norm_any' (fun K hK => ?_)
      go_simp
      refine hK _ _ ?_
      clear hK K
      refine wpAnyH_take (i := 19) (v := .slice (some ⟨b, off + o', none⟩) n (cap - o')) rfl (by kernel_rfl) (by kernel_rfl) (by kernel_rfl) (fun _ _ _ h => h) (Or.inl ⟨by rfl, by intro w hSw; obtain ⟨t1, t2, t3, t4, t5⟩ := hSw; go_simp⟩) hHeld ?_
      refine norm_any' (fun K hK => ?_)
      go_simp
      refine hK _ _ ?_
      clear hK K
      refine wpAnyH_take (i := 20) (v := .string ⟨X.toArray⟩) rfl (by kernel_rfl) (by kernel_rfl) (by kernel_rfl) (fun _ _ _ h => h) (Or.inl ⟨by rfl, by intro w hSw; have cz := str_any (cap := cap - o') (m := n) hSw.2.2.2.2 hsub (fun h => by cases h); clear hSw; go_simp⟩) hHeld ?_
      refine norm_any' (fun K hK => ?_)
      go_simp
      refine hK _ _ ?_
      clear hK K
      refine wpAnyH_take (i := 21) (v := .bool false) rfl (by kernel_rfl) (by kernel_rfl) (by kernel_rfl) (fun _ _ _ h => h) (Or.inl ⟨by rfl, by intro w hSw; clear hSw; go_simp⟩) hHeld ?_
      refine norm_any' (fun K hK => ?_)
      go_simp
      refine hK _ _ ?_
      clear hK K
      refine wpAnyH_take (i := 22) (v := .bool false) rfl (by kernel_rfl) (by kernel_rfl) (by kernel_rfl) (fun _ _ _ h => h) (Or.inl ⟨by rfl, fun w hSw => by rfl⟩) hHeld ?_
      refine norm_any' (fun K hK => ?_)
      go_simp
      refine hK _ _ ?_
      clear hK K
      refine wpAnyH_done (by kernel_rfl) ?_ _
      go_wp2
      go_roundg (ps3.length + 1 - (k + 1))
      case measure => omega
      case rel => exact ⟨k + 1, o' + n, by omega, rfl, by go_num, HCH', HL6⟩
    · obtain rfl : k = ps3.length := by omega
      have cx := str_any (w := wr) (ao := some ⟨g, 0, none⟩) (l := l ++ [90]) (cap := cp) (m := l.length + 1) (by
        by_cases hp : 0 < l.length
        · exact HR.out.only.sl HA5.out (by have := (HF.out hp).1; omega)
        · rw [HR.out.same (by omega)]; exact HA5.out) (by simp) (fun h => by cases h)
      have cy := str_any (w := wr) (ao := ao) (l := l) (cap := cap) (by
        by_cases hp : 0 < l.length
        · obtain ⟨h1, h2⟩ := HAO.out hp
          have := HS5.out
          rw [h1] at this ⊢
          exact HR.out.only.sl this (by have := (HF.out hp).1; omega)
        · rw [HR.out.same (by omega)]; exact HS5.out) rfl HN.out
      have hbb : l.length + 1 ≤ 9223372036854775807 := by omega
      have hadd : ((⟨l.toArray⟩ : ByteArray) ++ ⟨#[90]⟩) = ⟨(l ++ [90]).toArray⟩ := ByteArray.mk_append_mk l [90]
      have HFIN : Hid (Below w.heap.size w wr) := by
        by_cases hp : 0 < l.length
        · have h1 := (HF.out hp).1
          exact ⟨HR.out.only.os.trans HBW5.out.os, HR.out.only.tape.trans HBW5.out.tape, HR.out.only.output.trans HBW5.out.output, by rw [HR.out.only.size]; exact HBW5.out.size, fun j hj => (HR.out.only.block j (by omega)).trans (HBW5.out.block j hj)⟩
        · rw [HR.out.same (by omega)]; exact HBW5.out
      go_wp2
      go_ret
      exact ⟨by simp, HFIN.out⟩
end Go.Proofs.YtlllejgpmdeeiaaDoor
