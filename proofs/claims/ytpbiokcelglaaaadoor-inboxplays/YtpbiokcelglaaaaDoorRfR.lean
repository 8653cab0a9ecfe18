/- The reference's inbox: Read. -/
import Derived.Test.YtpbiokcelglaaaaDoorRfB
import Derived.Test.YtpbiokcelglaaaaDoorTake
import Derived.Deep.CutRange
namespace Go.Proofs.YtpbiokcelglaaaaDoor
open Go.RowKit Go.Maps
set_option linter.unusedVariables false

/-- The loop of the reference's Read. -/
structure RrI (w : World) (r : Nat) (rm lm rc fi : Int) (p : Nat) (kn : Bool) (L : List (Nat × UInt8)) (l : List UInt8) (i : Nat) (ao : Option Addr) (c : Nat) (wr : World) : Prop where
  rf : ∃ ca cc, Rf wr r rm ((p + i : Nat) : Int) lm rc fi kn ca cc (L.drop i)
  own : wr.ownsRow w.heap.size 5 1 (.slice ao i c) i (bs (l.take i))
  ch : Chg (fun k => k = r) w wr
/-- Came[1:], and the place behind it. -/
theorem RrI.step {w : World} {r : Nat} {rm lm rc fi : Int} {p : Nat} {kn : Bool} {L : List (Nat × UInt8)} {l : List UInt8} {i : Nat} {ca : Option Addr} {cc : Nat} {W3 : World} {ao : Option Addr} {c : Nat} (hi : i < L.length)
    (hr : Rf W3 r rm ((p + i : Nat) : Int) lm rc fi kn ca cc (L.drop i)) (hown : W3.ownsRow w.heap.size 5 1 (.slice ao (i + 1) c) (i + 1) (bs (l.take (i + 1)))) (hch : Chg (fun k => k = r) w W3) (hrw : r < w.heap.size) :
    RrI w r rm lm rc fi p kn L l (i + 1) ao c ((W3.setCell ⟨r, 6, none⟩ (.slice (if cc = 1 then ca else ca.map (·.add 2)) ((L.drop i).length - 1) (cc - 1))).setCell ⟨r, 1, none⟩ (.int .i64 ((p + (i + 1) : Nat) : Int))) := by
  have hcm := hr.2
  have e : L.drop i = [L[i]] ++ L.drop (i + 1) := by rw [List.singleton_append, List.drop_eq_getElem_cons hi]
  rw [e] at hcm
  have hd := hcm.drop
  simp only [List.length_singleton, Nat.one_mul] at hd
  have hl : (L.drop i).length - 1 = (L.drop (i + 1)).length := by simp; omega
  rw [hl]
  have hne : ∀ g cur, W3.heap[g]? = some (.cells cur 62 (0, 0)) → ¬ g = r := by
    rintro g cur hg rfl
    rw [hr.1] at hg
    simp at hg
  have hch1 : Chg (fun k => k = r) W3 (W3.setCell ⟨r, 6, none⟩ (.slice (if cc = 1 then ca else ca.map (·.add 2)) (L.drop (i + 1)).length (cc - 1))) := by
    rw [setCell_eq_setRow W3 r 6 _ 45 (0, 0) _ hr.1]
    exact ⟨rfl, rfl, rfl, by simp, fun k hk hx => setRow_other _ r k _ hx⟩
  have hr1 : Rf (W3.setCell ⟨r, 6, none⟩ (.slice (if cc = 1 then ca else ca.map (·.add 2)) (L.drop (i + 1)).length (cc - 1))) r rm ((p + i : Nat) : Int) lm rc fi kn (if cc = 1 then ca else ca.map (·.add 2)) (cc - 1) (L.drop (i + 1)) := by
    refine ⟨?_, hd.kept hch1 hne⟩
    rw [setCell_eq_setRow W3 r 6 _ 45 (0, 0) _ hr.1, setRow_heap _ r _ _ 45 (0, 0) hr.1]
    rfl
  have hr2 := Rf.set hr1 1 (.int .i64 ((p + (i + 1) : Nat) : Int)) rm ((p + (i + 1) : Nat) : Int) lm rc fi kn rfl
  refine ⟨⟨_, _, hr2.1⟩, ?_, Chg.trans hch (Chg.trans hch1 hr2.2)⟩
  have hcc := Chg.trans hch1 hr2.2
  obtain ⟨h1, h2⟩ := hown
  refine ⟨h1, ?_⟩
  rcases h2 with h0 | ⟨g, cap, cur, hv, hb, hg, h3⟩
  · exact .inl h0
  · exact .inr ⟨g, cap, cur, hv, hb, (hcc.2.2.2.2 g (Array.getElem?_eq_some_iff.1 hg).1 (by omega)).trans hg, h3⟩

set_option maxRecDepth 100000 in
set_option maxHeartbeats 1000000 in
theorem rread_c {w : World} {r : Nat} {rm lm rc fi : Int} {p : Nat} {kn : Bool} {ca : Option Addr} {cc : Nat} {L : List (Nat × UInt8)} (h : Rf w r rm (p : Int) lm rc fi kn ca cc L) (x mx : Int) (n0 m : Nat) (l : List UInt8) (hp : p + n0 ≤ 4000000000000000000) (hcc : L.length ≤ 100000000) (hn : n0 ≤ L.length) (h1 : ∀ i (hi : i < L.length), i < n0 → (L[i].1 : Int) = p + i) (h2 : ∀ hi : n0 < L.length, (L[n0].1 : Int) ≠ p + n0)
    (hm : (m : Int) = min (max x 0) (n0 : Int)) (hl : l.length = m) (hlv : ∀ i (hi : i < l.length) (hi' : i < L.length), L[i].2 = l[i]) (hrm : 0 ≤ rm ∧ rm ≤ 1048576) (hmx : (if lm < ((p + m : Nat) : Int) + rm then ((p + m : Nat) : Int) + rm else lm) = mx) :
    Calls Tryd.prog 13 #[.pointer (some ⟨r, 0, none⟩), .int .i64 x] w fun e w' => ∃ ao c, e = .returned (.tuple #[.slice ao m c, .bool (kn && decide (((p + m : Nat) : Int) = fi))]) ∧ w'.ownsRow w.heap.size 5 1 (.slice ao m c) m (bs l) ∧ (∃ ca' cc', Rf w' r rm ((p + m : Nat) : Int) mx rc fi kn ca' cc' (L.drop m)) ∧ Chg (fun k => k = r) w w' := by
  have RC : Aside _ := rready_c h n0 ⟨by omega, by omega⟩ (by omega) hn h1 h2
  have H : Aside (Rf w r rm p lm rc fi kn ca cc L) := h
  have HL : Aside (l.length = m) := hl
  have HLV : Aside (∀ i (hi : i < l.length) (hi' : i < L.length), L[i].2 = l[i]) := hlv
  have HMX : Aside _ := hmx
  have hmn : m ≤ n0 := by omega
  have hrl := h.lt
  obtain ⟨kv, hkv⟩ : ∃ kv : Int, (if x < (n0 : Int) then x else (n0 : Int)) = kv := ⟨_, rfl⟩
  have hkm : ∀ i : Nat, i ≤ m → ((i : Int) < kv ↔ i < m) := by intro i hi; rw [← hkv]; split <;> omega
  have HKM : Aside _ := hkm
  clear h h1 h2 hl hlv hmx hm hkm
  go_enter Tryd.func13, Tryd.ntmps13
  go_wp2_with fail
  refine Calls.mono RC.out ?_
  rintro e W1 ⟨rfl, nq1, hW1⟩
  have HR1 : Aside (Rf W1 r rm p lm rc fi kn ca cc L) := by show Rf W1 r rm p lm rc fi kn ca cc L; rw [hW1]; exact H.out
  have HC1 : Aside (Chg (fun k => k = r) w W1) := by show Chg (fun k => k = r) w W1; rw [hW1]; exact chg_drew _ _ _
  have hsz : W1.heap.size = w.heap.size := by rw [hW1]; rfl
  have HSZ : Aside _ := hsz
  clear hW1 hsz RC
  go_upto_if 13 with fail
  go_cut [6] from 9 to 14 (fun s6 wx => s6 = .int .i64 kv ∧ wx = W1)
  case first =>
    by_cases hx : x < (n0 : Int)
    · rw [if_pos hx] at hkv
      subst hkv
      go_wp2_with fail
      go_meet
      exact ⟨rfl, rfl⟩
    · rw [if_neg hx] at hkv
      subst hkv
      go_wp2_with fail
      go_meet
      exact ⟨rfl, rfl⟩
  case rest =>
  obtain ⟨rfl, rfl⟩ := hcut
  have HI0 : Aside (RrI w r rm lm rc fi p kn L l 0 none 0 wc) := ⟨⟨ca, cc, by simpa using HR1.out⟩, by simpa [bs] using World.ownsRow_nil wc w.heap.size 5 1, HC1.out⟩
  have HSW : Aside (w.heap.size ≤ wc.heap.size) := by have := HSZ.out; show _ ≤ _; omega
  clear HR1 HC1 hkv HSZ
  go_wp2_with fail
  go_loopg [7, 8] (m + 1) (fun kx s7 s8 wr => ∃ (i : Nat) (ao : Option Addr) (c : Nat), s7 = .slice ao i c ∧ s8 = .int .i64 i ∧ i ≤ m ∧ m - i + 1 ≤ kx ∧ Aside (RrI w r rm lm rc fi p kn L l i ao c wr))
  case atStart => exact ⟨0, none, 0, rfl, rfl, Nat.zero_le _, by omega, HI0.out⟩
  case round =>
    obtain ⟨i, ao, c, rfl, rfl, hi, hkx, HI⟩ := hrel
    by_cases hlt : i < m
    · have j1 : (i : Int) < kv := (HKM.out i hi).2 hlt
      have hiL : i < L.length := by omega
      have hil : i < l.length := by have := HL.out; omega
      obtain ⟨⟨ca1, cc1, hr⟩, hown, hch⟩ := HI.out
      have hd0 : 0 < (L.drop i).length := by simp; omega
      obtain ⟨g, off, hca, q1, q2⟩ := hr.2.cells hd0
      have hv : (L.drop i)[0] = L[i] := by simp
      rw [hv, HLV.out i hil hiL] at q2
      simp only [Nat.zero_mul, Nat.add_zero] at q2
      have c6 := hr.c6
      obtain ⟨LL, hLL⟩ : ∃ LL, (L.drop i).length = LL := ⟨_, rfl⟩
      have hcc1 : LL ≤ cc1 := by rw [← hLL]; exact hr.2.1
      have HRr : Aside (Rf wr r rm ((p + i : Nat) : Int) lm rc fi kn ca1 cc1 (L.drop i)) := hr
      rw [hLL] at c6 hd0
      have HLL : Aside ((L.drop i).length = LL) := hLL
      have HCA : Aside (ca1 = some ⟨g, off, none⟩) := hca
      rw [hca] at c6
      have HOW : Aside (wr.ownsRow w.heap.size 5 1 (.slice ao i c) i (bs (l.take i))) := hown
      have HCH : Aside (Chg (fun k => k = r) w wr) := hch
      have hws : w.heap.size ≤ wr.heap.size := hch.2.2.2.1
      obtain ⟨i5, hi5, hz5, hs5, hb5⟩ := info_parts info5
      obtain ⟨W2, hW2⟩ : ∃ W2, wr.alloc (.cells #[.int .u8 (l[i].toNat : Int)] 5) = W2 := ⟨_, rfl⟩
      have hbw : Below wr.heap.size wr W2 := by rw [← hW2]; exact (Below.refl _ _).alloc (Nat.le_refl _) _
      have HO2 : Aside (W2.ownsRow w.heap.size 5 1 (.slice ao i c) i (bs (l.take i))) := own_bel hown hbw
      have hs2 : w.heap.size ≤ W2.heap.size := Nat.le_trans hws hbw.size
      have HB2 : Aside (Below wr.heap.size wr W2) := hbw
      have hnew : ∀ j u, (bs [l[i]])[j]? = some u → W2.cell? ((⟨wr.heap.size, 0, none⟩ : Addr).add j) = some u := by
        intro j u hj
        obtain ⟨hj', rfl⟩ := bs_get hj
        obtain rfl : j = 0 := by simpa using hj'
        have hg2 : W2.heap[wr.heap.size]? = some (.cells #[.int .u8 (l[i].toNat : Int)] 5 (0, 0)) := by rw [← hW2]; exact heap_alloc_new wr _
        simp [World.cell?, hg2, Addr.add]
      have HNW : Aside _ := hnew
      have d0 : (0 : Int) < (LL : Int) := by omega
      have hiA : i + 1 ≤ 1000000000 := by omega
      have HTK : Aside (bs (l.take i) ++ bs [l[i]] = bs (l.take (i + 1))) := by show _ = _; rw [← bs_append, ← List.take_succ_eq_append_getElem hil]
      generalize hxv : (l[i].toNat : Int) = xv at q2 hW2
      clear hr hown hch hca q1 hbw hnew hxv hv HI
      go_wp2_with (first | (at_builtin; refine wpList_append_own _ rfl (.tmp 20) (.tmp 28) 31 rfl w.heap.size 5 i5 (.int .u8 0) 1 1 Tryd.underlying31 hi5 hz5 hs5 hb5 rfl (by decide) (.slice ao i c) i (bs (l.take i)) rfl HO2.out ⟨wr.heap.size, 0, none⟩ 1 1 (bs [l[i]]) rfl rfl HNW.out (bs_one _) (by unfold maxLen; omega) (by omega) hs2 ?_; intro v3 W3 hown3 hgr3 _; refine Hid.out ?_) | fail)
      rw [HTK.out] at hown3
      obtain ⟨ao3, c3, hv3⟩ := own_slice hown3
      rw [hv3]
      rw [hv3] at hown3
      have hch3 : Chg (fun j => some j = (Value.slice ao i c).ownBlock) W2 W3 := ⟨hgr3.os, hgr3.tape, hgr3.output, hgr3.size, fun j hj hx => hgr3.block j hj hx⟩
      have hblk : ∀ j, some j = (Value.slice ao i c).ownBlock → w.heap.size ≤ j ∧ ∃ cur, W2.heap[j]? = some (.cells cur 5 (0, 0)) := by
        intro j hj
        rcases (HO2.out).2 with ⟨h0, _⟩ | ⟨g', cap', cur, hv', hb', hg', _⟩
        · rw [h0] at hj; cases hj
        · rw [hv'] at hj
          simp only [Value.ownBlock, Option.some.injEq] at hj
          subst hj
          exact ⟨hb', cur, hg'⟩
      have hr2 : Rf W2 r rm ((p + i : Nat) : Int) lm rc fi kn ca1 cc1 (L.drop i) := Rf.below HRr.out HB2.out
      have hr3 : Rf W3 r rm ((p + i : Nat) : Int) lm rc fi kn ca1 cc1 (L.drop i) := hr2.kept hch3 (fun e => by have := (hblk r e).1; omega) (fun g' cur' hg' e => by
        obtain ⟨cur2, h5⟩ := (hblk g' e).2
        rw [hg'] at h5
        simp at h5)
      have hcw : Chg (fun k => k = r) w W3 := by
        refine Chg.andThen (X := fun j => some j = (Value.slice ao i c).ownBlock) (Chg.andThen (X := fun _ => False) HCH.out ⟨HB2.out.os, HB2.out.tape, HB2.out.output, HB2.out.size, fun j hj _ => HB2.out.block j hj⟩ (fun j _ e => e.elim)) hch3 (fun j hj e => ?_)
        have := (hblk j e).1
        omega
      have HST : Aside _ := RrI.step hiL hr3 hown3 hcw hrl
      have g6 := hr3.c6
      rw [HLL.out] at g6
      have f6 := hr3.fz 6
      have g1 := hr3.c1
      have f1 := hr3.fz 1
      rw [HLL.out] at HST
      obtain ⟨la', hla⟩ : ∃ la', (if cc1 = 1 then ca1 else ca1.map (fun x => (⟨x.block, x.off + 2, none⟩ : Addr))) = la' := ⟨_, rfl⟩
      have hla0 : (if cc1 = 1 then ca1 else ca1.map (·.add 2)) = la' := by rw [← hla]; rfl
      rw [hla0] at HST
      clear hla0
      have k1 : (1 : Int) ≤ (LL : Int) := by omega
      have k2 : (LL : Int) ≤ (cc1 : Int) := by omega
      have k3 : IntKind.i64.wrap (((p + i : Nat) : Int) + 1) = ((p + (i + 1) : Nat) : Int) := by rw [IntKind.wrap_i64]; omega
      generalize ((p + (i + 1) : Nat) : Int) = pi1 at k3 HST
      generalize ((p + i : Nat) : Int) = pi0 at k3 g1
      clear hown3 hgr3 hch3 hblk hr2 hr3 hcw hv3 HRr HTK c6 q2
      refine mkHid' ?_
      go_wp2_with fail
      go_roundg (m - (i + 1) + 1)
      case measure => omega
      case rel => exact ⟨i + 1, ao3, c3, rfl, by simp, by omega, Nat.le_refl _, HST.out⟩
    · obtain rfl : i = m := by omega
      have j1 : ¬ (i : Int) < kv := fun e => hlt ((HKM.out i hi).1 e)
      obtain ⟨⟨ca1, cc1, hr⟩, hown, hch⟩ := HI.out
      have etk : l.take i = l := by rw [← HL.out]; exact List.take_length
      rw [etk] at hown
      have RC : Aside _ := rraise_c hr mx (by rw [IntKind.wrap_i64]; omega) HMX.out
      have HOW : Aside (wr.ownsRow w.heap.size 5 1 (.slice ao i c) i (bs l)) := hown
      have HCH : Aside (Chg (fun k => k = r) w wr) := hch
      clear hr hown hch etk HI
      go_wp2_with fail
      refine Calls.mono RC.out ?_
      rintro e W3 ⟨rfl, hr3, hch3⟩
      have HR3 : Aside (Rf W3 r rm ((p + i : Nat) : Int) mx rc fi kn ca1 cc1 (L.drop i)) := hr3
      have HC3 : Aside (Chg (fun k => k = r) w W3) := Chg.trans HCH.out hch3
      have HO3 : Aside (W3.ownsRow w.heap.size 5 1 (.slice ao i c) i (bs l)) := by
        obtain ⟨h1, h2⟩ := HOW.out
        refine ⟨h1, ?_⟩
        rcases h2 with h0 | ⟨g, cap, cur, hv, hb, hg, h3⟩
        · exact .inl h0
        · exact .inr ⟨g, cap, cur, hv, hb, (hch3.2.2.2.2 g (Array.getElem?_eq_some_iff.1 hg).1 (by omega)).trans hg, h3⟩
      have d1 := hr3.c1
      have d4 := hr3.c4
      have d5 := hr3.c5
      clear hr3 hch3 RC
      generalize hpm : p + i = pm at *
      have HPM : Aside (p + i = pm) := hpm
      clear hpm
      cases kn with
      | false =>
        go_wp2_with fail
        go_quiet (fail)
        go_wp2
        go_ret2
        obtain rfl : p + i = pm := HPM.out
        exact ⟨ao, c, rfl, HO3.out, ⟨ca1, cc1, HR3.out⟩, HC3.out⟩
      | true =>
        by_cases hpr : (pm : Int) = fi
        · have k1 : ((pm : Int) == fi) = true := by simp [hpr]
          have HPR : Aside ((pm : Int) = fi) := hpr
          clear hpr
          go_wp2_with fail
          go_quiet (fail)
          go_wp2
          go_ret2
          obtain rfl : p + i = pm := HPM.out
          have hdc : decide (((p + i : Nat) : Int) = fi) = true := decide_eq_true HPR.out
          exact ⟨ao, c, by rw [hdc]; rfl, HO3.out, ⟨ca1, cc1, HR3.out⟩, HC3.out⟩
        · have k1 : ((pm : Int) == fi) = false := by simp [hpr]
          have HPR : Aside (¬ (pm : Int) = fi) := hpr
          clear hpr
          go_wp2_with fail
          go_quiet (fail)
          go_wp2
          go_ret2
          obtain rfl : p + i = pm := HPM.out
          have hdc : decide (((p + i : Nat) : Int) = fi) = false := decide_eq_false HPR.out
          exact ⟨ao, c, by rw [hdc]; rfl, HO3.out, ⟨ca1, cc1, HR3.out⟩, HC3.out⟩
end Go.Proofs.YtpbiokcelglaaaaDoor
