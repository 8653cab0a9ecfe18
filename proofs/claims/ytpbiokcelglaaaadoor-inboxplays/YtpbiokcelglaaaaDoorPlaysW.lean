/- inbox: InboxPlays, the walk. -/
import Derived.Test.YtpbiokcelglaaaaDoorPlaysL
import Derived.Deep.CutRange
import Derived.Deep.CutBlock
namespace Go.Proofs.YtpbiokcelglaaaaDoor
open Go.RowKit Go.Maps
set_option linter.unusedVariables false

theorem names_c (w : World) : Calls Tryd.prog 9 #[] w fun e w' => e = .returned (.bool true) ∧ w' = w := by
  go_enter Tryd.func9, Tryd.ntmps9
  go_wp2
  go_ret
  exact ⟨rfl, rfl⟩
theorem neq_ptr (a : Addr) (w : World) : (binOp .neq 27 (.pointer (some a)) (.pointer none)).run Tryd.prog w = .ok (.bool true) w := by kernel_rfl

set_option maxRecDepth 100000 in
set_option maxHeartbeats 1000000 in
theorem plays_no (rm : Int) (la : Option Addr) (N cap : Nat) (W : World) (h : rm < 0 ∨ 1048576 < rm) :
    Calls Tryd.prog 3 #[.int .i64 rm, .slice la N cap] W fun e w' => e = .returned (.bool true) ∧ Below W.heap.size W w' := by
  have H : Aside _ := h
  clear h
  go_enter Tryd.func3, Tryd.ntmps3
  go_wp2_with fail
  refine (new_no rm _ H.out).mono ?_
  rintro e w1 ⟨rfl, rfl⟩
  go_wp2_with fail
  refine (rnew_no rm _ H.out).mono ?_
  rintro e w2 ⟨rfl, rfl⟩
  go_wp2_with fail
  refine (names_c _).mono ?_
  rintro e w3 ⟨rfl, rfl⟩
  go_wp2_with fail
  refine wp_loop_rounds 1 ?_
  rw [rounds_succ]
  by_cases h0 : 0 < N
  · have i1 : (0 : Int) < (N : Int) := by omega
    go_wp2
    go_ret
    exact ⟨rfl, Below.refl _ _⟩
  · obtain rfl : N = 0 := by omega
    go_wp2
    go_ret
    exact ⟨rfl, Below.refl _ _⟩

set_option maxRecDepth 100000 in
set_option maxHeartbeats 4000000 in
theorem plays_walk (rm : Nat) (la : Option Addr) (N cap : Nat) (L : List ActR) (W : World) (hT : Tb W) (hA : Ac W la L) (hN : L.length = N) (hNb : N ≤ 2600000000000) (hrm : rm ≤ 1048576) :
    Calls Tryd.prog 3 #[.int .i64 rm, .slice la N cap] W fun e w' => e = .returned (.bool true) ∧ Below W.heap.size W w' := by
  have HT : Aside _ := hT
  have HA : Aside _ := hA
  have HN : Aside (L.length = N) := hN
  have NC : Aside _ := new_c (rm : Int) W (by omega) (by omega)
  clear hT hA hN
  go_enter Tryd.func3, Tryd.ntmps3
  go_wp2_with fail
  refine Calls.mono NC.out ?_
  rintro e W1 ⟨rfl, hib, hch⟩
  have HIB : Aside _ := hib
  have HCH : Aside (Chg (fun _ => False) W W1) := hch
  clear hib hch NC
  go_wp2_with fail
  refine (rnew_c (rm : Int) W1 (by omega) (by omega)).mono ?_
  rintro e W2 ⟨rfl, hrf, hch2⟩
  have HL0 : Aside (Lp W (W.heap.size + 1) W.heap.size W1.heap.size 0 0 0 0 rm 0 rm (fun _ => none) false 0 W2) := by
    have hbel : Below W.heap.size W W1 := ⟨HCH.out.1, HCH.out.2.1, HCH.out.2.2.1, HCH.out.2.2.2.1, fun j hj => HCH.out.2.2.2.2 j hj (fun h => h)⟩
    have e : came (fun _ => none) 0 (rm - 0) = [] := came_nil 0 _ (fun _ _ _ => rfl)
    refine ⟨?_, ⟨none, 0, ?_⟩, ⟨⟨Nat.le_refl _, fun j h1 h2 => absurd h1 (by omega), rfl⟩, fun _ _ => rfl, by omega, by omega, by omega, (fun h => by cases h), hrm⟩, hbel.trans ⟨hch2.1, hch2.2.1, hch2.2.2.1, hch2.2.2.2.1, fun j hj => hch2.2.2.2.2 j (Nat.lt_of_lt_of_le hj hbel.size) (fun h => h)⟩, by omega, Nat.le_refl _, hbel.size, by omega, by omega⟩
    · unfold IbP cnt
      rw [e]
      exact Ib.kept HIB.out hch2 (fun h => h) (fun h => h)
    · rw [e]
      exact hrf
  have hWr : W.heap.size ≤ W1.heap.size := HCH.out.2.2.2.1
  clear hrf hch2 HIB HCH
  generalize W.heap.size + 1 = b at *
  generalize hmb : W.heap.size = mb at *
  generalize W1.heap.size = r at *
  have HMB : Aside (W.heap.size = mb) := hmb
  clear hmb
  go_wp2_with fail
  refine (names_c _).mono ?_
  rintro e w3 ⟨rfl, hw3⟩
  subst hw3
  go_wp2_with fail
  go_loopg [9] (N + 1) (fun kx s9 wr => ∃ (i nn p R lm rc rm' : Nat) (V : Nat → Option UInt8) (kn : Bool) (fi : Int), s9 = .int .i64 i ∧ i ≤ N ∧ N + 1 - i ≤ kx ∧ Aside (Lp W b mb r i nn p R lm rc rm' V kn fi wr))
  case atStart => exact ⟨0, 0, 0, 0, rm, 0, rm, _, false, 0, rfl, Nat.zero_le _, by omega, HL0.out⟩
  case round =>
    obtain ⟨i, nn, p, R, lm, rc, rm', V, kn, fi, rfl, hi, hkx, HL⟩ := hrel
    by_cases hlt : i < N
    · have j1 : (i : Int) < (N : Int) := by omega
      have hix : i < L.length := by have := HN.out; omega
      obtain ⟨ab, off, rfl, q0, q1, q2, q3, q4, hsl, hlen, hnil, hob, hnb⟩ := HA.out i hix
      have hbl : Below W.heap.size W wr := (HL.out).bel
      rw [← hbl.cell (p := ⟨ab, off + i * 5, none⟩) (World.block_lt_of_cell? _ _ q0)] at q0
      rw [← hbl.cell (p := ⟨ab, off + i * 5 + 1, none⟩) (World.block_lt_of_cell? _ _ q1)] at q1
      rw [← hbl.cell (p := ⟨ab, off + i * 5 + 2, none⟩) (World.block_lt_of_cell? _ _ q2)] at q2
      rw [← hbl.cell (p := ⟨ab, off + i * 5 + 3, none⟩) (World.block_lt_of_cell? _ _ q3)] at q3
      rw [← hbl.cell (p := ⟨ab, off + i * 5 + 4, none⟩) (World.block_lt_of_cell? _ _ q4)] at q4
      have HSL : Aside (Sl W L[i].la L[i].l) := hsl
      have HNIL : Aside (L[i].la = none → L[i].l.length = 0 ∧ L[i].cap = 0) := hnil
      obtain ⟨LN, hLN⟩ : ∃ LN, L[i].l.length = LN := ⟨_, rfl⟩
      rw [hLN] at q2 hlen HNIL
      have HLN : Aside (L[i].l.length = LN) := hLN
      generalize L[i].k = kk at q0
      generalize L[i].o = oo at q1 hob
      generalize L[i].la = dla at q2 HSL HNIL
      generalize L[i].l = dl at HSL HLN
      generalize L[i].cap = dcap at q2 HNIL
      generalize L[i].f = ff at q3
      generalize L[i].n = xx at q4 hnb
      clear hsl hnil hLN hbl
      obtain ⟨W3, hW3⟩ : ∃ W3, wr.alloc (.cells #[.int .i64 kk, .int .i64 oo, .slice dla LN dcap, .bool ff, .int .i64 xx] 33) = W3 := ⟨_, rfl⟩
      have hbx : W3.heap[wr.heap.size]? = some (.cells #[.int .i64 kk, .int .i64 oo, .slice dla LN dcap, .bool ff, .int .i64 xx] 33 (0, 0)) := by rw [← hW3]; exact heap_alloc_new wr _
      have HL3 : Aside (Lp W b mb r i nn p R lm rc rm' V kn fi W3) := by show Lp W b mb r i nn p R lm rc rm' V kn fi W3; rw [← hW3]; exact (HL.out).alloc _
      have HBX : Aside _ := hbx
      have hpB : p ≤ 3000000000000000000 := by have := (HL3.out).hpi; omega
      have hnnB : nn ≤ 900000000000000000 := by have := (HL3.out).hnn; omega
      clear HL hbx
      have b0 : W3.cell? ⟨wr.heap.size, 0, none⟩ = some (.int .i64 kk) := by simp [World.cell?, HBX.out]
      go_upto_block 2 with fail
      clear hW3 q0 q1 q2 q3 q4
      generalize hBx : wr.heap.size = Bx at *
      clear hBx
      have hBW : Bx < W3.heap.size := (Array.getElem?_eq_some_iff.1 HBX.out).1
      have hTW3 : Tb W3 := Tb.below HT.out (HL3.out).bel
      have HTW3 : Aside (Tb W3) := hTW3
      clear hTW3
      go_cut [] from 53 to 239 (fun wx => ∃ (nn p R lm rc rm' : Nat) (V : Nat → Option UInt8) (kn : Bool) (fi : Int), Aside (Lp W b mb r (i + 1) nn p R lm rc rm' V kn fi wx))
      case first =>
        by_cases hk0 : kk = 0
        · as_aux_lemma =>
          subst hk0
          obtain ⟨c, R', rc', V', kn', fi', hnu, hI, hR⟩ := put_both (HL3.out).nu hpB oo hob dl (by have := HLN.out; omega) ff
          have HI : Aside _ := hI
          have HR : Aside _ := hR
          have HNU : Aside _ := hnu
          have HBB := Lp.box HL3.out HBX.out
          obtain ⟨Q, hQ⟩ : ∃ Q, W3.heap.size = Q := ⟨_, rfl⟩
          have hWQ : W.heap.size ≤ Q := by rw [← hQ]; exact (HL3.out).bel.size
          rw [hQ] at hBW
          obtain ⟨W4, hW4⟩ : ∃ W4, W3.alloc (.cells #[] 5) = W4 := ⟨_, rfl⟩
          have hb4 : Below Q W3 W4 := by rw [← hW4, ← hQ]; exact (Below.refl _ _).alloc (Nat.le_refl _) _
          have HO4 : Aside (W4.ownsRow Q 5 1 (.slice (some ⟨Q, 0, none⟩) 0 0) 0 []) := by show W4.ownsRow Q 5 1 _ 0 []; rw [← hW4, ← hQ]; exact World.ownsRow_made W3 #[] 0 (Nat.le_refl _) (by unfold maxLen; omega) rfl
          have hs4 : Q ≤ W4.heap.size := by rw [← hQ]; exact hb4.size
          have cb : ∀ (X : World), Below Q W3 X → ∀ j, X.cell? ⟨Bx, j, none⟩ = W3.cell? ⟨Bx, j, none⟩ := fun X h j => h.cell (p := ⟨Bx, j, none⟩) hBW
          have CB : Aside _ := cb
          have b2 : W4.cell? ⟨Bx, 2, none⟩ = some (.slice dla LN dcap) := by rw [cb W4 hb4]; simp [World.cell?, HBX.out]
          have HSLX : Aside (∀ X, Below Q W3 X → Sl X dla dl) := fun X h => (Sl.below HSL.out (HL3.out).bel).below (hQ ▸ h)
          have HS4 : Aside (Sl W4 dla dl) := HSLX.out W4 hb4
          have HB4 : Aside (Below Q W3 W4) := hb4
          have HQ : Aside (W3.heap.size = Q) := hQ
          have hLNb : 0 + LN ≤ 140737488355328 := by omega
          clear hI hR hnu hb4 cb
          go_wp2_with (first | (at_builtin; refine wpList_append_b31 rfl (.tmp 63) (.tmp 65) rfl Q (.slice (some ⟨Q, 0, none⟩) 0 0) 0 [] rfl HO4.out dla LN dcap dl rfl HLN.out HNIL.out HS4.out hLNb hs4 ?_; intro v5 W5 hown5 hgr5; refine Hid.out ?_) | fail)
          rw [Nat.zero_add, List.nil_append] at hown5
          have hb5 : Below Q W3 W5 := HB4.out.grown hgr5 hs4 (by intro k hk; simp [Value.ownBlock] at hk; omega)
          obtain ⟨ao5, c5, hv5⟩ := own_slice hown5
          rw [hv5]
          rw [hv5] at hown5
          have hs5 : Q ≤ W5.heap.size := by rw [← HQ.out]; exact hb5.size
          obtain ⟨W6, hW6⟩ : ∃ W6, W5.alloc (.cells #[.int .u8 90] 5) = W6 := ⟨_, rfl⟩
          have hb56 : Below W5.heap.size W5 W6 := by rw [← hW6]; exact (Below.refl _ _).alloc (Nat.le_refl _) _
          have HO6 : Aside (W6.ownsRow Q 5 1 (.slice ao5 LN c5) LN (bs dl)) := own_bel hown5 hb56
          have HS6 : Aside (Sl W6 (some ⟨W5.heap.size, 0, none⟩) [90]) := by
            intro j hj
            obtain rfl : j = 0 := by simpa using hj
            have hg6 : W6.heap[W5.heap.size]? = some (.cells #[.int .u8 90] 5 (0, 0)) := by rw [← hW6]; exact heap_alloc_new W5 _
            exact ⟨_, 0, rfl, by simp [World.cell?, hg6]⟩
          have HB6 : Aside (Below Q W3 W6) := hb5.trans (hb56.mono hs5)
          have hs6 : Q ≤ W6.heap.size := Nat.le_trans hs5 hb56.size
          have hLN1 : LN + 1 ≤ 140737488355328 := by omega
          clear hown5 hgr5 hb5 hv5 hb56 b2
          refine mkHid ?_
          go_wp2_with (first | (at_builtin; refine wpList_append_b31 rfl (.tmp 66) (.tmp 67) rfl Q (.slice ao5 LN c5) LN (bs dl) rfl HO6.out (some ⟨W5.heap.size, 0, none⟩) 1 1 [90] rfl rfl (fun e => by cases e) HS6.out hLN1 hs6 ?_; intro v7 W7 hown7 hgr7; refine Hid.out ?_) | fail)
          rw [← bs_append] at hown7
          have hb7 : Below Q W3 W7 := HB6.out.grown hgr7 hs6 (fun k hk => (HO6.out.lt k hk).1)
          obtain ⟨g, c7, cur7, hv7, hgQ, hg7, hc7, hl7, hcur7⟩ := own_row hown7 (by omega)
          rw [hv7]
          rw [hv7] at hown7
          have HO7 : Aside (W7.ownsRow Q 5 1 (.slice (some ⟨g, 0, none⟩) (LN + 1) c7) (LN + 1) (bs (dl ++ [90]))) := hown7
          have HB7 : Aside (Below Q W3 W7) := hb7
          have HL7 : Aside (Lp W b mb r i nn p R lm rc rm' V kn fi W7.drew) := Lp.drew1 ((HL3.out).kept (chg_below (HQ.out ▸ hb7)) (fun _ _ e => e.elim))
          have HS7 : Aside (Sl W7.drew (some ⟨g, 0, none⟩) dl) := fun j hj => ⟨g, 0, rfl, by
            have := hcur7 j (by rw [List.length_append]; omega)
            rw [List.getElem_append_left hj] at this
            show W7.cell? ⟨g, 0 + j, none⟩ = _
            simp [World.cell?, hg7, this]⟩
          have HPUT : Aside _ := HI.out b mb nn W7.drew (some ⟨g, 0, none⟩) c7 hnnB (show Tb W7.drew from (Tb.below HTW3.out (HQ.out ▸ hb7) : Tb W7)) (HL7.out).ib HS7.out (by have := HLN.out; omega)
          rw [HLN.out] at HPUT
          have HSS : Aside (W7.drew.cell? ⟨Bx, 1, none⟩ = some (.int .i64 oo) ∧ W7.drew.cell? ⟨Bx, 2, none⟩ = some (.slice dla LN dcap) ∧ W7.drew.cell? ⟨Bx, 3, none⟩ = some (.bool ff)) := by
            refine ⟨?_, ?_, ?_⟩
            · show W7.cell? _ = _
              rw [CB.out W7 hb7]; simp [World.cell?, HBX.out]
            · show W7.cell? _ = _
              rw [CB.out W7 hb7]; simp [World.cell?, HBX.out]
            · show W7.cell? _ = _
              rw [CB.out W7 hb7]; simp [World.cell?, HBX.out]
          have HKS : Aside (∀ X, Chg (fun j => j = b ∨ j = mb) W7.drew X → X.cell? ⟨Bx, 1, none⟩ = some (.int .i64 oo) ∧ X.cell? ⟨Bx, 2, none⟩ = some (.slice dla LN dcap) ∧ X.cell? ⟨Bx, 3, none⟩ = some (.bool ff)) := fun X h => ⟨cell_chg HSS.out.1 h HBB.1, cell_chg HSS.out.2.1 h HBB.1, cell_chg HSS.out.2.2 h HBB.1⟩
          have z1 : (0 : Int) ≤ (LN : Int) := by omega
          have z2 : (LN : Int) ≤ (c7 : Int) := by omega
          clear hown7 hgr7 hb7 hv7 hcur7 hl7 hW6 hW4 hLN1 hLNb
          refine mkHid ?_
          go_wp2_with fail
          go_region_held3 (fun w' => w'.cell? ⟨Bx, 1, none⟩ = some (.int .i64 oo) ∧ w'.cell? ⟨Bx, 2, none⟩ = some (.slice dla LN dcap) ∧ w'.cell? ⟨Bx, 3, none⟩ = some (.bool ff)) (first | exact HSS.out | exact HKS.out _ HZ.out.2) (first
            | (go_at_call 10; refine Calls.mono HPUT.out ?_; rintro e W8 ⟨rfl, hz⟩; have HZ : Aside ((∃ nn', nn' ≤ nn + 20000 ∧ IbP b mb nn' p R' lm rc' rm' V' kn' W8) ∧ Chg (fun j => j = b ∨ j = mb) W7.drew W8) := hz; clear hz))
          obtain ⟨d1, d2, d3⟩ := HKS.out _ HZ.out.2
          have hne := IbP.ne_r (HL7.out).ib (HL7.out).rf
          have hrf8 : RfP r p lm rc rm' V kn fi W8 := RfP.kept (HL7.out).rf HZ.out.2 (fun e => e.elim hne.1 hne.2) (fun g' cur hg' => (HL7.out).ib.not62 hg')
          have hsd8 : Sl W8 dla dl := Ib.sl (HL7.out).ib HZ.out.2 (HSLX.out W7 HB7.out : Sl W7.drew dla dl)
          have HR8 : Aside _ := HR.out r W8 dla dcap hrf8 hsd8
          rw [HLN.out] at HR8
          have HRF8 : Aside (RfP r p lm rc rm' V kn fi W8) := hrf8
          have HSD8 : Aside (Sl W8 dla dl) := hsd8
          have HO8 : Aside (W8.ownsRow Q 5 1 (.slice (some ⟨g, 0, none⟩) (LN + 1) c7) (LN + 1) (bs (dl ++ [90]))) := own_kept (w := W7.drew) HO7.out HZ.out.2 (fun g' cur hg' e => by
            rcases e with rfl | rfl
            · have := hg'.symm.trans (HL7.out).ib.1
              simp at this
            · obtain ⟨_, D, ⟨es, ck, h3, _⟩, _⟩ := (HL7.out).ib
              have := hg'.symm.trans h3
              simp at this)
          clear hrf8 hsd8 hne HSS HKS HPUT
          go_wp2_with fail
          refine Calls.mono HR8.out ?_
          rintro e W9 ⟨rfl, hrf9, hch9⟩
          have d2' := cell_chg d2 hch9 HBB.2
          have hox : W9.ownsRow Q 5 1 (.slice (some ⟨g, 0, none⟩) (LN + 1) c7) (LN + 1) (bs (dl ++ [90])) := own_kept HO8.out hch9 (fun g' cur hg' e => by
            subst e
            obtain ⟨ca, cc, hrr⟩ := HRF8.out
            have := hg'.symm.trans hrr.1
            simp at this)
          have hsd9 : Sl W9 dla dl := by
            obtain ⟨ca, cc, hrr⟩ := HRF8.out
            exact hrr.sl hch9 HSD8.out
          obtain ⟨htn, _, hcur⟩ := own_tn hox
          have HTN : Aside (Tn g (LN + 1) W9 W9) := htn
          have HCUR : Aside _ := hcur
          have HLN9 : Aside (∃ nn', Lp W b mb r (i + 1) nn' p R' lm rc' rm' V' kn' fi' W9) := by
            obtain ⟨nn', hn', hix⟩ := HZ.out.1
            exact ⟨nn', Lp.two1 HL7.out HNU.out HZ.out.2 hix hch9 hrf9 hn' (by omega)⟩
          obtain ⟨s1, l1, n1, _⟩ := own_sl hox
          have cv1 : (convert 31 9 (.slice (some ⟨g, 0, none⟩) (LN + 1) c7)).run Tryd.prog W9 = .ok (.string ⟨(dl ++ [90]).toArray⟩) W9 := str_any s1 l1 n1
          have cv2 : (convert 31 9 (.slice dla LN dcap)).run Tryd.prog W9 = .ok (.string ⟨dl.toArray⟩) W9 := str_any hsd9 HLN.out HNIL.out
          have ad := str_add (w := W9) dl [90] (by have := HLN.out; simp; omega)
          have hgW : W.heap.size ≤ g := Nat.le_trans hWQ hgQ
          generalize (⟨(dl ++ [90]).toArray⟩ : ByteArray) = S1 at cv1 ad
          generalize (⟨dl.toArray⟩ : ByteArray) = S2 at cv2 ad
          clear hrf9 hch9 hox hsd9 htn hcur s1 l1 n1 HR8 d1 d2 d3 HO8 HSD8 HRF8
          go_wp2_with fail
          go_loopg [13] (LN + 1 + 1) (fun kx sk wk => ∃ k : Nat, sk = .int .i64 k ∧ k ≤ LN + 1 ∧ LN + 1 + 1 - k ≤ kx ∧ Aside (Tn g (LN + 1) W9 wk))
          case atStart => exact ⟨0, rfl, Nat.zero_le _, by omega, HTN.out⟩
          case round =>
            obtain ⟨k, rfl, hk, hkx2, HTk⟩ := hrel
            by_cases hkl : k < LN + 1
            · obtain ⟨z, hz0, hz1, hTS⟩ := (HTk.out).next hkl
              have HTS : Aside _ := hTS
              have y1 : (k : Int) < (LN : Int) + 1 := by omega
              have hwk : IntKind.i64.wrap ((k : Int) + 1) = ((k + 1 : Nat) : Int) := by rw [IntKind.wrap_i64]; omega
              obtain ⟨zv, hzv⟩ : ∃ zv, IntKind.u8.wrap (z + 1) = zv := ⟨_, rfl⟩
              rw [hzv] at HTS
              clear hTS HTk
              go_wp2_with fail
              go_roundg (LN + 1 + 1 - (k + 1))
              case measure => omega
              case rel => exact ⟨k + 1, rfl, by omega, Nat.le_refl _, HTS.out⟩
            · have y1 : ¬ (k : Int) < (LN : Int) + 1 := by omega
              go_wp2_with fail
              go_meet
              exact (by obtain ⟨nn', h9⟩ := HLN9.out; exact ⟨nn', p, R', lm, rc', rm', V', kn', fi', Lp.turned h9 HTk.out hgW HCUR.out⟩)

        by_cases hk1 : kk = 1
        · as_aux_lemma =>
          subst hk1
          obtain ⟨m, lm2, l, dn, hml, hm20, hI, hR⟩ := read_both (HL3.out).nu hpB xx
          have HI0 : Aside _ := hI b mb nn W3 (HL3.out).ib
          have HR : Aside _ := hR
          have HML : Aside (l.length = m) := hml
          have HM20 : Aside (m ≤ 1048576) := hm20
          have HBB := Lp.box HL3.out HBX.out
          have b4 : W3.cell? ⟨Bx, 4, none⟩ = some (.int .i64 xx) := by simp [World.cell?, HBX.out]
          have hWW3 : W.heap.size ≤ W3.heap.size := (HL3.out).bel.size
          clear hI hR hml hm20
          go_wp2_with fail
          refine Calls.mono HI0.out ?_
          rintro e W4 ⟨g, V2, rfl, hg, hown, hib, hnu, hVV, hch⟩
          have b4' := cell_chg b4 hch HBB.1
          have hne := IbP.ne_r (HL3.out).ib (HL3.out).rf
          have hrf : RfP r p lm rc rm' V kn fi W4 := RfP.kept (HL3.out).rf hch (fun e => e.elim hne.1 hne.2) (fun g cur hg => (HL3.out).ib.not62 hg)
          have HR4 : Aside _ := HR.out r W4 hrf
          have HOW : Aside (W4.ownsRow g 5 1 (.slice (some ⟨g, 0, none⟩) m m) m (bs l)) := hown
          have HIB : Aside (IbP b mb nn (p + m) R lm2 rc rm' V2 kn W4) := hib
          have HNU : Aside (Nu (p + m) R lm2 rc rm' V2 kn fi) := hnu
          have HVV : Aside (∀ j, p + m ≤ j → V2 j = V j) := hVV
          have HCH : Aside (Chg (fun j => j = b ∨ j = mb) W3 W4) := hch
          have HRF4 : Aside (RfP r p lm rc rm' V kn fi W4) := hrf
          have hgW : W.heap.size ≤ g := Nat.le_trans hWW3 hg
          clear hown hib hnu hVV hch hrf hne HI0 b4
          go_wp2_with fail
          refine Calls.mono HR4.out ?_
          rintro e W5 ⟨ao, c, rfl, hown2, hrf2, hch2⟩
          have hox : W5.ownsRow g 5 1 (.slice (some ⟨g, 0, none⟩) m m) m (bs l) := own_kept HOW.out hch2 (fun g' cur hg' e => by
            subst e
            obtain ⟨ca, cc, hrr⟩ := HRF4.out
            have := hg'.symm.trans hrr.1
            simp at this)
          obtain ⟨htn, _, hcur⟩ := own_tn hox
          have HTN : Aside (Tn g m W5 W5) := htn
          have HLN5 : Aside (Lp W b mb r (i + 1) nn (p + m) R lm2 rc rm' V2 kn fi W5) := Lp.two1 HL3.out HNU.out HCH.out HIB.out hch2 (hrf2 V2 HVV.out) (by omega) (by have := HM20.out; omega)
          have HCUR : Aside _ := hcur
          obtain ⟨s1, l1, n1, _⟩ := own_sl hox
          obtain ⟨s2, l2, n2, _⟩ := own_sl hown2
          have cv1 : (convert 31 9 (.slice (some ⟨g, 0, none⟩) m m)).run Tryd.prog W5 = .ok (.string ⟨l.toArray⟩) W5 := str_any s1 l1 n1
          have cv2 : (convert 31 9 (.slice ao m c)).run Tryd.prog W5 = .ok (.string ⟨l.toArray⟩) W5 := str_any s2 l2 n2
          generalize (⟨l.toArray⟩ : ByteArray) = S at cv1 cv2
          clear hown2 hrf2 hch2 hox htn hcur s1 s2 l1 l2 n1 n2 HR4 b4'
          cases dn
          all_goals
            go_wp2_with fail
            go_loopg [18] (m + 1) (fun kx sk wk => ∃ k : Nat, sk = .int .i64 k ∧ k ≤ m ∧ m + 1 - k ≤ kx ∧ Aside (Tn g (m) W5 wk))
            case atStart => exact ⟨0, rfl, Nat.zero_le _, by omega, HTN.out⟩
            case round =>
              obtain ⟨k, rfl, hk, hkx2, HTk⟩ := hrel
              by_cases hkl : k < m
              · obtain ⟨z, hz0, hz1, hTS⟩ := (HTk.out).next hkl
                have HTS : Aside _ := hTS
                have y1 : (k : Int) < (m : Int) := by omega
                have hwk : IntKind.i64.wrap ((k : Int) + 1) = ((k + 1 : Nat) : Int) := by rw [IntKind.wrap_i64]; have := HM20.out; omega
                obtain ⟨zv, hzv⟩ : ∃ zv, IntKind.u8.wrap (z + 1) = zv := ⟨_, rfl⟩
                rw [hzv] at HTS
                clear hTS HTk
                go_wp2_with fail
                go_roundg (m + 1 - (k + 1))
                case measure => omega
                case rel => exact ⟨k + 1, rfl, by omega, Nat.le_refl _, HTS.out⟩
              · have y1 : ¬ (k : Int) < (m : Int) := by omega
                go_wp2_with fail
                go_meet
                exact ⟨nn, p + m, R, lm2, rc, rm', V2, kn, fi, Lp.turned HLN5.out HTk.out hgW HCUR.out⟩

        by_cases hk2 : kk = 2
        · as_aux_lemma =>
          subst hk2
          obtain ⟨c, rc', kn', fi', hnu, hI, hR⟩ := end_both (HL3.out).nu hpB xx hnb
          have HI : Aside _ := hI
          have HR : Aside _ := hR
          have HNU : Aside _ := hnu
          have HD3 : Aside (Lp W b mb r i nn p R lm rc rm' V kn fi W3.drew) := Lp.drew1 HL3.out
          have HBB := Lp.box HL3.out HBX.out
          have HC0 : Aside (W3.drew.cell? ⟨Bx, 4, none⟩ = some (.int .i64 xx)) := by show W3.cell? ⟨Bx, 4, none⟩ = _; simp [World.cell?, HBX.out]
          have HK1 : Aside (∀ X, Chg (fun j => j = b ∨ j = mb) W3.drew X → X.cell? ⟨Bx, 4, none⟩ = some (.int .i64 xx)) := fun X h => cell_chg HC0.out h HBB.1
          have HK2 : Aside (∀ X, Chg (fun k => k = r) W3.drew X → X.cell? ⟨Bx, 4, none⟩ = some (.int .i64 xx)) := fun X h => cell_chg HC0.out h HBB.2
          have HK12 : Aside (∀ X Y, Chg (fun j => j = b ∨ j = mb) W3.drew X → Chg (fun k => k = r) X Y → Y.cell? ⟨Bx, 4, none⟩ = some (.int .i64 xx)) := fun X Y h k => cell_chg (HK1.out X h) k HBB.2
          have HK21 : Aside (∀ X Y, Chg (fun k => k = r) W3.drew X → Chg (fun j => j = b ∨ j = mb) X Y → Y.cell? ⟨Bx, 4, none⟩ = some (.int .i64 xx)) := fun X Y h k => cell_chg (HK2.out X h) k HBB.1
          have HNE : Aside (¬ r = b ∧ ¬ r = mb) := IbP.ne_r (HL3.out).ib (HL3.out).rf
          have HI0 : Aside _ := HI.out b mb nn W3.drew hnnB HTW3.out (HD3.out).ib
          have HR0 : Aside _ := HR.out r W3.drew (HD3.out).rf
          have HIr : Aside (∀ X, Chg (fun k => k = r) W3.drew X → Calls Tryd.prog 14 #[.pointer (some ⟨b, 0, none⟩), .int .i64 xx] X fun e w' => e = .returned (.int .i64 c) ∧ ((fun w' => ∃ nn', nn' ≤ nn + 20000 ∧ IbP b mb nn' p R lm rc' rm' V kn' w') w') ∧ Chg (fun j => j = b ∨ j = mb) X w') := fun X h2 =>
            HI.out b mb nn X hnnB (Lp.tb HD3.out HTW3.out h2) ((HD3.out).ib.kept h2 (fun e => (HNE.out).1 e.symm) (fun e => (HNE.out).2 e.symm))
          have HRi : Aside (∀ X, Chg (fun j => j = b ∨ j = mb) W3.drew X → Calls Tryd.prog 15 #[.pointer (some ⟨r, 0, none⟩), .int .i64 xx] X fun e w' => e = .returned (.int .i64 c) ∧ RfP r p lm rc' rm' V kn' fi' w' ∧ Chg (fun k => k = r) X w') := fun X h2 =>
            HR.out r X (RfP.kept (HD3.out).rf h2 (fun e => e.elim (HNE.out).1 (HNE.out).2) (fun g cur hg => (HD3.out).ib.not62 hg))
          clear hI hR hnu HBB
          go_wp2_with fail
          go_region_held3 (fun w' => w'.cell? ⟨Bx, 4, none⟩ = some (.int .i64 xx)) (first | exact HC0.out | exact HK12.out _ _ HZ14.out.2 HZ15b.out.2 | exact HK21.out _ _ HZ15.out.2 HZ14b.out.2 | exact HK1.out _ HZ14.out.2 | exact HK2.out _ HZ15.out.2) (first
            | (go_at_call 14; have HQ := HZ15; refine Calls.mono (HIr.out _ HZ15.out.2) ?_; rintro e wz ⟨rfl, hz⟩; have HZ14b : Aside (((fun w' => ∃ nn', nn' ≤ nn + 20000 ∧ IbP b mb nn' p R lm rc' rm' V kn' w') wz) ∧ Chg (fun j => j = b ∨ j = mb) wy wz) := hz; clear hz)
            | (go_at_call 15; have HQ := HZ14; refine Calls.mono (HRi.out _ HZ14.out.2) ?_; rintro e wz ⟨rfl, hz⟩; have HZ15b : Aside (RfP r p lm rc' rm' V kn' fi' wz ∧ Chg (fun k => k = r) wy wz) := hz; clear hz)
            | (go_at_call 14; refine Calls.mono HI0.out ?_; rintro e wy ⟨rfl, hz⟩; have HZ14 : Aside (((fun w' => ∃ nn', nn' ≤ nn + 20000 ∧ IbP b mb nn' p R lm rc' rm' V kn' w') wy) ∧ Chg (fun j => j = b ∨ j = mb) W3.drew wy) := hz; clear hz)
            | (go_at_call 15; refine Calls.mono HR0.out ?_; rintro e wy ⟨rfl, hz⟩; have HZ15 : Aside (RfP r p lm rc' rm' V kn' fi' wy ∧ Chg (fun k => k = r) W3.drew wy) := hz; clear hz))
          all_goals
            go_wp2_with fail
            go_meet
            first
              | (obtain ⟨nnx, hnx, hix⟩ := HZ14.out.1
                 exact ⟨nnx, p, R, lm, rc', rm', V, kn', fi', Lp.two1 HD3.out HNU.out HZ14.out.2 hix HZ15b.out.2 HZ15b.out.1 hnx (by omega)⟩)
              | (obtain ⟨nnx, hnx, hix⟩ := HZ14b.out.1
                 exact ⟨nnx, p, R, lm, rc', rm', V, kn', fi', Lp.two2 HD3.out HNU.out HZ15.out.2 HZ15.out.1 HZ14b.out.2 hix hnx (by omega)⟩)

        by_cases hk3 : kk = 3
        · as_aux_lemma =>
          subst hk3
          obtain ⟨c, lm2, rm2, hnu, hI, hR⟩ := grow_both (HL3.out).nu hpB xx
          have HI : Aside _ := hI
          have HR : Aside _ := hR
          have HNU : Aside _ := hnu
          have HD3 : Aside (Lp W b mb r i nn p R lm rc rm' V kn fi W3.drew) := Lp.drew1 HL3.out
          have HBB := Lp.box HL3.out HBX.out
          have HC0 : Aside (W3.drew.cell? ⟨Bx, 4, none⟩ = some (.int .i64 xx)) := by show W3.cell? ⟨Bx, 4, none⟩ = _; simp [World.cell?, HBX.out]
          have HK1 : Aside (∀ X, Chg (fun j => j = b ∨ j = mb) W3.drew X → X.cell? ⟨Bx, 4, none⟩ = some (.int .i64 xx)) := fun X h => cell_chg HC0.out h HBB.1
          have HK2 : Aside (∀ X, Chg (fun k => k = r) W3.drew X → X.cell? ⟨Bx, 4, none⟩ = some (.int .i64 xx)) := fun X h => cell_chg HC0.out h HBB.2
          have HK12 : Aside (∀ X Y, Chg (fun j => j = b ∨ j = mb) W3.drew X → Chg (fun k => k = r) X Y → Y.cell? ⟨Bx, 4, none⟩ = some (.int .i64 xx)) := fun X Y h k => cell_chg (HK1.out X h) k HBB.2
          have HK21 : Aside (∀ X Y, Chg (fun k => k = r) W3.drew X → Chg (fun j => j = b ∨ j = mb) X Y → Y.cell? ⟨Bx, 4, none⟩ = some (.int .i64 xx)) := fun X Y h k => cell_chg (HK2.out X h) k HBB.1
          have HNE : Aside (¬ r = b ∧ ¬ r = mb) := IbP.ne_r (HL3.out).ib (HL3.out).rf
          have HI0 : Aside _ := (HI.out b mb nn W3.drew (HD3.out).ib).mono (R' := fun e w' => e = .returned (.int .i64 c) ∧ ((fun w' => ∃ nn', nn' ≤ nn + 20000 ∧ IbP b mb nn' p R lm2 rc rm2 V kn w') w') ∧ Chg (fun j => j = b ∨ j = mb) W3.drew w') (by rintro e w' ⟨rfl, h1, h2⟩; exact ⟨rfl, ⟨nn, by omega, h1⟩, h2⟩)
          have HR0 : Aside _ := HR.out r W3.drew (HD3.out).rf
          have HIr : Aside (∀ X, Chg (fun k => k = r) W3.drew X → Calls Tryd.prog 16 #[.pointer (some ⟨b, 0, none⟩), .int .i64 xx] X fun e w' => e = .returned (.int .i64 c) ∧ ((fun w' => ∃ nn', nn' ≤ nn + 20000 ∧ IbP b mb nn' p R lm2 rc rm2 V kn w') w') ∧ Chg (fun j => j = b ∨ j = mb) X w') := fun X h2 =>
            (HI.out b mb nn X ((HD3.out).ib.kept h2 (fun e => (HNE.out).1 e.symm) (fun e => (HNE.out).2 e.symm))).mono (by rintro e w' ⟨rfl, h1, h2⟩; exact ⟨rfl, ⟨nn, by omega, h1⟩, h2⟩)
          have HRi : Aside (∀ X, Chg (fun j => j = b ∨ j = mb) W3.drew X → Calls Tryd.prog 17 #[.pointer (some ⟨r, 0, none⟩), .int .i64 xx] X fun e w' => e = .returned (.int .i64 c) ∧ RfP r p lm2 rc rm2 V kn fi w' ∧ Chg (fun k => k = r) X w') := fun X h2 =>
            HR.out r X (RfP.kept (HD3.out).rf h2 (fun e => e.elim (HNE.out).1 (HNE.out).2) (fun g cur hg => (HD3.out).ib.not62 hg))
          clear hI hR hnu HBB
          go_wp2_with fail
          go_region_held3 (fun w' => w'.cell? ⟨Bx, 4, none⟩ = some (.int .i64 xx)) (first | exact HC0.out | exact HK12.out _ _ HZ14.out.2 HZ15b.out.2 | exact HK21.out _ _ HZ15.out.2 HZ14b.out.2 | exact HK1.out _ HZ14.out.2 | exact HK2.out _ HZ15.out.2) (first
            | (go_at_call 16; have HQ := HZ15; refine Calls.mono (HIr.out _ HZ15.out.2) ?_; rintro e wz ⟨rfl, hz⟩; have HZ14b : Aside (((fun w' => ∃ nn', nn' ≤ nn + 20000 ∧ IbP b mb nn' p R lm2 rc rm2 V kn w') wz) ∧ Chg (fun j => j = b ∨ j = mb) wy wz) := hz; clear hz)
            | (go_at_call 17; have HQ := HZ14; refine Calls.mono (HRi.out _ HZ14.out.2) ?_; rintro e wz ⟨rfl, hz⟩; have HZ15b : Aside (RfP r p lm2 rc rm2 V kn fi wz ∧ Chg (fun k => k = r) wy wz) := hz; clear hz)
            | (go_at_call 16; refine Calls.mono HI0.out ?_; rintro e wy ⟨rfl, hz⟩; have HZ14 : Aside (((fun w' => ∃ nn', nn' ≤ nn + 20000 ∧ IbP b mb nn' p R lm2 rc rm2 V kn w') wy) ∧ Chg (fun j => j = b ∨ j = mb) W3.drew wy) := hz; clear hz)
            | (go_at_call 17; refine Calls.mono HR0.out ?_; rintro e wy ⟨rfl, hz⟩; have HZ15 : Aside (RfP r p lm2 rc rm2 V kn fi wy ∧ Chg (fun k => k = r) W3.drew wy) := hz; clear hz))
          all_goals
            go_wp2_with fail
            go_meet
            first
              | (obtain ⟨nnx, hnx, hix⟩ := HZ14.out.1
                 exact ⟨nnx, p, R, lm2, rc, rm2, V, kn, fi, Lp.two1 HD3.out HNU.out HZ14.out.2 hix HZ15b.out.2 HZ15b.out.1 hnx (by omega)⟩)
              | (obtain ⟨nnx, hnx, hix⟩ := HZ14b.out.1
                 exact ⟨nnx, p, R, lm2, rc, rm2, V, kn, fi, Lp.two2 HD3.out HNU.out HZ15.out.2 HZ15.out.1 HZ14b.out.2 hix hnx (by omega)⟩)

        have e0 : (kk == 0) = false := by simp [hk0]
        have e1 : (kk == 1) = false := by simp [hk1]
        have e2 : (kk == 2) = false := by simp [hk2]
        have e3 : (kk == 3) = false := by simp [hk3]
        go_wp2_with fail
        go_meet
        exact ⟨nn, p, R, lm, rc, rm', V, kn, fi, Lp.step HL3.out⟩
      case rest =>
      obtain ⟨nn2, p2, R2, lm2, rc2, rm2, V2, kn2, fi2, HL⟩ := hcut
      have hL : Lp W b mb r (i + 1) nn2 p2 R2 lm2 rc2 rm2 V2 kn2 fi2 wc := HL.out
      obtain ⟨ca, cc, hrf⟩ := hL.rf
      obtain ⟨hpR, hRl⟩ := hL.nu.hR
      have hhM := hL.nu.hM
      have hpi := hL.hpi
      obtain ⟨r1, r2, r3⟩ := came_ready hL.nu.st hRl
      obtain ⟨LL, hLL⟩ : ∃ LL, (came V2 p2 (lm2 - p2)).length = LL := ⟨_, rfl⟩
      have hLb : LL ≤ 10000000 := by have := came_le V2 p2 (lm2 - p2); omega
      obtain ⟨rv, hrv⟩ : ∃ rv : Int, (R2 : Int) - p2 = rv := ⟨_, rfl⟩
      have HIQ : Aside (∀ nq, Ib (wc.drewN nq) b mb nn2 V2 p2 R2 LL rm2 lm2 rc2 kn2) := fun nq => by
        have h := hL.ib
        unfold IbP cnt at h
        rw [hLL] at h
        exact ⟨h.1, h.2.kept rfl⟩
      have HRQ : Aside (∀ nq, Rf (wc.drewN nq) r rm2 p2 lm2 rc2 fi2 kn2 ca cc (came V2 p2 (lm2 - p2))) := fun nq => hrf
      have HF19 : Aside (∀ nq, Calls Tryd.prog 19 #[.pointer (some ⟨b, 0, none⟩)] (wc.drewN nq) fun e w' => e = .returned (.int .i64 rv) ∧ ∃ m, w' = (wc.drewN nq).drewN m) := fun nq => by
        rw [← hrv]
        exact ready_q (HIQ.out nq) (by rw [IntKind.wrap_i64]; omega)
      have HF20 : Aside (∀ nq, Calls Tryd.prog 20 #[.pointer (some ⟨r, 0, none⟩)] (wc.drewN nq) fun e w' => e = .returned (.int .i64 rv) ∧ ∃ m, w' = (wc.drewN nq).drewN m) := fun nq => by
        have := rready_c (HRQ.out nq) (R2 - p2) ⟨by omega, by omega⟩ (by omega) r2 (fun i hi hi2 => by rw [r1 i hi hi2]; omega) (fun hi e => r3 hi (by omega))
        rwa [show (((R2 - p2 : Nat)) : Int) = rv by omega] at this
      have d2 := hrf.c2
      have d3 := hrf.c3
      have d4 := hrf.c4
      have d5 := hrf.c5
      have d6 := hrf.c6
      rw [hLL] at d6
      have hfi := hL.nu.hfi
      have HLQ : Aside (∀ nq, Lp W b mb r (i + 1) nn2 p2 R2 lm2 rc2 rm2 V2 kn2 fi2 (wc.drewN nq)) := fun nq => hL.drew nq
      clear hL hrf r1 r2 r3 hLL hrv HL hLb hhM hpi hpR hRl
      cases kn2 with
      | true =>
        as_aux_lemma =>
        have hfe := hfi rfl
        subst hfe
        have hI0 : Ib wc b mb nn2 V2 p2 R2 LL rm2 lm2 rc2 true := HIQ.out 0
        have FC : Aside _ := final_c hI0
        clear hI0
        clear hfi
        go_wp2_with fail
        refine Calls.mono FC.out ?_
        rintro e wf ⟨rfl, hwf⟩
        subst hwf
        go_wp2_with fail
        go_quiet ((first | (go_at_call 19; exact Calls.quiet_of (HF19.out _)) | (go_at_call 20; exact Calls.quiet_of (HF20.out _)) | (go_at_call 21; exact Calls.quiet_of_same (limit_c (HIQ.out _))) | (go_at_call 22; exact Calls.quiet_of_same (reach_c (HIQ.out _))) | (go_at_call 23; exact Calls.quiet_of_same (held_c (HIQ.out _)))))
        go_wp2_with fail
        go_roundg (N + 1 - (i + 1))
        case measure => omega
        case rel => exact ⟨i + 1, nn2, p2, R2, lm2, rc2, rm2, V2, true, rc2, by simp, by omega, Nat.le_refl _, HLQ.out _⟩
      | false =>
        as_aux_lemma =>
        have hI0 : Ib wc b mb nn2 V2 p2 R2 LL rm2 lm2 rc2 false := HIQ.out 0
        have FC : Aside _ := final_no hI0
        clear hI0
        clear hfi
        go_wp2_with fail
        refine Calls.mono FC.out ?_
        rintro e wf ⟨rfl, hwf⟩
        subst hwf
        go_wp2_with fail
        go_quiet ((first | (go_at_call 19; exact Calls.quiet_of (HF19.out _)) | (go_at_call 20; exact Calls.quiet_of (HF20.out _)) | (go_at_call 21; exact Calls.quiet_of_same (limit_c (HIQ.out _))) | (go_at_call 22; exact Calls.quiet_of_same (reach_c (HIQ.out _))) | (go_at_call 23; exact Calls.quiet_of_same (held_c (HIQ.out _)))))
        go_wp2_with fail
        go_roundg (N + 1 - (i + 1))
        case measure => omega
        case rel => exact ⟨i + 1, nn2, p2, R2, lm2, rc2, rm2, V2, false, fi2, by simp, by omega, Nat.le_refl _, HLQ.out _⟩

    · obtain rfl : i = N := by omega
      have j1 : ¬ (i : Int) < (i : Int) := by omega
      have HBE : Aside (Below W.heap.size W wr) := (HL.out).bel
      clear HL
      go_wp2
      go_ret
      exact ⟨rfl, HBE.out⟩

end Go.Proofs.YtpbiokcelglaaaaDoor
