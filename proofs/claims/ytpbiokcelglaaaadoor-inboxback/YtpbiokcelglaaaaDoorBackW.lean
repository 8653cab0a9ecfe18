/- inbox: InboxBack, the walk. -/
import Derived.Test.YtpbiokcelglaaaaDoorBackL
import Derived.Deep.CutRange
namespace Go.Proofs.YtpbiokcelglaaaaDoor
open Go.RowKit Go.Maps
set_option linter.unusedVariables false

set_option maxRecDepth 100000 in
theorem back_long (la lp lt : Option Addr) (N cap np cpp nt cpt : Nat) (W : World) (h : 1048576 < N) :
    Calls Tryd.prog 5 #[.slice la N cap, .slice lp np cpp, .slice lt nt cpt] W fun e w' => e = .returned (.bool true) ∧ Below W.heap.size W w' := by
  have i1 : (1048576 : Int) < (N : Int) := by omega
  go_enter Tryd.func5, Tryd.ntmps5
  go_wp2
  go_ret
  exact ⟨rfl, Below.refl _ _⟩

set_option maxRecDepth 100000 in
set_option maxHeartbeats 4000000 in
theorem back_walk (la lp lt : Option Addr) (cap cpp cpt : Nat) (T : List UInt8) (Lp : List (Int × Int)) (Lt : List Int) (n np nt : Nat) (W : World) (hT : Tb W) (hs : Sl W la T) (hp : Ar W lp Lp) (ht : Ai W lt Lt) (hn : T.length = n) (hnp : Lp.length = np) (hnt : Lt.length = nt) (hN : n ≤ 1048576) (hcap : n ≤ cap) (hnp' : np ≤ 10000000000000) (hnil : la = none → n = 0 ∧ cap = 0) :
    Calls Tryd.prog 5 #[.slice la n cap, .slice lp np cpp, .slice lt nt cpt] W fun e w' => e = .returned (.bool true) ∧ Below W.heap.size W w' := by
  have HT : Aside _ := hT
  have HS : Aside _ := hs
  have HP : Aside _ := hp
  have HTK : Aside _ := ht
  have HN : Aside (T.length = n) := hn
  have HNP : Aside (Lp.length = np) := hnp
  have HNT : Aside (Lt.length = nt) := hnt
  have HNIL : Aside _ := hnil
  have NC : Aside _ := new_c (n : Int) W (by omega) (by omega)
  have i1 : ¬ (1048576 : Int) < (n : Int) := by omega
  clear hT hs hp ht hn hnp hnt hnil
  go_enter Tryd.func5, Tryd.ntmps5
  go_wp2_with fail
  refine Calls.mono NC.out ?_
  rintro e W1 ⟨rfl, hib, hch⟩
  have HL0 : Aside (Lw W (W.heap.size + 1) W.heap.size T np 0 none 0 0 0 0 0 (fun _ => none) false W1) := by
    have hn := HN.out
    refine ⟨⟨?_, fun j _ => .inl rfl, ⟨Nat.le_refl _, fun j h1 h2 => absurd h1 (by omega), rfl⟩, Nat.zero_le _, Nat.zero_le _, (fun h => by cases h)⟩, by simpa [bs] using World.ownsRow_nil W1 W.heap.size 5 1, ⟨hch.1, hch.2.1, hch.2.2.1, hch.2.2.2.1, fun j hj => hch.2.2.2.2 j hj (fun h => h)⟩, by omega, Nat.le_refl _, by omega, fun h => absurd h (by omega), fun j h1 h2 h3 => absurd h3 (by omega)⟩
    have e : cnt (fun _ => none) 0 (T.length - 0) = 0 := by show (came _ _ _).length = 0; rw [came_nil 0 _ (fun _ _ _ => rfl)]; rfl
    rw [e, hn, Nat.zero_add]
    exact hib
  clear hib hch NC
  generalize W.heap.size + 1 = b at *
  go_wp2_with fail
  go_loopg [10, 11] (np + n + 2) (fun kx s10 s11 wr => ∃ (i : Nat) (ao : Option Addr) (c p R nn rc : Nat) (V : Nat → Option UInt8) (kn : Bool), s10 = .slice ao p c ∧ s11 = .int .i64 i ∧ i ≤ np + n + 1 ∧ np + n + 2 - i ≤ kx ∧ Aside (Lw W b W.heap.size T np i ao c p R nn rc V kn wr))
  case atStart => exact ⟨0, none, 0, 0, 0, 0, 0, _, false, rfl, rfl, by omega, by omega, HL0.out⟩
  case round =>
    obtain ⟨i, ao, c, p, R, nn, rc, V, kn, rfl, rfl, hi, hkx, HL⟩ := hrel
    by_cases hle : i ≤ np + n
    · have j1 : (i : Int) ≤ (np : Int) + (n : Int) := by omega
      have k1 : (((i : Int) ≤ (np : Int) + (n : Int)) : Prop) := j1
      go_upto_if 46 with fail
      go_cut [12, 13] from 43 to 90 (fun s12 s13 wx => ∃ at' k : Nat, s12 = .int .i64 at' ∧ s13 = .int .i64 k ∧ at' + k ≤ n ∧ Aside (np ≤ i → at' = n - (i - np) ∧ k = min 1 (n - at')) ∧ wx = wr)
      case first =>
        by_cases hlt : i < np
        · have j2 : (i : Int) < (np : Int) := by omega
          have hix : i < Lp.length := by have := HNP.out; omega
          obtain ⟨pb, off, rfl, q1, q2⟩ := HP.out i hix
          have hbl : Below W.heap.size W wr := HL.out.bel
          have q1' := q1
          rw [← hbl.cell (p := ⟨pb, off + i * 2, none⟩) (World.block_lt_of_cell? _ _ q1)] at q1'
          have q2' := q2
          rw [← hbl.cell (p := ⟨pb, off + i * 2 + 1, none⟩) (World.block_lt_of_cell? _ _ q2)] at q2'
          obtain ⟨a1, at', m1, m2, m3, m4, m5⟩ := mod_fact Lp[i].1 n
          obtain ⟨b1, k, m6, m7, m8, m9, m10, m11⟩ := mod_fact2 Lp[i].2 n at' m3
          generalize Lp[i].1 = A at q1' m1
          generalize Lp[i].2 = B at q2' m6
          have z1 : ¬ (n : Int) + 1 = 0 := by omega
          have z2 : ((n : Int) + 1 == 0) = false := by simp; omega
          have z3 : ¬ (n : Int) - (at' : Int) + 1 = 0 := by omega
          clear q1 q2 hbl
          go_wp2_with fail
          go_meet
          exact ⟨at', k, rfl, rfl, m8, fun h => absurd h (by omega), rfl⟩
        · have j2 : ¬ (i : Int) < (np : Int) := by omega
          obtain ⟨at', ha⟩ : ∃ at' : Nat, at' = n - (i - np) := ⟨_, rfl⟩
          obtain ⟨k, hk⟩ : ∃ k : Nat, k = min 1 (n - at') := ⟨_, rfl⟩
          have e1 : (n : Int) - ((i : Int) - (np : Int)) = (at' : Int) := by omega
          have e2 : (if (n : Int) - (at' : Int) < 1 then (n : Int) - (at' : Int) else 1) = (k : Int) := by split <;> omega
          have HA : Aside _ := ha
          have HK : Aside _ := hk
          have hak : at' + k ≤ n := by omega
          clear ha hk
          go_wp2_with fail
          go_meet
          exact ⟨at', k, rfl, rfl, hak, fun _ => ⟨HA.out, HK.out⟩, rfl⟩
      case rest =>
      obtain ⟨at', k, rfl, rfl, hak, HLT, rfl⟩ := hcut
      obtain ⟨la', hla⟩ : ∃ la', (if cap = at' then la else la.map (·.add at')) = la' := ⟨_, rfl⟩
      obtain ⟨fin, hfin⟩ : ∃ fin, ((at' : Int) + (k : Int) == (n : Int)) = fin := ⟨_, rfl⟩
      have i3 : (at' : Int) + (k : Int) ≤ (cap : Int) := by omega
      have i4 : (at' : Int) ≤ (at' : Int) + (k : Int) := by omega
      have HPC : Aside _ := Lw.put HL.out HT.out HS.out at' k (cap - at') fin (la' := la') (fun b' off' e h0 => by
          rw [← hla, e, if_neg (by omega)]
          simp only [Option.map_some, Addr.add]
          by_cases h0 : at' = 0
          · rw [if_pos h0, h0]; rfl
          · rw [if_neg h0]) (by rw [HN.out]; exact hak) (by omega) (by rw [HN.out]; exact hN) hnp' (by rw [HN.out]; exact hle) (by rw [← hfin, HN.out, beq_iff_eq]; omega) (by rw [HN.out]; exact HLT.out)
      clear HL HLT
      go_upto_if 109 with (first | (go_at_call 10; refine Calls.mono HPC.out ?_; rintro e W2 ⟨rfl, R', nn', rc', V', kn', hLL⟩; have HL : Aside (Lw W b W.heap.size T np (i + 1) ao c p R' nn' rc' V' kn' W2) := hLL; clear hLL HPC) | fail)
      go_cut [10] from 91 to 130 (fun s10 wx => ∃ (ao : Option Addr) (c p R nn rc : Nat) (V : Nat → Option UInt8) (kn : Bool), s10 = .slice ao p c ∧ p ≤ n ∧ Aside (Lw W b W.heap.size T np (i + 1) ao c p R nn rc V kn wx))
      case first =>
        by_cases hit : i < nt
        · have j3 : (i : Int) < (nt : Int) := by omega
          have hix : i < Lt.length := by have := HNT.out; omega
          obtain ⟨tb, toff, rfl, q3⟩ := HTK.out i hix
          have hbl : Below W.heap.size W W2 := HL.out.bel
          rw [← hbl.cell (p := ⟨tb, toff + i, none⟩) (World.block_lt_of_cell? _ _ q3)] at q3
          generalize Lt[i] = x at q3
          have HRC : Aside _ := Lw.read HL.out x (by rw [HN.out]; exact hN)
          clear hbl
          go_wp2_with fail
          refine Calls.mono HRC.out ?_
          rintro e W3 ⟨g, m, V3, dn, rfl, hm, hpm, hdn, hdn2, hWg, hown, hownx, hbk, hVV, hbel⟩
          have HOW : Aside (W3.ownsRow W.heap.size 5 1 (.slice ao p c) p (bs (T.take p))) := hown
          have HOX : Aside (W3.ownsRow g 5 1 (.slice (some ⟨g, 0, none⟩) m m) m (bs ((T.drop p).take m))) := hownx
          have HBK : Aside (Bk b W.heap.size T (p + m) R' nn' rc' V3 kn' W3) := hbk
          have HVV : Aside (∀ j, p + m ≤ j → V3 j = V' j) := hVV
          have HBE : Aside (Below W.heap.size W W3) := hbel
          have hpmn : p + m ≤ n := by have := HN.out; omega
          have HDN : Aside (dn = true → p + m = n) := by have := HN.out; intro e; have := hdn e; omega
          have hWs : W.heap.size ≤ W3.heap.size := hbel.size
          have hlenx : (bs ((T.drop p).take m)).length = m * 1 := by have := HN.out; simp; omega
          have hnews : ∀ j u, (bs ((T.drop p).take m))[j]? = some u → W3.cell? ((⟨g, 0, none⟩ : Addr).add j) = some u := by
            intro j u hj
            obtain ⟨hj', rfl⟩ := bs_get hj
            obtain ⟨bb, oo, e, hx⟩ := (own_sl HOX.out).1 j hj'
            injection e with e
            injection e with e1 e2
            subst e1 e2
            rw [Addr.add_lit]
            exact hx
          have HNW : Aside _ := hnews
          clear hm hpm hdn hdn2 hown hownx hbk hVV hbel HRC hnews
          obtain ⟨i5, hi5, hz5, hs5, hb5⟩ := info_parts info5
          go_wp2_with (first | (at_builtin; refine wpList_append_own _ rfl (.tmp 119) (.tmp 120) 31 rfl W.heap.size 5 i5 (.int .u8 0) 1 1 Tryd.underlying31 hi5 hz5 hs5 hb5 rfl (by decide) (.slice ao p c) p (bs (T.take p)) rfl HOW.out ⟨g, 0, none⟩ m m (bs ((T.drop p).take m)) rfl hlenx HNW.out (bs_one _) (by unfold maxLen; omega) (by omega) hWs ?_; intro v4 W4 hown4 hgr4 _; refine Hid.out ?_) | fail)
          have hex : ∃ ao4 c4, v4 = .slice ao4 (p + m) c4 := by
            rcases hown4.2 with ⟨h0, h00⟩ | ⟨g', cap', cur, hv, _⟩
            · exact ⟨none, 0, by rw [h0, h00]⟩
            · exact ⟨_, _, hv⟩
          obtain ⟨ao4, c4, hv4⟩ := hex
          rw [hv4] at hown4
          rw [hv4]
          have HL4 : Aside (Lw W b W.heap.size T np (i + 1) ao4 c4 (p + m) R' nn' rc' V3 kn' W4) := Lw.got HL.out HBK.out HVV.out HBE.out HOW.out hown4 hgr4
          clear hown4 hgr4 hv4 hlenx hi5 hz5 hs5 hb5
          generalize hpp : p + m = pm at *
          clear hpp
          refine mkHid ?_
          by_cases hpn : pm = n
          · have y1 : ((pm : Int) == (n : Int)) = true := by simp [hpn]
            have HPN : Aside (pm = n) := hpn
            clear hpn
            cases dn
            all_goals
              go_wp2_with fail
              go_meet
              exact ⟨ao4, c4, pm, R', nn', rc', V3, kn', rfl, hpmn, HL4⟩
          · have y1 : ((pm : Int) == (n : Int)) = false := by simp; omega
            have HPN : Aside (¬ pm = n) := hpn
            clear hpn
            cases dn with
            | true => exact absurd (HDN.out rfl) HPN.out
            | false =>
              go_wp2_with fail
              go_meet
              exact ⟨ao4, c4, pm, R', nn', rc', V3, kn', rfl, hpmn, HL4⟩
        · have j3 : ¬ (i : Int) < (nt : Int) := by omega
          have hpn : p ≤ n := by have := HL.out.bk.hp; have := HN.out; omega
          go_wp2_with fail
          go_meet
          exact ⟨ao, c, p, R', nn', rc', V', kn', rfl, hpn, HL⟩
      case rest =>
      obtain ⟨ao5, c5, p5, R5, nn5, rc5, V5, kn5, rfl, hp5, HL5⟩ := hcut
      have hL5 : Lw W b W.heap.size T np (i + 1) ao5 c5 p5 R5 nn5 rc5 V5 kn5 wc := HL5.out
      obtain ⟨hsl, hll, hnl, hpc⟩ := own_sl hL5.own
      obtain ⟨S, hS⟩ : ∃ S : ByteArray, (⟨(T.take p5).toArray⟩ : ByteArray) = S := ⟨_, rfl⟩
      have hsT : Sl wc la (T.take p5) := by
        have h := Sl.below HS.out hL5.bel
        intro j hj
        have hj2 : j < T.length := by simp at hj; omega
        obtain ⟨b', o', e, hx⟩ := h j hj2
        exact ⟨b', o', e, by rw [hx, List.getElem_take]⟩
      have cv1 : ∀ nq, (convert 31 9 (.slice ao5 p5 c5)).run Tryd.prog (wc.drewN nq) = .ok (.string S) (wc.drewN nq) := fun nq => by
        rw [← hS]
        exact str_any (w := wc.drewN nq) hsl hll hnl
      have cv2 : ∀ nq, (convert 31 9 (.slice la p5 cap)).run Tryd.prog (wc.drewN nq) = .ok (.string S) (wc.drewN nq) := fun nq => by
        rw [← hS]
        exact str_any (w := wc.drewN nq) hsT hll (fun e => ⟨by have := (HNIL.out e).1; omega, (HNIL.out e).2⟩)
      obtain ⟨hdv, hhdv⟩ : ∃ hdv : Int, ((cnt V5 p5 (T.length - p5) : Nat) : Int) = hdv := ⟨_, rfl⟩
      obtain ⟨lmv, hlmv⟩ : ∃ lmv : Int, ((p5 + T.length : Nat) : Int) = lmv := ⟨_, rfl⟩
      have HIQ : Aside (∀ nq, Ib (wc.drewN nq) b W.heap.size nn5 V5 p5 R5 hdv (T.length : Nat) lmv rc5 kn5) := fun nq => by
        have h := hL5.bk.ib
        rw [hhdv, hlmv] at h
        exact ⟨h.1, h.2.kept rfl⟩
      have w1 : IntKind.i64.wrap (lmv - (p5 : Int)) = (n : Int) := by have := HN.out; rw [IntKind.wrap_i64]; omega
      have w2 : ¬ (n : Int) < hdv := by
        have := came_le V5 p5 (T.length - p5)
        have h2 : ((came V5 p5 (T.length - p5)).length : Int) = hdv := hhdv
        have := HN.out
        omega
      have w3 : ¬ (n : Int) < (p5 : Int) := by omega
      have w4 : (p5 : Int) ≤ (cap : Int) := by omega
      have w5 : (0 : Int) ≤ (p5 : Int) := by omega
      have HLQ : Aside (∀ nq, Lw W b W.heap.size T np (i + 1) ao5 c5 p5 R5 nn5 rc5 V5 kn5 (wc.drewN nq)) := fun nq =>
        ⟨⟨⟨hL5.bk.ib.1, hL5.bk.ib.2.kept rfl⟩, hL5.bk.of, hL5.bk.st, hL5.bk.hp, hL5.bk.hrc, hL5.bk.hkn⟩, hL5.own, ⟨hL5.bel.1, hL5.bel.2, hL5.bel.3, hL5.bel.4, hL5.bel.5⟩, hL5.hb, hL5.hm, hL5.hnn, hL5.late, hL5.lateV⟩
      clear hL5 hsl hll hnl hS hsT hhdv hlmv HL5 hpc HL
      go_wp2_with fail
      go_quiet ((first | (go_at_call 23; exact Calls.quiet_of_same (held_c (HIQ.out _))) | (go_at_call 21; exact Calls.quiet_of_same (limit_c (HIQ.out _)))))
      go_wp2_with fail
      go_roundg (np + n + 2 - (i + 1))
      case measure => omega
      case rel => exact ⟨i + 1, ao5, c5, p5, R5, nn5, rc5, V5, kn5, rfl, by simp, by omega, by omega, HLQ.out _⟩
    · have j1 : ¬ (i : Int) ≤ (np : Int) + (n : Int) := by omega
      have hL : Lw W b W.heap.size T np i ao c p R nn rc V kn wr := HL.out
      have hkn : kn = true := hL.late (by omega)
      have hRn : R = n := by
        obtain ⟨h1, h2⟩ := hL.bk.hR
        have hn := HN.out
        by_cases hc : R < T.length
        · exact absurd hL.bk.st.2.2 (hL.lateV R h1 hc (by omega))
        · omega
      have hp := hL.bk.hp
      have hrc := hL.bk.hkn hkn
      have HRC : Aside _ := Lw.read hL n (by rw [HN.out]; exact hN)
      clear hL
      go_wp2_with fail
      refine Calls.mono HRC.out ?_
      rintro e W3 ⟨g, m, V3, dn, rfl, hm, hpm, hdn, hdn2, hWg, hown, hownx, hbk, hVV, hbel⟩
      have hmn : p + m = n := by have := HN.out; omega
      have hdt : dn = true := by
        rw [hdn2, hkn, Bool.true_and]
        exact decide_eq_true (by have := HN.out; omega)
      obtain ⟨s1, l1, n1, _⟩ := own_sl hown
      obtain ⟨s2, l2, n2, _⟩ := own_sl hownx
      have s3 : Sl W3 la T := Sl.below HS.out hbel
      have cv1 : (convert 31 9 (.slice ao p c)).run Tryd.prog W3 = .ok (.string ⟨(T.take p).toArray⟩) W3 := str_any s1 l1 n1
      have cv2 : (convert 31 9 (.slice (some ⟨g, 0, none⟩) m m)).run Tryd.prog W3 = .ok (.string ⟨((T.drop p).take m).toArray⟩) W3 := str_any s2 l2 n2
      have cv3 : (convert 31 9 (.slice la n cap)).run Tryd.prog W3 = .ok (.string ⟨T.toArray⟩) W3 := str_any s3 HN.out HNIL.out
      have ad := str_add (w := W3) (T.take p) ((T.drop p).take m) (by have := HN.out; omega)
      have eT : T.take p ++ (T.drop p).take m = T := by
        rw [List.take_of_length_le (l := T.drop p) (by have := HN.out; simp; omega), List.take_append_drop]
      rw [eT] at ad
      have HBE : Aside (Below W.heap.size W W3) := hbel
      rw [hdt]
      clear hdt hdn hdn2 hown hownx hbk hVV hbel s1 s2 s3 l1 l2 n1 n2 hm hpm hmn eT HRC hkn hRn hp hrc HL
      generalize (⟨(T.take p).toArray⟩ : ByteArray) = S1 at cv1 ad
      generalize (⟨((T.drop p).take m).toArray⟩ : ByteArray) = S2 at cv2 ad
      generalize (⟨T.toArray⟩ : ByteArray) = S3 at cv3 ad
      go_wp2
      go_ret
      exact ⟨by simp, HBE.out⟩
end Go.Proofs.YtpbiokcelglaaaaDoor
