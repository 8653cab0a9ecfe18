/- LedgerPlays: the law's walk. -/
import Derived.Test.YtkjcapmhjhnckaaPc
import Derived.Deep.RegionHeld3
import Derived.Deep.CutRange
import Derived.Deep.DeepCutAuto
import Derived.Deep.CutBlock
namespace Go.Proofs.Ytkjcapmhjhnckaa
open Go.RowKit Go.Maps Go.Shelf
set_option linter.unusedVariables false
set_option maxRecDepth 100000

def PlR (w : World) (r : Ending) (w' : World) : Prop := r = .returned (.bool true) ∧ Below w.heap.size w w'
theorem cells8 {W : World} {b : Nat} {k n a s : Int} {e : Bool} {la : Option Addr} {m c : Nat} {t l : Int} (h : W.heap[b]? = some (.cells #[.int .i64 k, .int .i64 n, .int .i64 a, .int .i64 s, .bool e, .slice la m c, .int .i64 t, .int .i64 l] 32 (0, 0))) :
    W.cell? ⟨b, 0, none⟩ = some (.int .i64 k) ∧ (W.cell? ⟨b, 1, none⟩ = some (.int .i64 n) ∧ W.cell? ⟨b, 2, none⟩ = some (.int .i64 a) ∧ W.cell? ⟨b, 3, none⟩ = some (.int .i64 s) ∧ W.cell? ⟨b, 4, none⟩ = some (.bool e)) ∧ W.cell? ⟨b, 5, none⟩ = some (.slice la m c) ∧ W.cell? ⟨b, 6, none⟩ = some (.int .i64 t) ∧ W.cell? ⟨b, 7, none⟩ = some (.int .i64 l) := by
  refine ⟨?_, ⟨?_, ?_, ?_, ?_⟩, ?_, ?_, ?_⟩ <;> simp [World.cell?, h]
theorem cells4 {W : World} {b : Nat} {ty : TypeId} {o1 : Option Addr} {n1 c1 : Nat} {o2 : Option Addr} {n2 c2 : Nat} {s1 s2 : Int} (h : W.heap[b]? = some (.cells #[.slice o1 n1 c1, .slice o2 n2 c2, .int .i64 s1, .int .i64 s2] ty (0, 0))) :
    W.cell? ⟨b, 0, none⟩ = some (.slice o1 n1 c1) ∧ W.cell? ⟨b, 1, none⟩ = some (.slice o2 n2 c2) ∧ W.cell? ⟨b, 2, none⟩ = some (.int .i64 s1) ∧ W.cell? ⟨b, 3, none⟩ = some (.int .i64 s2) := by
  refine ⟨?_, ?_, ?_, ?_⟩ <;> simp [World.cell?, h]
set_option maxHeartbeats 2000000 in
theorem plays_walk (R : List ActR) (la : Option Addr) (cap : Nat) (late : Int) (w : World) (hA : Ac w la R) (hl : R.length ≤ 1759218604441) : Calls Try.prog 3 #[.slice la R.length cap, .int .i64 late] w (PlR w) := by
  have hnew := new_c w
  have HA : Aside _ := hA
  obtain ⟨N, hN⟩ : ∃ N, R.length = N := ⟨_, rfl⟩
  have HN : Aside _ := hN
  rw [hN] at hl ⊢
  have HR : Aside (∀ w', Below w.heap.size w w' → PlR w (.returned (.bool true)) w') := fun w' h => ⟨rfl, h⟩
  generalize PlR w = RR at *
  clear hA hN
  go_enter Try.func3, Try.ntmps3
  go_wp2_with fail
  refine hnew.mono ?_
  rintro e W1 ⟨A, rfl, hl1, hb1, ho1, hm1⟩
  have hrn := rnew_c W1
  have HST : Aside (∀ (B : Ra) (W2 : World), Rl W2 B rs0 → Below W1.heap.size W1 W2 → (∀ k, B.own k → W1.heap.size ≤ k) → Ps w A.b B.b 0 W2) := fun B W2 h1 h2 h3 => ps_start hl1 hb1 ho1 hm1 h1 h2 h3
  clear hl1 hb1 ho1 hm1 hnew
  go_wp2_with fail
  refine hrn.mono ?_
  rintro e W2 ⟨B, rfl, hr1, hr2, hr3⟩
  have HQ : Aside _ := HST.out B W2 hr1 hr2 hr3
  clear hrn HST hr1 hr2 hr3
  have hna := names_c W2
  generalize A.b = b at *
  generalize B.b = c at *
  clear A B
  go_wp2_with fail
  refine hna.mono ?_
  rintro e W3 ⟨rfl, hw⟩
  subst hw
  clear hna
  go_wp2_with fail
  go_loopg [7] N (fun kx s7 wr => ∃ (i : Nat), s7 = .int .i64 (i : Int) ∧ i ≤ N ∧ N - i ≤ kx ∧ Aside (Ps w b c i wr))
  case atStart => exact ⟨0, rfl, by omega, by omega, HQ.out⟩
  case round =>
    clear HQ
    obtain ⟨i, rfl, hi, hgk, HS⟩ := hrel
    by_cases hlt : i < N
    · have hir : i < R.length := by rw [HN.out]; exact hlt
      obtain ⟨A, B, L, Q, hAb, hBc, hW, hJ⟩ := HS.out
      obtain ⟨rb, ro, hla, hcells, hok⟩ := HA.out i hir
      have HBX := bx_box hW hJ R[i] hok
      have q0 : wr.cell? ⟨rb, ro + i * 8, none⟩ = some (.int .i64 R[i].k) := cell_bel (hcells 0 _ rfl) hW.bel
      have q1 : wr.cell? ⟨rb, ro + i * 8 + 1, none⟩ = some (.int .i64 R[i].n) := cell_bel (hcells 1 _ rfl) hW.bel
      have q2 : wr.cell? ⟨rb, ro + i * 8 + 2, none⟩ = some (.int .i64 R[i].a) := cell_bel (hcells 2 _ rfl) hW.bel
      have q3 : wr.cell? ⟨rb, ro + i * 8 + 3, none⟩ = some (.int .i64 R[i].s) := cell_bel (hcells 3 _ rfl) hW.bel
      have q4 : wr.cell? ⟨rb, ro + i * 8 + 4, none⟩ = some (.bool R[i].e) := cell_bel (hcells 4 _ rfl) hW.bel
      have q5 : wr.cell? ⟨rb, ro + i * 8 + 5, none⟩ = some (.slice R[i].la R[i].S.length R[i].cap) := cell_bel (hcells 5 _ rfl) hW.bel
      have q6 : wr.cell? ⟨rb, ro + i * 8 + 6, none⟩ = some (.int .i64 R[i].t) := cell_bel (hcells 6 _ rfl) hW.bel
      have q7 : wr.cell? ⟨rb, ro + i * 8 + 7, none⟩ = some (.int .i64 R[i].l) := cell_bel (hcells 7 _ rfl) hW.bel
      have hsl := hok.len
      clear hcells hok hW hJ
      generalize R[i] = r at *
      clear hir
      obtain ⟨k, pn, pa, pz, pe, sl, S, sc, t, lt⟩ := r
      simp only at q0 q1 q2 q3 q4 q5 q6 q7 hsl
      have hcs : (ActR.cs ⟨k, pn, pa, pz, pe, sl, S, sc, t, lt⟩).toArray = #[.int .i64 k, .int .i64 pn, .int .i64 pa, .int .i64 pz, .bool pe, .slice sl S.length sc, .int .i64 t, .int .i64 lt] := rfl
      rw [hcs] at HBX
      obtain ⟨SN, hSN⟩ : ∃ SN, S.length = SN := ⟨_, rfl⟩
      have HSN : Aside _ := hSN
      rw [hSN] at q5 hsl HBX hcs
      obtain ⟨W3, hW3⟩ : ∃ W3, wr.alloc (.cells #[.int .i64 k, .int .i64 pn, .int .i64 pa, .int .i64 pz, .bool pe, .slice sl SN sc, .int .i64 t, .int .i64 lt] 32) = W3 := ⟨_, rfl⟩
      rw [hW3] at HBX
      have b8 := HBX.b8
      rw [hcs] at b8
      have b0 := (cells8 b8).1
      have HB : Aside _ := HBX
      have B8F : Aside _ := b8
      have HCS : Aside _ := hcs
      subst hla
      clear HBX b8 hcs hSN
      have i0 : (i : Int) < N := by omega
      have iw : IntKind.i64.wrap ((i : Int) + 1) = (i : Int) + 1 := wrp _ (by omega) (by omega)
      clear HS
      subst hAb hBc
      go_upto_block 2 with fail
      clear hW3 q0 q1 q2 q3 q4 q5 q6 q7
      generalize wr.heap.size = B8 at *
      go_cut [] (fun wx => Aside (Ps w A.b B.b (i + 1) wx))
      case first =>
        by_cases hk0 : k = 0
        · subst hk0
          obtain ⟨_, s3, _⟩ := cells8 B8F.out
          have hsn := (HB.out.bl (Below.refl _ W3).drew).sent (by omega) ⟨pn, pa, pz, pe⟩
          rw [HCS.out] at hsn
          have S3 : Aside (W3.drew.cell? ⟨B8, 1, none⟩ = some (.int .i64 pn) ∧ W3.drew.cell? ⟨B8, 2, none⟩ = some (.int .i64 pa) ∧ W3.drew.cell? ⟨B8, 3, none⟩ = some (.int .i64 pz) ∧ W3.drew.cell? ⟨B8, 4, none⟩ = some (.bool pe)) := s3
          generalize snt L ⟨pn, pa, pz, pe⟩ = x at *
          clear s3
          go_wp2_with fail
          go_region_held3 (fun X => X.cell? ⟨B8, 1, none⟩ = some (.int .i64 pn) ∧ X.cell? ⟨B8, 2, none⟩ = some (.int .i64 pa) ∧ X.cell? ⟨B8, 3, none⟩ = some (.int .i64 pz) ∧ X.cell? ⟨B8, 4, none⟩ = some (.bool pe)) (first | exact S6.out | exact S5.out | exact S3.out) (first | (go_at_call 10; refine Calls.mono hsn ?_; rintro e W5 ⟨rfl, h7, hrs0⟩; have hrs := hrs0 W5 (Below.refl _ _); have S5 : Aside _ := (cells8 h7).2.1; clear h7 hrs0) | (go_at_call 11; refine Calls.mono hrs ?_; rintro e W6 ⟨rfl, h7, hP⟩; have HP : Aside (Ps w A.b B.b (i + 1) W6) := hP; have S6 : Aside _ := (cells8 h7).2.1; clear h7 hP))
          go_wp2_with fail
          go_meet
          exact HP
        by_cases hk1 : k = 1
        · skip
          subst hk1
          obtain ⟨_, _, b5, _, _⟩ := cells8 B8F.out
          obtain ⟨g, off, c', Y, hap, hbY, hrow, hg⟩ := HB.out.copy
          have hbx := HB.out.bl hbY
          have g1 : ¬ A.own g := fun hA => by have := HB.out.s.l.lt hA; omega
          have g2 : ¬ B.own g := fun hB => by have := HB.out.s.r.lt hB; omega
          have hac := hbx.acked (by omega) hrow g1 t lt
          simp only [HSN.out] at hap hac
          have h8 := hbx.b8
          rw [HCS.out] at h8
          obtain ⟨_, _, _, b6, b7⟩ := cells8 h8
          have HLQ : Aside (∀ V, Kp A B Y V → Ps w A.b B.b (i + 1) V → Lq w A.b B.b (i + 1) B8 ⟨1, pn, pa, pz, pe, sl, S, sc, t, lt⟩ g off c' V) := fun V k1 k2 => lq_of hbx hrow g1 g2 k1 k2
          have HBX : Aside _ := hbx
          have HAP : Aside _ := hap
          generalize wra L S t lt = x at *
          have b5' : (W3.alloc (.cells #[] 50)).cell? ⟨B8, 5, none⟩ = some (.slice sl SN sc) := cell_bel b5 (bel1 W3 _)
          clear hap hbY hrow hg hbx g1 g2 h8
          go_wp2_with (refine appr rfl _ _ 30 30 rfl _ _ rfl rfl HAP.out (Hid.out ?_))
          refine mkHid ?_
          clear b0 b5 b5'
          go_wp2_with fail
          refine hac.mono ?_
          rintro e W5 ⟨o1, n1, c1, o2, n2, c2, s1, s2, rfl, hk, hrp⟩
          clear hac b6 b7 HAP
          obtain ⟨W6, hW6⟩ : ∃ W6, W5.alloc (.cells #[.slice o1 n1 c1, .slice o2 n2 c2, .int .i64 s1, .int .i64 s2] 40) = W6 := ⟨_, rfl⟩
          have hb6 : Below W5.heap.size W5 W6 := by rw [← hW6]; exact bel1 _ _
          have f6 : W6.heap[W5.heap.size]? = some (.cells #[.slice o1 n1 c1, .slice o2 n2 c2, .int .i64 s1, .int .i64 s2] 40 (0, 0)) := by rw [← hW6]; exact heap_alloc_new _ _
          have hr6 := hrp W6 hb6
          have h8 := hk.bl hb6 _ _ _ HBX.out.b8 (by decide) HBX.out.n1 HBX.out.n2
          rw [HCS.out] at h8
          obtain ⟨_, _, b5, b6, b7⟩ := cells8 h8
          have F6 : Aside _ := f6
          clear hk hb6 f6 h8 hrp
          go_wp2_with fail
          refine hr6.mono ?_
          rintro e W7 ⟨p1, m1, d1, p2, m2, d2, rfl, hk, hkk, hrs⟩
          clear hr6 b5 b6 b7 hW6
          obtain ⟨W8, hW8⟩ : ∃ W8, W7.alloc (.cells #[.slice p1 m1 d1, .slice p2 m2 d2, .int .i64 s1, .int .i64 s2] 45) = W8 := ⟨_, rfl⟩
          have hb8 : Below W7.heap.size W7 W8 := by rw [← hW8]; exact bel1 _ _
          have f8 : W8.heap[W7.heap.size]? = some (.cells #[.slice p1 m1 d1, .slice p2 m2 d2, .int .i64 s1, .int .i64 s2] 45 (0, 0)) := by rw [← hW8]; exact heap_alloc_new _ _
          have f7 := hkk _ _ (Nat.le_refl _) F6.out
          have f9 := (hb8.block _ (Array.getElem?_eq_some_iff.1 f7).1).trans f7
          obtain ⟨x0, x1, x2, x3⟩ := cells4 f9
          obtain ⟨y0, y1, y2, y3⟩ := cells4 f8
          have hr8 := hrs W8 hb8
          clear hk hkk hrs F6 f7 f8 f9 hb8
          generalize W5.heap.size = C1 at *
          go_wp2_with fail
          refine hr8.mono ?_
          rintro e W9 ⟨rfl, hk9, hP⟩
          have HQ9 : Aside _ := HLQ.out W9 hk9 hP
          clear hr8 hP hk9 x0 x1 x2 x3 y0 y1 y2 y3 hW8 HLQ HBX
          go_wp2_with fail
          go_loopg [14] SN (fun kx s14 wr => ∃ (k : Nat), s14 = .int .i64 (k : Int) ∧ k ≤ SN ∧ SN - k ≤ kx ∧ Aside (Lq w A.b B.b (i + 1) B8 ⟨1, pn, pa, pz, pe, sl, S, sc, t, lt⟩ g off c' wr))
          case atStart => exact ⟨0, rfl, by omega, by omega, HQ9.out⟩
          case round =>
            clear HQ9
            obtain ⟨k, rfl, hk, hgk2, HO⟩ := hrel
            by_cases hkt : k < SN
            · have hkP : k < S.length := by rw [HSN.out]; exact hkt
              obtain ⟨ga, oa, hga, u0, u1, _⟩ := Rw.span HO.out.row hkP
              injection hga with hga
              injection hga with hg1 hg2
              subst hg1 hg2
              obtain ⟨gb, ob, hgb, v0, v1⟩ := HO.out.sr k hkP
              have h8 := HO.out.b8
              rw [HCS.out] at h8
              obtain ⟨_, _, b5, _, _⟩ := cells8 h8
              have HO2 : Aside _ := HO.out.bl (Below.refl _ _).drew
              have hne := fun w => neq50 S[k].1 S[k].2 w
              simp only at hgb v0 v1 u0 u1
              generalize S[k].1 = fx at *
              generalize S[k].2 = lx at *
              subst hgb
              have j0 : (k : Int) < SN := by omega
              have jw : IntKind.i64.wrap ((k : Int) + 1) = (k : Int) + 1 := wrp _ (by omega) (by omega)
              have S3 : Aside (wr.drew.cell? ⟨g, off + k * 2, none⟩ = some (.int .i64 fx) ∧ wr.drew.cell? ⟨g, off + k * 2 + 1, none⟩ = some (.int .i64 lx) ∧ wr.drew.cell? ⟨B8, 5, none⟩ = some (.slice (some ⟨gb, ob, none⟩) SN sc) ∧ wr.drew.cell? ⟨gb, ob + k * 2, none⟩ = some (.int .i64 fx) ∧ wr.drew.cell? ⟨gb, ob + k * 2 + 1, none⟩ = some (.int .i64 lx)) := ⟨u0, u1, b5, v0, v1⟩
              clear HO h8 b5 u0 u1 v0 v1
              go_wp2_with fail
              go_region_held3 (fun X => X.cell? ⟨g, off + k * 2, none⟩ = some (.int .i64 fx) ∧ X.cell? ⟨g, off + k * 2 + 1, none⟩ = some (.int .i64 lx) ∧ X.cell? ⟨B8, 5, none⟩ = some (.slice (some ⟨gb, ob, none⟩) SN sc) ∧ X.cell? ⟨gb, ob + k * 2, none⟩ = some (.int .i64 fx) ∧ X.cell? ⟨gb, ob + k * 2 + 1, none⟩ = some (.int .i64 lx)) (exact S3.out) (fail)
              go_wp2
              go_roundg (SN - (k + 1))
              case measure => omega
              case rel => exact ⟨k + 1, rfl, by omega, Nat.le_refl _, HO2.out⟩
            · obtain rfl : k = SN := by omega
              have j0 : ¬ (k : Int) < k := by omega
              have HP : Aside (Ps w A.b B.b (i + 1) wr) := HO.out.p
              clear HO
              go_wp2_with fail
              go_meet
              exact HP
        by_cases hk2 : k = 2
        · skip
          subst hk2
          obtain ⟨_, _, _, b6, b7⟩ := cells8 B8F.out
          have hac := HB.out.passed (by omega) t lt
          generalize wrg L t lt true = x at *
          go_wp2_with fail
          refine hac.mono ?_
          rintro e W5 ⟨o1, n1, c1, o2, n2, c2, s1, s2, rfl, hk, hrp⟩
          clear hac b0 b6 b7
          obtain ⟨W6, hW6⟩ : ∃ W6, W5.alloc (.cells #[.slice o1 n1 c1, .slice o2 n2 c2, .int .i64 s1, .int .i64 s2] 40) = W6 := ⟨_, rfl⟩
          have hb6 : Below W5.heap.size W5 W6 := by rw [← hW6]; exact bel1 _ _
          have f6 : W6.heap[W5.heap.size]? = some (.cells #[.slice o1 n1 c1, .slice o2 n2 c2, .int .i64 s1, .int .i64 s2] 40 (0, 0)) := by rw [← hW6]; exact heap_alloc_new _ _
          have hr6 := hrp W6 hb6
          have h8 := hk.bl hb6 _ _ _ HB.out.b8 (by decide) HB.out.n1 HB.out.n2
          rw [HCS.out] at h8
          obtain ⟨_, _, _, b6, b7⟩ := cells8 h8
          have F6 : Aside _ := f6
          clear hk hb6 f6 h8 hrp
          go_wp2_with fail
          refine hr6.mono ?_
          rintro e W7 ⟨p1, m1, d1, p2, m2, d2, rfl, hk, hkk, hrs⟩
          clear hr6 b6 b7 hW6
          obtain ⟨W8, hW8⟩ : ∃ W8, W7.alloc (.cells #[.slice p1 m1 d1, .slice p2 m2 d2, .int .i64 s1, .int .i64 s2] 45) = W8 := ⟨_, rfl⟩
          have hb8 : Below W7.heap.size W7 W8 := by rw [← hW8]; exact bel1 _ _
          have f8 : W8.heap[W7.heap.size]? = some (.cells #[.slice p1 m1 d1, .slice p2 m2 d2, .int .i64 s1, .int .i64 s2] 45 (0, 0)) := by rw [← hW8]; exact heap_alloc_new _ _
          have f7 := hkk _ _ (Nat.le_refl _) F6.out
          have f9 := (hb8.block _ (Array.getElem?_eq_some_iff.1 f7).1).trans f7
          obtain ⟨x0, x1, x2, x3⟩ := cells4 f9
          obtain ⟨y0, y1, y2, y3⟩ := cells4 f8
          have hr8 := hrs W8 hb8
          clear hk hkk hrs F6 f7 f8 f9 hb8
          generalize W5.heap.size = C1 at *
          go_wp2_with fail
          refine hr8.mono ?_
          rintro e W9 ⟨rfl, _, hP⟩
          have HP : Aside (Ps w A.b B.b (i + 1) W9) := hP
          clear hr8 hP x0 x1 x2 x3 y0 y1 y2 y3 hW8
          go_wp2_with fail
          go_meet
          exact HP
        by_cases hk3 : k = 3
        · subst hk3
          have hcl := HB.out.clear (by omega)
          go_wp2_with fail
          refine hcl.mono ?_
          rintro e W5 ⟨o1, n1, c1, rfl, hcl2⟩
          clear hcl b0
          go_wp2_with fail
          refine hcl2.mono ?_
          rintro e W6 ⟨p1, m1, d1, rfl, hcl3⟩
          clear hcl2
          go_wp2_with fail
          refine hcl3.mono ?_
          rintro e W7 ⟨rfl, hP⟩
          have HP : Aside (Ps w A.b B.b (i + 1) W7) := hP
          clear hcl3 hP
          go_wp2_with fail
          go_meet
          exact HP
        · have HP : Aside (Ps w A.b B.b (i + 1) W3) := Ps.up HB.out.s HB.out.j rfl rfl
          go_wp2_with fail
          go_meet
          exact HP
      case rest =>
      have HC : Aside (Ps w A.b B.b (i + 1) wc) := hcut
      clear hcut HB B8F HCS
      obtain ⟨z, kk, d, tt, y, hlk⟩ := HC.out.look (by omega) late
      clear HC
      go_wp2_with fail
      refine hlk.mono ?_
      rintro e V1 ⟨rfl, hlk2⟩
      clear hlk
      go_wp2_with fail
      refine hlk2.mono ?_
      rintro e V2 ⟨rfl, hlk3⟩
      clear hlk2
      go_wp2_with fail
      refine hlk3.mono ?_
      rintro e V3 ⟨rfl, hlk4⟩
      clear hlk3
      go_wp2_with fail
      refine hlk4.mono ?_
      rintro e V4 ⟨rfl, hP⟩
      have HP : Aside (Ps w A.b B.b (i + 1) V4) := hP
      clear hlk4 hP
      cases y <;> {
        go_wp2
        go_roundg (N - (i + 1))
        case measure => omega
        case rel => exact ⟨i + 1, rfl, by omega, Nat.le_refl _, HP.out⟩ }
    · obtain rfl : i = N := by omega
      have i0 : ¬ (i : Int) < i := by omega
      have HF2 : Aside _ := HR.out wr (by obtain ⟨_, _, _, _, _, _, h, _⟩ := HS.out; exact h.bel)
      clear HS
      go_wp2
      exact HF2.out
end Go.Proofs.Ytkjcapmhjhnckaa
