/- SeenOnce: the walk of the law. -/
import Derived.Test.YtlobnlkpbenngaaOnL
import Derived.Deep.LoopGhost
import Derived.LoopTactic
import Derived.Deep.QuietTactic
import Derived.BigQuiet
namespace Go.Proofs.YtlobnlkpbenngaaR
open Go.RowKit Go.Shelf Go.Lib
set_option linter.unusedVariables false

theorem bt1 {P Q R : Prop} (h : P) (k : Q ↔ P ∨ R) : true = true ↔ Q := ⟨fun _ => k.2 (.inl h), fun _ => rfl⟩
theorem bt2 {P Q R : Prop} (k : Q ↔ P ∨ R) (h : R) : true = true ↔ Q := ⟨fun _ => k.2 (.inr h), fun _ => rfl⟩
theorem bt3 {P Q R : Prop} (h : ¬ P) (k : Q ↔ P ∨ R) (hr : ¬ R) : false = true ↔ Q := ⟨fun e => (by cases e), fun q => (k.1 q).elim (fun p => absurd p h) (fun r => absurd r hr)⟩
theorem bne {P : Prop} {b bb : Bool} (h : b = true ↔ ¬ P) (k : bb = true ↔ P) : bb = !b := by
  cases b <;> cases bb
  · exact absurd (h.2 (fun p => by have := k.2 p; cases this)) (by decide)
  · rfl
  · rfl
  · exact absurd (k.1 rfl) (h.1 rfl)
/-- A row of ints that has turned is none of the Seen's blocks. -/
theorem OnS.row {w : World} {s M : Nat} {C C' : List Int} {t : Int} {wr w3 : World} {o : Option Addr} {cc : Nat} (h : OnS w s M C t wr) (hI : Ir w.heap.size wr o cc C') (hc : Chg (fun k => o = some ⟨k, 0, none⟩) wr w3) : OnS w s M C t w3 := by
  obtain ⟨G, c, v, Q, h1, h2, h3, h4, h5, h6, h7, h8, h9, h10, h11, h12, h13, h14⟩ := h
  have hrow : ∀ k, o = some ⟨k, 0, none⟩ → (∃ Y, wr.heap[k]? = some (.cells Y 3 (0, 0))) ∧ w.heap.size ≤ k := by
    intro k hk
    rcases hI with ⟨e, _⟩ | ⟨g, R, e, hA, _, hg⟩
    · rw [e] at hk; cases hk
    · rw [e] at hk
      obtain rfl : g = k := by simpa using hk
      exact ⟨⟨_, hA⟩, hg⟩
  have nt : ∀ k Y ty, wr.heap[k]? = some (.cells Y ty (0, 0)) → ty ≠ 3 → ¬ (o = some ⟨k, 0, none⟩) := by
    intro k Y ty hk hne hx
    obtain ⟨⟨Z, hZ⟩, _⟩ := hrow k hx
    rw [hZ] at hk
    cases hk
    exact hne rfl
  have h1' : wr.heap[s]? = some (.cells (v.cs M) 43 (0, 0)) := h1
  obtain ⟨R, hA, hR⟩ := h2.row
  refine ⟨G, c, v, Q, (hc.2.2.2.2 s h1.lt (nt s _ 43 h1' (by decide))).trans h1, h2.chg hc (nt M _ 76 h2.head (by decide)) (nt G _ 73 hA (by decide)) (fun a ha => ?_), h3, h4, h5, h6, h7, h8, h9, h10, h11, h12, h13, h14.trans ⟨hc.1, hc.2.1, hc.2.2.1, hc.2.2.2.1, fun k hk => hc.2.2.2.2 k (Nat.lt_of_lt_of_le hk h14.size) (fun hx => by have := (hrow k hx).2; omega)⟩⟩
  obtain ⟨⟨Y, hY⟩, hr⟩ := (h2.sets a ha).row
  refine ⟨nt a.T _ 84 hY (by decide), fun g hg => ?_⟩
  obtain ⟨Z, hZ⟩ := hr g hg
  exact nt g _ 53 hZ (by decide)
theorem OnS_new {w w1 : World} {s M G T : Nat} (hs : Sc w1 s M ⟨25, -1, -1, 0, 0, -1⟩) (hu : Nu w.heap.size w1 M G 1 [⟨0, T, none, []⟩]) (hb : Below w.heap.size w w1) (hs0 : w.heap.size ≤ s) : OnS w s M [] 0 w1 :=
  ⟨G, 1, _, _, hs, hu, fine_one rfl Ok_nil (by simp), fun m => by rw [InQ'_one]; simp [In_nil], by rw [wt_one]; simp, fun _ => ⟨_, rfl, rfl, by simp⟩, rfl, rfl, Int.le_refl _, by decide, by decide, fun x hx => (by cases hx), hs0, hb⟩

set_option maxRecDepth 100000 in
set_option maxHeartbeats 8000000 in
theorem once_walk (la : Option Addr) (n c : Nat) (Z : Nat → Int) (fg : Int) (w : World) (hZ : ∀ i, i < n → ∃ ad, la = some ad ∧ w.cell? (ad.add i) = some (.int .i64 (Z i))) (hn : n ≤ 17592186043904) :
    Calls Try.prog 5 #[.slice la n c, .int .i64 fg] w fun e w' => e = .returned (.bool true) ∧ Below w.heap.size w w' := by
  have HZ : Aside _ := hZ
  clear hZ
  go_enter Try.func5, Try.ntmps5
  go_wp2_with fail
  refine (new_sc w.heap.size 25 w (Nat.le_refl _) (by decide) (by decide)).mono ?_
  rintro e w1 ⟨s, M, G, T, rfl, hs, hu, hb, hs0⟩
  have HI : Aside (OnS w s M [] 0 w1 ∧ Ir w.heap.size w1 none 0 []) := ⟨OnS_new hs hu hb hs0, .inl ⟨rfl, rfl, rfl⟩⟩
  clear hs hu hb hs0
  go_wp2
  go_loopg [7, 8] n (fun kx s7 s8 wr => ∃ (i : Nat) (C : List Int) (o : Option Addr) (cc K : Nat), s8 = .int .i64 (i : Int) ∧ s7 = .slice o K cc ∧ i ≤ n ∧ n - i ≤ kx ∧ K ≤ i ∧ Aside (C.length = K) ∧ Aside (OnS w s M C i wr ∧ Ir w.heap.size wr o cc C))
  case atStart => exact ⟨0, [], none, 0, 0, rfl, rfl, Nat.zero_le _, by omega, Nat.zero_le _, rfl, HI.out⟩
  case round =>
    obtain ⟨i, C, o, cc, K, rfl, rfl, hin, hkx, hKi, HK, HR⟩ := hrel
    clear HI
    by_cases hlt : i < n
    · obtain ⟨ad, hla, hcz⟩ := HZ.out i hlt
      subst hla
      obtain ⟨hOn, hIr⟩ := HR.out
      have hbw := hOn.bel
      have czr : wr.cell? (ad.add i) = some (.int .i64 (Z i)) := (hbw.cell (World.block_lt_of_cell? _ _ hcz)).trans hcz
      obtain ⟨x, hx⟩ : ∃ x, Z i = x := ⟨_, rfl⟩
      rw [hx] at czr
      by_cases hval : 0 ≤ x ∧ x ≤ 4611686018427387903
      · obtain ⟨hx0, hx1⟩ := hval
        have htk := take_on w s M C i x wr hOn (by rw [HK.out]; omega) (by omega) (by omega) hx0 hx1
        clear hOn hIr hbw hx
        go_wp2_with fail
        refine htk.mono ?_
        rintro e w2 ⟨b, rfl, hbx, hOn2, hks⟩
        have hbw2 := hOn2.bel
        have cz2 : w2.cell? (ad.add i) = some (.int .i64 x) := by
          have e1 := (HR.out.1.bel.cell (World.block_lt_of_cell? _ _ hcz)).trans hcz
          have e2 := (hbw2.cell (World.block_lt_of_cell? _ _ hcz)).trans hcz
          rw [e2, ← e1]; exact czr
        obtain ⟨v0, hsc⟩ := HR.out.1.sc
        have hIr2 : Ir w.heap.size w2 o cc C := HR.out.2.ks hks hsc
        have HB : Aside _ := hbx
        have HO2 : Aside _ := hOn2
        have HI2 : Aside _ := hIr2
        have HR1 : Aside _ := HR.out
        clear htk hbx hOn2 hks hbw2 hIr2 hsc czr HR HR1
        go_wp2
        go_loopg [11, 12] K (fun kx s11 s12 wx => ∃ (k : Nat) (bb : Bool), s12 = .int .i64 (k : Int) ∧ s11 = .bool bb ∧ k ≤ K ∧ K - k ≤ kx ∧ Aside (bb = true ↔ x ∈ C.take k) ∧ Aside (Below w2.heap.size w2 wx))
        case atStart => exact ⟨0, false, rfl, rfl, Nat.zero_le _, by omega, by show false = true ↔ _; simp, Below.refl _ _⟩
        case round =>
          obtain ⟨k, bb, rfl, rfl, hk, hkk, HBB, HBE⟩ := hrel
          have czk : wr.cell? (ad.add i) = some (.int .i64 x) := (HBE.out.cell (World.block_lt_of_cell? _ _ cz2)).trans cz2
          have hIk := Ir.below HI2.out HBE.out
          by_cases hkK : k < K
          · have hkC : k < C.length := by rw [HK.out]; exact hkK
            obtain ⟨g, rfl, hck⟩ := hIk.cell k hkC
            have hts : C.take (k + 1) = C.take k ++ [C[k]] := List.take_succ_eq_append_getElem hkC
            have HTS : Aside (x ∈ C.take (k + 1) ↔ x ∈ C.take k ∨ x = C[k]) := by rw [hts, List.mem_append, List.mem_singleton]; exact Iff.rfl
            obtain ⟨y, hy⟩ : ∃ y, C[k] = y := ⟨_, rfl⟩
            rw [hy] at hck HTS
            clear hts hy hIk
            cases bb with
            | true =>
              have HP : Aside _ := HBB.out.1 rfl
              clear HBB
              go_wp2
              go_quiet (fail)
              go_wp2
              go_roundg (K - (k + 1))
              case measure => omega
              case rel => exact ⟨k + 1, true, by simp, rfl, by omega, Nat.le_refl _, bt1 HP.out HTS.out, HBE.out.trans ⟨rfl, rfl, rfl, Nat.le_refl _, fun _ _ => rfl⟩⟩
            | false =>
              have HNP : Aside (¬ x ∈ C.take k) := fun hp => by have := HBB.out.2 hp; cases this
              clear HBB
              by_cases hyx : y = x
              · have hq1 : (y == x) = true := by simpa using hyx
                have hq2 : decide (y = x) = true := by simpa using hyx
                have HYX : Aside _ := hyx
                clear hyx
                go_wp2
                go_quiet (fail)
                go_wp2
                go_roundg (K - (k + 1))
                case measure => omega
                case rel => exact ⟨k + 1, true, by simp, rfl, by omega, Nat.le_refl _, bt2 HTS.out HYX.out.symm, HBE.out.trans ⟨rfl, rfl, rfl, Nat.le_refl _, fun _ _ => rfl⟩⟩
              · have hq1 : (y == x) = false := by simpa using hyx
                have hq2 : decide (y = x) = false := by simpa using hyx
                have HYX : Aside _ := hyx
                clear hyx
                go_wp2
                go_quiet (fail)
                go_wp2
                go_roundg (K - (k + 1))
                case measure => omega
                case rel => exact ⟨k + 1, false, by simp, rfl, by omega, Nat.le_refl _, bt3 HNP.out HTS.out (fun e => HYX.out e.symm), HBE.out.trans ⟨rfl, rfl, rfl, Nat.le_refl _, fun _ _ => rfl⟩⟩
          · obtain rfl : k = K := by omega
            have hbb : bb = true ↔ x ∈ C := by
              have := HBB.out
              rwa [List.take_of_length_le (by rw [HK.out]; omega)] at this
            have hbne : bb = !b := bne HB.out hbb
            subst hbne
            have hOk := OnS.below HO2.out HBE.out
            obtain ⟨g, c', w3, hrun, hIr3, hch⟩ := Ir.push hIk hOk.bel.size x (by rw [HK.out]; omega)
            rw [HK.out] at hrun
            have HOn3 : Aside (OnS w s M (C ++ [x]) i w3 ∧ Ir w.heap.size w3 (some ⟨g, 0, none⟩) c' (C ++ [x])) := ⟨OnS.row hOk hIk hch, hIr3⟩
            have HK1 : Aside ((C ++ [x]).length = k + 1) := by show (C ++ [x]).length = k + 1; rw [List.length_append, HK.out]; rfl
            clear hOk hIr3 hch hIk hbb
            cases b with
            | true =>
              go_wp2_with (at_builtin; refine Lib.wpList_append_run _ rfl _ _ _ _ rfl _ _ rfl rfl _ _ (hrun _) ?_)
              go_roundg (n - (i + 1))
              case measure => omega
              case rel => exact ⟨i + 1, C ++ [x], some ⟨g, 0, none⟩, c', k + 1, by simp, rfl, by omega, Nat.le_refl _, by omega, HK1.out, OnS.later HOn3.out.1 (by omega), HOn3.out.2⟩
            | false =>
              go_wp2_with (at_builtin; refine Lib.wpList_append_run _ rfl _ _ _ _ rfl _ _ rfl rfl _ _ (hrun _) ?_)
              go_roundg (n - (i + 1))
              case measure => omega
              case rel => exact ⟨i + 1, C ++ [x], some ⟨g, 0, none⟩, c', k + 1, by simp, rfl, by omega, Nat.le_refl _, by omega, HK1.out, OnS.later HOn3.out.1 (by omega), HOn3.out.2⟩
      · have hbad : x < 0 ∨ 4611686018427387903 < x := by omega
        obtain ⟨v0, hsc⟩ := hOn.sc
        have htk := take_bad s M v0 x i true wr hsc hbad
        clear hOn hIr hbw hx hsc
        by_cases hx0 : x < 0
        · have hq : ¬ (0 : Int) ≤ x := by omega
          clear hval hbad
          go_wp2_with fail
          refine htk.mono ?_
          rintro e w2 ⟨rfl, hw⟩
          subst w2
          go_wp2
          go_roundg (n - (i + 1))
          case measure => omega
          case rel => exact ⟨i + 1, C, o, cc, K, by simp, rfl, by omega, Nat.le_refl _, by omega, HK.out, OnS.later HR.out.1 (by omega), HR.out.2⟩
        · have hq : (0 : Int) ≤ x := by omega
          have hq2 : ¬ x ≤ 4611686018427387903 := by omega
          clear hval hbad
          go_wp2_with fail
          refine htk.mono ?_
          rintro e w2 ⟨rfl, hw⟩
          subst w2
          go_wp2
          go_roundg (n - (i + 1))
          case measure => omega
          case rel => exact ⟨i + 1, C, o, cc, K, by simp, rfl, by omega, Nat.le_refl _, by omega, HK.out, OnS.later HR.out.1 (by omega), HR.out.2⟩
    · obtain rfl : i = n := by omega
      by_cases hKb : 1000 < K
      · have hgt : (1000 : Int) < (K : Int) := by omega
        have HBE : Aside _ := HR.out.1.bel
        go_wp2
        go_ret
        exact ⟨rfl, HBE.out⟩
      · have hgt : ¬ (1000 : Int) < (K : Int) := by omega
        have hfo := forget_on w s M C i fg wr HR.out.1 (by rw [HK.out]; omega) (by omega)
        have HCR : Aside (∀ x ∈ C, 0 ≤ x ∧ x ≤ 4611686018427387903) := by
          obtain ⟨G, c, v, Q, h1, h2, h3, h4, h5, h6, h7, h8, h9, h10, h11, h12, h13, h14⟩ := HR.out.1
          exact h12
        go_wp2_with fail
        refine hfo.mono ?_
        rintro e w2 ⟨r, fe, L, rfl, hr, hLf, hF2, hks⟩
        obtain ⟨v0, hsc⟩ := HR.out.1.sc
        have hI2 : Ir w.heap.size w2 o cc C := HR.out.2.ks hks hsc
        have hLK : L.length ≤ K := by rw [← HK.out]; exact hLf.len
        have hLl : L.length ≤ 1000 := by omega
        have HLF : Aside _ := hLf
        clear hks hsc hfo hLf HR
        rcases hr with ⟨rfl, hfe⟩ | ⟨rfl, hfe⟩
        · subst hfe
          have hakk := acks_on w s M fe L w2 hF2 hLl
          have HF2 : Aside _ := hF2
          have HI2 : Aside _ := hI2
          clear hF2 hI2
          go_wp2_with fail
          refine hakk.mono ?_
          rintro e w3 ⟨oc, cl, rfl, hRs, hF3, hb3⟩
          have HS3 : Aside (Fs w s M fe L w3 ∧ Ir w.heap.size w3 o cc C ∧ Rs w3 oc cl L.reverse) := ⟨hF3, Ir.below HI2.out hb3, hRs⟩
          have hDl : L.reverse.length = L.length := List.length_reverse
          obtain ⟨N, hN⟩ : ∃ N, L.length = N := ⟨_, rfl⟩
          rw [hN]
          rw [hN] at hDl hLl hLK
          have HDL : Aside _ := hDl
          have HN : Aside _ := hN
          clear hRs hF3 hb3 hakk HF2 HI2 hDl hN
          go_wp2
          go_loopg [14] K (fun kx s14 wr => ∃ j : Nat, s14 = .int .i64 (j : Int) ∧ j ≤ K ∧ K - j ≤ kx ∧ Aside (Fs w s M fe L wr ∧ Ir w.heap.size wr o cc C ∧ Rs wr oc cl L.reverse))
          case atStart => exact ⟨0, rfl, Nat.zero_le _, by omega, HS3.out⟩
          case round =>
            obtain ⟨j, rfl, hj, hjk, HS⟩ := hrel
            clear HS3
            by_cases hjK : j < K
            · have hjC : j < C.length := by rw [HK.out]; exact hjK
              have hxC : C[j] ∈ C := List.getElem_mem hjC
              have hxr := HCR.out _ hxC
              obtain ⟨gi, hgi, hcj⟩ := HS.out.2.1.cell j hjC
              subst hgi
              obtain ⟨x, hx⟩ : ∃ x, C[j] = x := ⟨_, rfl⟩
              rw [hx] at hxC hxr hcj
              have HXC : Aside _ := hxC
              clear hx hxC
              go_wp2
              go_loopg [15, 16] N (fun kx s15 s16 wx => ∃ (k : Nat) (bb : Bool), s16 = .int .i64 (k : Int) ∧ s15 = .bool bb ∧ k ≤ N ∧ N - k ≤ kx ∧ Aside (bb = true ↔ In x (L.reverse.take k)) ∧ Aside (Below wr.heap.size wr wx))
              case atStart => exact ⟨0, false, rfl, rfl, Nat.zero_le _, by omega, by show false = true ↔ _; simp [In_nil], Below.refl _ _⟩
              case round =>
                obtain ⟨k, bb, rfl, rfl, hk, hkk, HBB, HBE⟩ := hrel
                have hck : wr.cell? ⟨gi, j, none⟩ = some (.int .i64 x) := (HBE.out.cell (World.block_lt_of_cell? _ _ hcj)).trans hcj
                have hRk := Rs.below HS.out.2.2 HBE.out (Nat.le_refl _)
                by_cases hkN : k < N
                · have hkD : k < L.reverse.length := by rw [HDL.out]; exact hkN
                  obtain ⟨gs, hgs, c1, c2⟩ := hRk.cells k hkD
                  subst hgs
                  have HTS : Aside _ := In_take_succ x k hkD
                  obtain ⟨p1, p2, hp⟩ : ∃ p1 p2, L.reverse[k] = (p1, p2) := ⟨_, _, rfl⟩
                  rw [hp] at c1 c2 HTS
                  clear hp hRk
                  cases bb with
                  | true =>
                    have HP : Aside _ := HBB.out.1 rfl
                    clear HBB
                    go_wp2
                    go_quiet (fail)
                    go_wp2
                    go_roundg (N - (k + 1))
                    case measure => omega
                    case rel => exact ⟨k + 1, true, by simp, rfl, by omega, Nat.le_refl _, bt1 HP.out HTS.out, HBE.out.trans ⟨rfl, rfl, rfl, Nat.le_refl _, fun _ _ => rfl⟩⟩
                  | false =>
                    have HNP : Aside (¬ In x (L.reverse.take k)) := fun hp => by have := HBB.out.2 hp; cases this
                    clear HBB
                    by_cases hx1 : x < p1
                    · have hq : ¬ p1 ≤ x := by omega
                      have hd1 : decide (p1 ≤ x) = false := by simpa using hq
                      have HQ : Aside _ := hq
                      go_wp2
                      go_quiet (fail)
                      go_wp2
                      go_roundg (N - (k + 1))
                      case measure => omega
                      case rel => exact ⟨k + 1, false, by simp, rfl, by omega, Nat.le_refl _, bt3 HNP.out HTS.out (fun e => HQ.out e.1), HBE.out.trans ⟨rfl, rfl, rfl, Nat.le_refl _, fun _ _ => rfl⟩⟩
                    · have hq : p1 ≤ x := by omega
                      by_cases hx2 : p2 < x
                      · have hq2 : ¬ x ≤ p2 := by omega
                        have hd2 : decide (x ≤ p2) = false := by simpa using hq2
                        have HQ : Aside _ := hq2
                        go_wp2
                        go_quiet (fail)
                        go_wp2
                        go_roundg (N - (k + 1))
                        case measure => omega
                        case rel => exact ⟨k + 1, false, by simp, rfl, by omega, Nat.le_refl _, bt3 HNP.out HTS.out (fun e => HQ.out e.2), HBE.out.trans ⟨rfl, rfl, rfl, Nat.le_refl _, fun _ _ => rfl⟩⟩
                      · have hq2 : x ≤ p2 := by omega
                        have HQ : Aside _ := And.intro hq hq2
                        go_wp2
                        go_quiet (fail)
                        go_wp2
                        go_roundg (N - (k + 1))
                        case measure => omega
                        case rel => exact ⟨k + 1, true, by simp, rfl, by omega, Nat.le_refl _, bt2 HTS.out HQ.out, HBE.out.trans ⟨rfl, rfl, rfl, Nat.le_refl _, fun _ _ => rfl⟩⟩
                · obtain rfl : k = N := by omega
                  have hbb : bb = true ↔ fe < x := by
                    have h1 := HBB.out
                    rw [List.take_of_length_le (by rw [HDL.out]; omega), In_rev, HLF.out.mem x] at h1
                    exact ⟨fun h => (h1.1 h).2, fun h => h1.2 ⟨HXC.out, h⟩⟩
                  have hFk := Fs.below HS.out.1 HBE.out
                  have htk := take_end w s M C fe x L wr hFk HLF.out (by rw [HN.out]; omega) HXC.out hxr.1 hxr.2
                  obtain ⟨v1, hsc1⟩ := hFk.sc
                  have HIK : Aside _ := Ir.below HS.out.2.1 HBE.out
                  have HRK : Aside _ := hRk
                  have HSC : Aside _ := hsc1
                  clear hRk hFk hsc1
                  by_cases hfx : fe < x
                  · obtain rfl : bb = true := hbb.2 hfx
                    clear hbb HBB
                    go_wp2_with fail
                    refine htk.mono ?_
                    rintro e w4 ⟨rfl, hF4, hc4⟩
                    have HP : Aside (Fs w s M fe L w4 ∧ Ir w.heap.size w4 (some ⟨gi, 0, none⟩) cc C ∧ Rs w4 oc cl L.reverse) := ⟨hF4, Ir.tk HIK.out HSC.out hc4, Rs.tk HRK.out HSC.out hc4⟩
                    clear hF4 hc4 htk
                    go_wp2
                    go_roundg (K - (j + 1))
                    case measure => omega
                    case rel => exact ⟨j + 1, by simp, by omega, Nat.le_refl _, HP.out⟩
                  · obtain rfl : bb = false := by
                      cases bb with
                      | false => rfl
                      | true => exact absurd (hbb.1 rfl) hfx
                    clear hbb HBB
                    have hfx2 : ¬ fe < x := hfx
                    go_wp2_with fail
                    refine htk.mono ?_
                    rintro e w4 ⟨rfl, hF4, hc4⟩
                    have HP : Aside (Fs w s M fe L w4 ∧ Ir w.heap.size w4 (some ⟨gi, 0, none⟩) cc C ∧ Rs w4 oc cl L.reverse) := ⟨hF4, Ir.tk HIK.out HSC.out hc4, Rs.tk HRK.out HSC.out hc4⟩
                    clear hF4 hc4 htk
                    go_wp2
                    go_roundg (K - (j + 1))
                    case measure => omega
                    case rel => exact ⟨j + 1, by simp, by omega, Nat.le_refl _, HP.out⟩
            · obtain rfl : j = K := by omega
              obtain ⟨hF9, hI9, hR9⟩ := HS.out
              have HB9 : Aside _ := hF9.bel
              have HR9 : Aside _ := hR9
              have hdl := HDL.out
              have hOL := HLF.out.ok
              have hpp : ∀ p ∈ L.reverse, p.1 ≤ p.2 := fun p hp => (hOL.2 p (List.mem_reverse.1 hp)).2.1
              have htot : total L.reverse ≤ (j : Int) := by rw [total_rev, ← HK.out]; exact HLF.out.tot
              have HTOT : Aside _ := htot
              have HPP : Aside _ := hpp
              have HOL : Aside _ := hOL
              clear hF9 hI9 hR9 hdl hOL hpp htot HS
              go_wp2
              go_loopg [19, 20] N (fun kx s19 s20 wx => ∃ (k : Nat) (T : Int), s20 = .int .i64 (k : Int) ∧ s19 = .int .i64 T ∧ k ≤ N ∧ N - k ≤ kx ∧ 0 ≤ T ∧ T ≤ j ∧ Aside (T = total (L.reverse.take k)) ∧ Aside (Below wr.heap.size wr wx))
              case atStart => exact ⟨0, 0, rfl, rfl, Nat.zero_le _, by omega, by omega, by omega, by show (0 : Int) = _; simp [total], Below.refl _ _⟩
              case round =>
                obtain ⟨k, T, rfl, rfl, hk, hkk, hT0, hT1, HT, HBE⟩ := hrel
                have hRk := Rs.below HR9.out HBE.out (Nat.le_refl _)
                by_cases hkN : k < N
                · have hkD : k < L.reverse.length := by rw [HDL.out]; exact hkN
                  obtain ⟨gs, hgs, c1, c2⟩ := hRk.cells k hkD
                  subst hgs
                  have hok := rev_ok HOL.out k hkD
                  have htk1 := total_take k hkD
                  have htk2 := total_take_le HPP.out (k + 1)
                  have HT' : Aside (total (L.reverse.take (k + 1)) = T + ((L.reverse[k]).2 - (L.reverse[k]).1 + 1)) := by rw [HT.out]; exact htk1
                  have htb : T + ((L.reverse[k]).2 - (L.reverse[k]).1 + 1) ≤ j := by have := HT'.out; have := HTOT.out; omega
                  have hprev : 0 < k → ∃ q1 : Int, wr.cell? ⟨gs, (k - 1) * 2, none⟩ = some (.int .i64 q1) ∧ (L.reverse[k]).2 + 2 ≤ q1 ∧ q1 ≤ 4611686018427387903 := by
                    intro h0k
                    obtain ⟨g2, hg2, d1, d2⟩ := hRk.cells (k - 1) (by omega)
                    obtain rfl : gs = g2 := by simpa using hg2
                    have e1 := rev_gap HOL.out (k - 1) (by omega)
                    have e2 := rev_ok HOL.out (k - 1) (by omega)
                    have e3 : L.reverse[k - 1 + 1]'(by omega) = L.reverse[k] := by congr 1; omega
                    rw [e3] at e1
                    exact ⟨_, d1, e1, by omega⟩
                  obtain ⟨p1, p2, hp⟩ : ∃ p1 p2, L.reverse[k] = (p1, p2) := ⟨_, _, rfl⟩
                  rw [hp] at c1 c2 hok HT' htb hprev
                  dsimp only at c1 c2 hok HT' htb hprev
                  obtain ⟨ok1, ok2, ok3⟩ := hok
                  clear hp hRk htk1 htk2
                  have w1 : IntKind.i64.wrap (T + p2) = T + p2 := by rw [IntKind.wrap_i64]; omega
                  have w2' : IntKind.i64.wrap (T + p2 - p1) = T + p2 - p1 := by rw [IntKind.wrap_i64]; omega
                  have w3' : IntKind.i64.wrap (T + p2 - p1 + 1) = T + p2 - p1 + 1 := by rw [IntKind.wrap_i64]; omega
                  have HHT : Aside _ := HT'.out
                  clear HT'
                  rcases Nat.eq_zero_or_pos k with hk0 | hk0
                  · have hz : ¬ (0 : Int) < (k : Int) := by omega
                    have hzd : decide ((0 : Int) < (k : Int)) = false := by rw [decide_eq_false_iff_not]; exact hz
                    have hzn : ¬ 0 < k := by omega
                    have hznd : decide (0 < k) = false := by rw [decide_eq_false_iff_not]; exact hzn
                    have HK0 : Aside _ := hk0
                    clear hk0 hprev
                    go_wp2
                    go_quiet (fail)
                    go_wp2
                    go_quiet (fail)
                    go_wp2
                    go_roundg (N - (k + 1))
                    case measure => omega
                    case rel => exact ⟨k + 1, T + p2 - p1 + 1, by simp, rfl, by omega, Nat.le_refl _, by omega, by omega, by show T + p2 - p1 + 1 = _; rw [HHT.out]; omega, HBE.out.trans ⟨rfl, rfl, rfl, Nat.le_refl _, fun _ _ => rfl⟩⟩
                  · have hz : (0 : Int) < (k : Int) := by omega
                    obtain ⟨q1, d1, d2, d3⟩ := hprev hk0
                    obtain ⟨k', hk'⟩ : ∃ k', k - 1 = k' := ⟨_, rfl⟩
                    rw [hk'] at d1
                    have wk : IntKind.i64.wrap ((k : Int) - 1) = (k' : Int) := by rw [IntKind.wrap_i64]; omega
                    have wk2 : (k : Int) - 1 = (k' : Int) := by omega
                    have wq : IntKind.i64.wrap (q1 - 2) = q1 - 2 := by rw [IntKind.wrap_i64]; omega
                    have hkn' : k' < N := by omega
                    have hgq : ¬ q1 - 2 < p2 := by omega
                    have hgd : decide (q1 - 2 < p2) = false := by simpa using hgq
                    have HK' : Aside _ := hk'
                    clear hprev hk'
                    go_wp2
                    go_quiet (fail)
                    go_wp2
                    go_quiet (fail)
                    go_wp2
                    go_roundg (N - (k + 1))
                    case measure => omega
                    case rel => exact ⟨k + 1, T + p2 - p1 + 1, by simp, rfl, by omega, Nat.le_refl _, by omega, by omega, by show T + p2 - p1 + 1 = _; rw [HHT.out]; omega, HBE.out.trans ⟨rfl, rfl, rfl, Nat.le_refl _, fun _ _ => rfl⟩⟩
                · obtain rfl : k = N := by omega
                  have hTK : T ≤ (j : Int) := hT1
                  have hTd : decide (T ≤ (j : Int)) = true := by simpa using hT1
                  have HBF : Aside _ := Below.trans HB9.out (Below.mono HBE.out (Below.size HB9.out))
                  go_wp2
                  go_ret
                  exact ⟨rfl, HBF.out⟩
        · subst hfe
          have hakk := acks_on w s M (-1) L w2 hF2 hLl
          have HF2 : Aside _ := hF2
          have HI2 : Aside _ := hI2
          clear hF2 hI2
          go_wp2_with fail
          refine hakk.mono ?_
          rintro e w3 ⟨oc, cl, rfl, hRs, hF3, hb3⟩
          have HS3 : Aside (Fs w s M (-1) L w3 ∧ Ir w.heap.size w3 o cc C ∧ Rs w3 oc cl L.reverse) := ⟨hF3, Ir.below HI2.out hb3, hRs⟩
          have hDl : L.reverse.length = L.length := List.length_reverse
          obtain ⟨N, hN⟩ : ∃ N, L.length = N := ⟨_, rfl⟩
          rw [hN]
          rw [hN] at hDl hLl hLK
          have HDL : Aside _ := hDl
          have HN : Aside _ := hN
          clear hRs hF3 hb3 hakk HF2 HI2 hDl hN
          go_wp2
          go_loopg [14] K (fun kx s14 wr => ∃ j : Nat, s14 = .int .i64 (j : Int) ∧ j ≤ K ∧ K - j ≤ kx ∧ Aside (Fs w s M (-1) L wr ∧ Ir w.heap.size wr o cc C ∧ Rs wr oc cl L.reverse))
          case atStart => exact ⟨0, rfl, Nat.zero_le _, by omega, HS3.out⟩
          case round =>
            obtain ⟨j, rfl, hj, hjk, HS⟩ := hrel
            clear HS3
            by_cases hjK : j < K
            · have hjC : j < C.length := by rw [HK.out]; exact hjK
              have hxC : C[j] ∈ C := List.getElem_mem hjC
              have hxr := HCR.out _ hxC
              obtain ⟨gi, hgi, hcj⟩ := HS.out.2.1.cell j hjC
              subst hgi
              obtain ⟨x, hx⟩ : ∃ x, C[j] = x := ⟨_, rfl⟩
              rw [hx] at hxC hxr hcj
              have HXC : Aside _ := hxC
              clear hx hxC
              go_wp2
              go_loopg [15, 16] N (fun kx s15 s16 wx => ∃ (k : Nat) (bb : Bool), s16 = .int .i64 (k : Int) ∧ s15 = .bool bb ∧ k ≤ N ∧ N - k ≤ kx ∧ Aside (bb = true ↔ In x (L.reverse.take k)) ∧ Aside (Below wr.heap.size wr wx))
              case atStart => exact ⟨0, false, rfl, rfl, Nat.zero_le _, by omega, by show false = true ↔ _; simp [In_nil], Below.refl _ _⟩
              case round =>
                obtain ⟨k, bb, rfl, rfl, hk, hkk, HBB, HBE⟩ := hrel
                have hck : wr.cell? ⟨gi, j, none⟩ = some (.int .i64 x) := (HBE.out.cell (World.block_lt_of_cell? _ _ hcj)).trans hcj
                have hRk := Rs.below HS.out.2.2 HBE.out (Nat.le_refl _)
                by_cases hkN : k < N
                · have hkD : k < L.reverse.length := by rw [HDL.out]; exact hkN
                  obtain ⟨gs, hgs, c1, c2⟩ := hRk.cells k hkD
                  subst hgs
                  have HTS : Aside _ := In_take_succ x k hkD
                  obtain ⟨p1, p2, hp⟩ : ∃ p1 p2, L.reverse[k] = (p1, p2) := ⟨_, _, rfl⟩
                  rw [hp] at c1 c2 HTS
                  clear hp hRk
                  cases bb with
                  | true =>
                    have HP : Aside _ := HBB.out.1 rfl
                    clear HBB
                    go_wp2
                    go_quiet (fail)
                    go_wp2
                    go_roundg (N - (k + 1))
                    case measure => omega
                    case rel => exact ⟨k + 1, true, by simp, rfl, by omega, Nat.le_refl _, bt1 HP.out HTS.out, HBE.out.trans ⟨rfl, rfl, rfl, Nat.le_refl _, fun _ _ => rfl⟩⟩
                  | false =>
                    have HNP : Aside (¬ In x (L.reverse.take k)) := fun hp => by have := HBB.out.2 hp; cases this
                    clear HBB
                    by_cases hx1 : x < p1
                    · have hq : ¬ p1 ≤ x := by omega
                      have hd1 : decide (p1 ≤ x) = false := by simpa using hq
                      have HQ : Aside _ := hq
                      go_wp2
                      go_quiet (fail)
                      go_wp2
                      go_roundg (N - (k + 1))
                      case measure => omega
                      case rel => exact ⟨k + 1, false, by simp, rfl, by omega, Nat.le_refl _, bt3 HNP.out HTS.out (fun e => HQ.out e.1), HBE.out.trans ⟨rfl, rfl, rfl, Nat.le_refl _, fun _ _ => rfl⟩⟩
                    · have hq : p1 ≤ x := by omega
                      by_cases hx2 : p2 < x
                      · have hq2 : ¬ x ≤ p2 := by omega
                        have hd2 : decide (x ≤ p2) = false := by simpa using hq2
                        have HQ : Aside _ := hq2
                        go_wp2
                        go_quiet (fail)
                        go_wp2
                        go_roundg (N - (k + 1))
                        case measure => omega
                        case rel => exact ⟨k + 1, false, by simp, rfl, by omega, Nat.le_refl _, bt3 HNP.out HTS.out (fun e => HQ.out e.2), HBE.out.trans ⟨rfl, rfl, rfl, Nat.le_refl _, fun _ _ => rfl⟩⟩
                      · have hq2 : x ≤ p2 := by omega
                        have HQ : Aside _ := And.intro hq hq2
                        go_wp2
                        go_quiet (fail)
                        go_wp2
                        go_roundg (N - (k + 1))
                        case measure => omega
                        case rel => exact ⟨k + 1, true, by simp, rfl, by omega, Nat.le_refl _, bt2 HTS.out HQ.out, HBE.out.trans ⟨rfl, rfl, rfl, Nat.le_refl _, fun _ _ => rfl⟩⟩
                · obtain rfl : k = N := by omega
                  have hbb : bb = true ↔ (-1) < x := by
                    have h1 := HBB.out
                    rw [List.take_of_length_le (by rw [HDL.out]; omega), In_rev, HLF.out.mem x] at h1
                    exact ⟨fun h => (h1.1 h).2, fun h => h1.2 ⟨HXC.out, h⟩⟩
                  have hFk := Fs.below HS.out.1 HBE.out
                  have htk := take_end w s M C (-1) x L wr hFk HLF.out (by rw [HN.out]; omega) HXC.out hxr.1 hxr.2
                  obtain ⟨v1, hsc1⟩ := hFk.sc
                  have HIK : Aside _ := Ir.below HS.out.2.1 HBE.out
                  have HRK : Aside _ := hRk
                  have HSC : Aside _ := hsc1
                  clear hRk hFk hsc1
                  by_cases hfx : (-1) < x
                  · obtain rfl : bb = true := hbb.2 hfx
                    clear hbb HBB
                    go_wp2_with fail
                    refine htk.mono ?_
                    rintro e w4 ⟨rfl, hF4, hc4⟩
                    have HP : Aside (Fs w s M (-1) L w4 ∧ Ir w.heap.size w4 (some ⟨gi, 0, none⟩) cc C ∧ Rs w4 oc cl L.reverse) := ⟨hF4, Ir.tk HIK.out HSC.out hc4, Rs.tk HRK.out HSC.out hc4⟩
                    clear hF4 hc4 htk
                    go_wp2
                    go_roundg (K - (j + 1))
                    case measure => omega
                    case rel => exact ⟨j + 1, by simp, by omega, Nat.le_refl _, HP.out⟩
                  · obtain rfl : bb = false := by
                      cases bb with
                      | false => rfl
                      | true => exact absurd (hbb.1 rfl) hfx
                    clear hbb HBB
                    have hfx2 : ¬ (-1) < x := hfx
                    go_wp2_with fail
                    refine htk.mono ?_
                    rintro e w4 ⟨rfl, hF4, hc4⟩
                    have HP : Aside (Fs w s M (-1) L w4 ∧ Ir w.heap.size w4 (some ⟨gi, 0, none⟩) cc C ∧ Rs w4 oc cl L.reverse) := ⟨hF4, Ir.tk HIK.out HSC.out hc4, Rs.tk HRK.out HSC.out hc4⟩
                    clear hF4 hc4 htk
                    go_wp2
                    go_roundg (K - (j + 1))
                    case measure => omega
                    case rel => exact ⟨j + 1, by simp, by omega, Nat.le_refl _, HP.out⟩
            · obtain rfl : j = K := by omega
              obtain ⟨hF9, hI9, hR9⟩ := HS.out
              have HB9 : Aside _ := hF9.bel
              have HR9 : Aside _ := hR9
              have hdl := HDL.out
              have hOL := HLF.out.ok
              have hpp : ∀ p ∈ L.reverse, p.1 ≤ p.2 := fun p hp => (hOL.2 p (List.mem_reverse.1 hp)).2.1
              have htot : total L.reverse ≤ (j : Int) := by rw [total_rev, ← HK.out]; exact HLF.out.tot
              have HTOT : Aside _ := htot
              have HPP : Aside _ := hpp
              have HOL : Aside _ := hOL
              clear hF9 hI9 hR9 hdl hOL hpp htot HS
              go_wp2
              go_loopg [19, 20] N (fun kx s19 s20 wx => ∃ (k : Nat) (T : Int), s20 = .int .i64 (k : Int) ∧ s19 = .int .i64 T ∧ k ≤ N ∧ N - k ≤ kx ∧ 0 ≤ T ∧ T ≤ j ∧ Aside (T = total (L.reverse.take k)) ∧ Aside (Below wr.heap.size wr wx))
              case atStart => exact ⟨0, 0, rfl, rfl, Nat.zero_le _, by omega, by omega, by omega, by show (0 : Int) = _; simp [total], Below.refl _ _⟩
              case round =>
                obtain ⟨k, T, rfl, rfl, hk, hkk, hT0, hT1, HT, HBE⟩ := hrel
                have hRk := Rs.below HR9.out HBE.out (Nat.le_refl _)
                by_cases hkN : k < N
                · have hkD : k < L.reverse.length := by rw [HDL.out]; exact hkN
                  obtain ⟨gs, hgs, c1, c2⟩ := hRk.cells k hkD
                  subst hgs
                  have hok := rev_ok HOL.out k hkD
                  have htk1 := total_take k hkD
                  have htk2 := total_take_le HPP.out (k + 1)
                  have HT' : Aside (total (L.reverse.take (k + 1)) = T + ((L.reverse[k]).2 - (L.reverse[k]).1 + 1)) := by rw [HT.out]; exact htk1
                  have htb : T + ((L.reverse[k]).2 - (L.reverse[k]).1 + 1) ≤ j := by have := HT'.out; have := HTOT.out; omega
                  have hprev : 0 < k → ∃ q1 : Int, wr.cell? ⟨gs, (k - 1) * 2, none⟩ = some (.int .i64 q1) ∧ (L.reverse[k]).2 + 2 ≤ q1 ∧ q1 ≤ 4611686018427387903 := by
                    intro h0k
                    obtain ⟨g2, hg2, d1, d2⟩ := hRk.cells (k - 1) (by omega)
                    obtain rfl : gs = g2 := by simpa using hg2
                    have e1 := rev_gap HOL.out (k - 1) (by omega)
                    have e2 := rev_ok HOL.out (k - 1) (by omega)
                    have e3 : L.reverse[k - 1 + 1]'(by omega) = L.reverse[k] := by congr 1; omega
                    rw [e3] at e1
                    exact ⟨_, d1, e1, by omega⟩
                  obtain ⟨p1, p2, hp⟩ : ∃ p1 p2, L.reverse[k] = (p1, p2) := ⟨_, _, rfl⟩
                  rw [hp] at c1 c2 hok HT' htb hprev
                  dsimp only at c1 c2 hok HT' htb hprev
                  obtain ⟨ok1, ok2, ok3⟩ := hok
                  clear hp hRk htk1 htk2
                  have w1 : IntKind.i64.wrap (T + p2) = T + p2 := by rw [IntKind.wrap_i64]; omega
                  have w2' : IntKind.i64.wrap (T + p2 - p1) = T + p2 - p1 := by rw [IntKind.wrap_i64]; omega
                  have w3' : IntKind.i64.wrap (T + p2 - p1 + 1) = T + p2 - p1 + 1 := by rw [IntKind.wrap_i64]; omega
                  have HHT : Aside _ := HT'.out
                  clear HT'
                  rcases Nat.eq_zero_or_pos k with hk0 | hk0
                  · have hz : ¬ (0 : Int) < (k : Int) := by omega
                    have hzd : decide ((0 : Int) < (k : Int)) = false := by rw [decide_eq_false_iff_not]; exact hz
                    have hzn : ¬ 0 < k := by omega
                    have hznd : decide (0 < k) = false := by rw [decide_eq_false_iff_not]; exact hzn
                    have HK0 : Aside _ := hk0
                    clear hk0 hprev
                    go_wp2
                    go_quiet (fail)
                    go_wp2
                    go_quiet (fail)
                    go_wp2
                    go_roundg (N - (k + 1))
                    case measure => omega
                    case rel => exact ⟨k + 1, T + p2 - p1 + 1, by simp, rfl, by omega, Nat.le_refl _, by omega, by omega, by show T + p2 - p1 + 1 = _; rw [HHT.out]; omega, HBE.out.trans ⟨rfl, rfl, rfl, Nat.le_refl _, fun _ _ => rfl⟩⟩
                  · have hz : (0 : Int) < (k : Int) := by omega
                    obtain ⟨q1, d1, d2, d3⟩ := hprev hk0
                    obtain ⟨k', hk'⟩ : ∃ k', k - 1 = k' := ⟨_, rfl⟩
                    rw [hk'] at d1
                    have wk : IntKind.i64.wrap ((k : Int) - 1) = (k' : Int) := by rw [IntKind.wrap_i64]; omega
                    have wk2 : (k : Int) - 1 = (k' : Int) := by omega
                    have wq : IntKind.i64.wrap (q1 - 2) = q1 - 2 := by rw [IntKind.wrap_i64]; omega
                    have hkn' : k' < N := by omega
                    have hgq : ¬ q1 - 2 < p2 := by omega
                    have hgd : decide (q1 - 2 < p2) = false := by simpa using hgq
                    have HK' : Aside _ := hk'
                    clear hprev hk'
                    go_wp2
                    go_quiet (fail)
                    go_wp2
                    go_quiet (fail)
                    go_wp2
                    go_roundg (N - (k + 1))
                    case measure => omega
                    case rel => exact ⟨k + 1, T + p2 - p1 + 1, by simp, rfl, by omega, Nat.le_refl _, by omega, by omega, by show T + p2 - p1 + 1 = _; rw [HHT.out]; omega, HBE.out.trans ⟨rfl, rfl, rfl, Nat.le_refl _, fun _ _ => rfl⟩⟩
                · obtain rfl : k = N := by omega
                  have hTK : T ≤ (j : Int) := hT1
                  have hTd : decide (T ≤ (j : Int)) = true := by simpa using hT1
                  have HBF : Aside _ := Below.trans HB9.out (Below.mono HBE.out (Below.size HB9.out))
                  go_wp2
                  go_ret
                  exact ⟨rfl, HBF.out⟩
end Go.Proofs.YtlobnlkpbenngaaR
