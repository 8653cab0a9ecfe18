/- seen: split. -/
import Derived.Test.YtlobnlkpbenngaaSp0
import Derived.Deep.CutRange
import Derived.Deep.RegionWith
namespace Go.Proofs.YtlobnlkpbenngaaR
open Go.RowKit Go.Shelf Go.Lib
set_option linter.unusedVariables false

/-- What split leaves. -/
def SplitQ (n₀ M : Nat) (A : List Pt) (a : Pt) (B : List Pt) (H : Nat) (f : Int) (w : World) (e : Ending) (w' : World) : Prop :=
  (∃ v, e = .returned v) ∧ ∃ G' c' T' o1 o2, Nu n₀ w' M G' c' (A ++ ⟨a.f, a.T, o1, a.L.take H⟩ :: ⟨f, T', o2, a.L.drop H⟩ :: B) ∧ Kp n₀ w w'

set_option maxRecDepth 100000 in
set_option maxHeartbeats 4000000 in
theorem split_c (n₀ M G c i N H : Nat) (f l0 : Int) (A : List Pt) (a : Pt) (B : List Pt) (w : World) (h : Nu n₀ w M G c (A ++ a :: B)) (hn₀ : n₀ ≤ w.heap.size) (hi : A.length = i) (hsz : (A ++ a :: B).length < 68719476736) (hN : a.L.length = N) (hN1 : 2 ≤ N) (hN2 : N ≤ 1500) (hH : N / 2 = H) (hf : a.L[H]? = some (f, l0)) :
    Calls Try.prog 39 #[.pointer (some ⟨M, 0, none⟩), .int .i64 (i : Int)] w (SplitQ n₀ M A a B H f w) := by
  have hc := h.headC
  have ca : w.cell? ⟨G, i * 2 + 1, none⟩ = some (.pointer (some ⟨a.T, 0, none⟩)) := Nu.cell h i hi
  obtain ⟨K, hK⟩ : ∃ K, (A ++ a :: B).length = K := ⟨_, rfl⟩
  have hiK : i < K := by rw [← hK]; simp; omega
  rw [hK] at hc hsz
  obtain ⟨⟨sa, hSa⟩, hOa, hla, _⟩ := h.sets a (by simp)
  have hbb : Below w.heap.size w (w.alloc (.cells #[.pointer (some ⟨a.T, 0, none⟩)] 70)) := (Below.refl _ w).alloc (Nat.le_refl _) _
  have hcol := collect_c a.T sa w.heap.size a.o a.L _ (hSa.below hbb (Nat.le_refl _)) hla (cell1_new' w _ 70)
  rw [hN] at hcol
  have hquo : (N : Int) / 2 = (H : Int) := by omega
  have hHN : H < N := by omega
  have hHI : (H : Int) ≤ (N : Int) := by omega
  have HH : Aside _ := h
  have HK : Aside _ := hK
  have HOA : Aside _ := hOa
  have HNN : Aside _ := hN
  have HBB : Aside _ := hbb
  clear h hK hOa hN hSa hbb
  go_enter Try.func39, Try.ntmps39
  go_wp2_with fail
  refine (all_any _ _).mono ?_
  rintro e w' ⟨rfl, hw⟩
  subst w'
  go_wp2_with fail
  refine hcol.mono ?_
  rintro e Wc ⟨oc, cc, rfl, hRs, hcm, hbc, hoc⟩
  obtain ⟨q, R, rfl, hA, hR⟩ : ∃ q R, oc = some ⟨q, 0, none⟩ ∧ At Wc q (fl a.L ++ R) ∧ R.length + N * 2 = cc * 2 := by
    rcases hRs with ⟨_, r2, _⟩ | ⟨q, R, r1, r2, r3⟩
    · have := HNN.out; rw [r2] at this; simp at this; omega
    · exact ⟨q, R, r1, r2, by rw [← HNN.out]; exact r3⟩
  have hqw := hoc q rfl
  have hcc : N ≤ cc := by omega
  have hcH : ¬ (cc = H) := by omega
  have hbw : Below w.heap.size w Wc := HBB.out.trans (hbc.mono (by simp))
  have lq := hA.lt
  have hNc := HH.out.below hbw
  have c0 : Wc.cell? ⟨q, H * 2, none⟩ = some (.int .i64 f) := by
    have := (cells_at hA H (by rw [HNN.out]; exact hHN)).1
    obtain ⟨lh, eh⟩ := List.getElem?_eq_some_iff.1 hf
    rw [eh] at this
    exact this
  have HA : Aside _ := hA
  have HBW : Aside _ := hbw
  have HNC : Aside _ := hNc
  have HRR : Aside _ := hR
  clear hRs hcm hbc hoc hA hR hcol hbw hNc ca hc HBB
  go_wp2
  go_cut [7] from 26 to 31 (fun v wx => ∃ T' Bx, v = .pointer (some ⟨Bx, 0, none⟩) ∧ Aside (wx.heap[Bx]? = some (.cells #[.int .i64 f, .pointer (some ⟨T', 0, none⟩)] 73 (0, 0)) ∧ wx.heap[T']? = some (.cells #[.bool true, .slice none 0 0] 84 (0, 0)) ∧ Below Wc.heap.size Wc wx ∧ Wc.heap.size ≤ T' ∧ Wc.heap.size ≤ Bx))
  case first =>
    go_region_with (go_at_call 33; refine (new_c _).mono ?_; rintro e w' ⟨rfl, hw⟩; subst w')
    all_goals
      go_wp2_with fail
      go_meet
    all_goals
      first
        | exact ⟨Wc.heap.size + 1, Wc.heap.size, rfl, (two_alloc Wc _ _).1, (two_alloc Wc _ _).2.1, (two_alloc Wc _ _).2.2, by omega, by omega⟩
        | exact ⟨Wc.heap.size, Wc.heap.size + 1, rfl, (two_alloc Wc _ _).2.1, (two_alloc Wc _ _).1, (two_alloc Wc _ _).2.2, by omega, by omega⟩
  case rest =>
  obtain ⟨T', Bx, rfl, HC⟩ := hcut
  obtain ⟨D, hD⟩ : ∃ D, a.L.drop H = D := ⟨_, rfl⟩
  have hDl : D.length = N - H := by rw [← hD, List.length_drop, HNN.out]
  have hOD : Ok D := by rw [← hD]; exact Ok_drop HOA.out H
  have HD : Aside _ := hD
  have HDL : Aside _ := hDl
  have HOD : Aside _ := hOD
  have hmy0 : My Wc.heap.size wc T' none [] := ⟨⟨0, HC.out.2.1, .inl ⟨rfl, rfl, rfl⟩, by unfold maxLen; omega⟩, Ok_nil, by simp, HC.out.2.2.2.1, fun g e => nomatch e⟩
  have HI0 : Aside ((∃ o' L', My Wc.heap.size wc T' o' L' ∧ (∀ n, In n L' ↔ In n (D.take 0)) ∧ L'.length ≤ 0) ∧ Below Wc.heap.size Wc wc ∧ wc.heap[Bx]? = some (.cells #[.int .i64 f, .pointer (some ⟨T', 0, none⟩)] 73 (0, 0))) := ⟨⟨none, [], hmy0, fun n => by simp, by simp⟩, HC.out.2.2.1, HC.out.1⟩
  have hTx := HC.out.2.2.2
  have hNH : ((N - H : Nat) : Int) = (N : Int) - H := by omega
  obtain ⟨m, hm⟩ : ∃ m, N - H = m := ⟨_, rfl⟩
  rw [hm]
  have HM : Aside _ := hm
  have hm1 : m ≤ 1500 := by omega
  clear hD hDl hOD hmy0 HC hNH hm
  go_wp2
  go_loopg [34] m (fun kx s34 wr => ∃ k : Nat, s34 = .int .i64 (k : Int) ∧ k ≤ m ∧ m - k ≤ kx ∧ Aside ((∃ o' L', My Wc.heap.size wr T' o' L' ∧ (∀ n, In n L' ↔ In n (D.take k)) ∧ L'.length ≤ k) ∧ Below Wc.heap.size Wc wr ∧ wr.heap[Bx]? = some (.cells #[.int .i64 f, .pointer (some ⟨T', 0, none⟩)] 73 (0, 0))))
  case atStart => exact ⟨0, rfl, Nat.zero_le _, by omega, HI0.out⟩
  case round =>
    obtain ⟨k, rfl, hk, hkx, HR⟩ := hrel
    clear HI0
    obtain ⟨⟨o', L', q1, q2, q3⟩, q4, q5⟩ := HR.out
    have hAr : At wr q (fl a.L ++ R) := At.below HA.out q4 lq
    by_cases hlt : k < m
    · have hidx : H + k < a.L.length := by rw [HNN.out]; have := HM.out; omega
      obtain ⟨d1, d2⟩ := cells_at hAr (H + k) hidx
      have hxD : D[k]? = some a.L[H + k] := by rw [← HD.out, List.getElem?_drop, List.getElem?_eq_getElem hidx]
      obtain ⟨xa, xb, hx⟩ : ∃ xa xb, a.L[H + k] = (xa, xb) := ⟨_, _, rfl⟩
      rw [hx] at d1 d2 hxD
      rw [show (H + k) * 2 = H * 2 + k * 2 by omega] at d1 d2
      have hfx := HOD.out.2 (xa, xb) (List.mem_of_getElem? hxD)
      have hba : Below wr.heap.size wr (wr.alloc (.cells #[.int .i64 xa, .int .i64 xb] 53)) := (Below.refl _ wr).alloc (Nat.le_refl _) _
      have hszr : Wc.heap.size ≤ wr.heap.size := q4.size
      have hadd := add_set Wc.heap.size T' o' xa xb L' _ (q1.below hba) (by simp; omega) ⟨hfx.1, hfx.2.1, hfx.2.2⟩ (by omega)
      have cB1 : wr.cell? ⟨Bx, 1, none⟩ = some (.pointer (some ⟨T', 0, none⟩)) := by simp [World.cell?, q5]
      have lBx : Bx < wr.heap.size := (Array.getElem?_eq_some_iff.1 q5).1
      have lqr : q < wr.heap.size := by omega
      have HQ : Aside (∀ w2 o2 L2, Turn Wc.heap.size (wr.alloc (.cells #[.int .i64 xa, .int .i64 xb] 53)) w2 T' o' o2 L2 → (∀ n, In n L2 ↔ In n L' ∨ (xa ≤ n ∧ n ≤ xb)) → L2.length ≤ L'.length + 1 → ((∃ o' L', My Wc.heap.size w2 T' o' L' ∧ (∀ n, In n L' ↔ In n (D.take (k + 1))) ∧ L'.length ≤ k + 1) ∧ Below Wc.heap.size Wc w2 ∧ w2.heap[Bx]? = some (.cells #[.int .i64 f, .pointer (some ⟨T', 0, none⟩)] 73 (0, 0)))) := by
        intro w2 o2 L2 ht hin hl2
        obtain ⟨lD, eD⟩ := List.getElem?_eq_some_iff.1 hxD
        refine ⟨⟨o2, L2, ht.1, fun n => ?_, by omega⟩, Turn.below (q1.below hba) ht (q4.trans (hba.mono hszr)), ?_⟩
        · rw [hin n, q2 n, List.take_succ_eq_append_getElem lD, In_append, In_cons, eD]
          simp [In_nil]
        · have hbx1 := (hba.block Bx lBx).trans q5
          refine (ht.2.1.2.2.2.2 Bx (by simp; omega) ?_).trans hbx1
          obtain ⟨⟨Y, hY⟩, hr⟩ := (q1.below hba).row
          rintro (e | e)
          · rw [← e, hbx1] at hY; simp at hY
          · obtain ⟨Z, hZ⟩ := hr Bx e
            rw [hbx1] at hZ; simp at hZ
      clear q1 q2 q3 q4 q5 hAr hxD hba hfx hx
      go_wp2_with fail
      refine hadd.mono ?_
      rintro e w2 ⟨r2, o2, L2, rfl, ht, hin, hl2⟩
      have HP : Aside _ := HQ.out w2 o2 L2 ht hin hl2
      clear ht hin hl2 hadd
      go_wp2
      go_roundg (m - (k + 1))
      case measure => omega
      case rel => exact ⟨k + 1, by simp, by omega, Nat.le_refl _, HP.out⟩
    · obtain rfl : k = m := by omega
      have hLD : L' = D := Ok_ext q1.2.1 HOD.out (fun n => by rw [q2 n, List.take_of_length_le (by rw [HDL.out]; have := HM.out; omega)])
      rw [hLD] at q1
      have hnr := HNC.out.below q4
      have hmya := hnr.sets a (by simp)
      obtain ⟨lh, eh⟩ := List.getElem?_eq_some_iff.1 hf
      have hfb := HOA.out.2 (f, l0) (eh ▸ List.getElem_mem lh)
      have hszr : n₀ ≤ wr.heap.size := Nat.le_trans (Nat.le_trans hn₀ HBW.out.size) q4.size
      have hrem := rem_set n₀ a.T a.o f 4611686018427387903 a.L wr hmya hszr ⟨hfb.1, by omega, Int.le_refl _⟩ (by rw [HNN.out]; omega)
      have cB0 : wr.cell? ⟨Bx, 0, none⟩ = some (.int .i64 f) := by simp [World.cell?, q5]
      have HQ1 : Aside _ := q1
      have HQ4 : Aside _ := q4
      have HQ5 : Aside _ := q5
      have HNR : Aside _ := hnr
      have HMY : Aside _ := hmya
      clear q1 q2 q3 q4 q5 hLD hAr hnr hmya HR
      go_wp2_with fail
      refine hrem.mono ?_
      rintro e w3 ⟨r3, o1, L1, rfl, ht, hin, hl1⟩
      have hL1 : L1 = a.L.take H := Ok_ext ht.1.2.1 (Ok_take HOA.out H) (fun n => by rw [hin n, (In_half HOA.out H f l0 hf n).1])
      subst hL1
      have hn3 : Nu n₀ w3 M G c (A ++ ⟨a.f, a.T, o1, a.L.take H⟩ :: B) := Nu.turn HNR.out ht
      have hkp3 : Kp n₀ w w3 := (Kp.below HBW.out).trans ((Kp.below HQ4.out).trans (Turn.kp HMY.out ht))
      have hlta := My.lt HMY.out
      have hltc := (HNC.out.sets a (by simp)).lt
      have hb3 : My n₀ w3 T' o' D := by
        have hmm : My n₀ wr T' o' D := ⟨HQ1.out.1, HQ1.out.2.1, HQ1.out.2.2.1, by have := HQ1.out.2.2.2.1; have := HBW.out.size; omega, fun g hg => by have := HQ1.out.2.2.2.2 g hg; have := HBW.out.size; omega⟩
        refine hmm.chg ht.2.1 ?_ ?_
        · rintro (e | e)
          · have := HQ1.out.2.2.2.1; omega
          · have := hltc.2 _ e; have := HQ1.out.2.2.2.1; omega
        · rintro g hg (e | e)
          · have := HQ1.out.2.2.2.2 g hg; omega
          · have := hltc.2 _ e; have := HQ1.out.2.2.2.2 g hg; omega
      have hap3 : ∀ x ∈ (A ++ [⟨a.f, a.T, o1, a.L.take H⟩]) ++ B, Apart x ⟨f, T', o', D⟩ := by
        intro x hx
        have hother : ∀ y ∈ A ++ a :: B, y.T < Wc.heap.size ∧ ∀ g, y.o = some ⟨g, 0, none⟩ → g < Wc.heap.size := fun y hy => (HNC.out.sets y hy).lt
        have key : ∀ y : Pt, y.T < Wc.heap.size → (∀ g, y.o = some ⟨g, 0, none⟩ → g < Wc.heap.size ∨ wr.heap.size ≤ g) → Apart y ⟨f, T', o', D⟩ := by
          intro y h1 h2
          refine ⟨by show y.T ≠ T'; omega, fun g hg e => ?_⟩
          have hlo := HQ1.out.2.2.2.2 g e
          have hhi := (My.lt HQ1.out).2 g e
          rcases h2 g hg with h | h <;> omega
        rcases List.mem_append.1 hx with hx | hx
        · rcases List.mem_append.1 hx with hx | hx
          · have := hother x (List.mem_append_left _ hx)
            exact key x this.1 (fun g hg => .inl (this.2 g hg))
          · obtain rfl : x = ⟨a.f, a.T, o1, a.L.take H⟩ := by simpa using hx
            refine key _ hltc.1 (fun g hg => ?_)
            rcases ht.2.2 with e | ⟨g2, e, hg2⟩
            · exact .inl (hltc.2 g (e ▸ hg))
            · have hg' : o1 = some ⟨g, 0, none⟩ := hg
              rw [e] at hg'
              obtain rfl : g2 = g := by simpa using hg'
              exact .inr hg2
        · have := hother x (List.mem_append_right _ (List.mem_cons_of_mem _ hx))
          exact key x this.1 (fun g hg => .inl (this.2 g hg))
      have hbx3 : w3.heap[Bx]? = some (.cells #[.int .i64 f, .pointer (some ⟨T', 0, none⟩)] 73 (0, 0)) := by
        refine (ht.2.1.2.2.2.2 Bx (Array.getElem?_eq_some_iff.1 HQ5.out).1 ?_).trans HQ5.out
        rintro (e | e)
        · omega
        · have := hltc.2 _ e; omega
      have hab : A ++ (⟨a.f, a.T, o1, a.L.take H⟩ : Pt) :: B = (A ++ [⟨a.f, a.T, o1, a.L.take H⟩]) ++ B := by simp
      have hlK : (A ++ (⟨a.f, a.T, o1, a.L.take H⟩ : Pt) :: B).length = K := by rw [← HK.out]; simp
      have cM3 := hn3.headC
      rw [hlK] at cM3
      have cb0 : w3.cell? ⟨Bx, 0, none⟩ = some (.int .i64 f) := by simp [World.cell?, hbx3]
      have cb1 : w3.cell? ⟨Bx, 1, none⟩ = some (.pointer (some ⟨T', 0, none⟩)) := by simp [World.cell?, hbx3]
      have lb3 : Bx < w3.heap.size := (Array.getElem?_eq_some_iff.1 hbx3).1
      have lm3 : M < w3.heap.size := hn3.lt.1
      have hbv : Below w3.heap.size w3 (w3.drew.alloc (.cells #[.int .i64 f, .pointer (some ⟨T', 0, none⟩)] 73)) := ⟨rfl, rfl, rfl, by simp, fun j hj => Below.heap_alloc w3.drew _ j hj⟩
      have hn4 := hab ▸ hn3.below hbv
      have hv4 : YtlobnlkpbenngaaP.At (w3.drew.alloc (.cells #[.int .i64 f, .pointer (some ⟨T', 0, none⟩)] 73)) w3.heap.size (YtlobnlkpbenngaaP.fl [(f, T')] ++ []) := World.alloc_heap_new w3.drew _
      obtain ⟨R4, hA4, hR4⟩ := hn4.row
      rw [List.map_append] at hA4
      have hlK' : ((A ++ [(⟨a.f, a.T, o1, a.L.take H⟩ : Pt)]) ++ B).length = K := by rw [← hab]; exact hlK
      rw [hlK'] at hR4
      have hins := ins_c G c w3.heap.size 1 K (i + 1) ((A ++ [(⟨a.f, a.T, o1, a.L.take H⟩ : Pt)]).map Pt.p) (B.map Pt.p) (f, T') R4 [] _ (by simp; omega) (by rw [← hlK']; simp; omega) hA4 hR4 hn4.cap hv4 (by have := hn3.lt.2; omega) hsz
      rw [show ((i + 1 : Nat) : Int) = (i : Int) + 1 by omega] at hins
      have hb4 := hb3.below hbv
      have hwi : IntKind.i64.wrap ((i : Int) + 1) = (i : Int) + 1 := by rw [IntKind.wrap_i64]; omega
      have HFIN : Aside (∀ e w5, YtlobnlkpbenngaaP.Out (w3.drew.alloc (.cells #[.int .i64 f, .pointer (some ⟨T', 0, none⟩)] 73)) (some ⟨G, 0, none⟩) ((A ++ [(⟨a.f, a.T, o1, a.L.take H⟩ : Pt)]).map Pt.p ++ (f, T') :: B.map Pt.p) e w5 → ∃ g' c', e = .returned (.slice (some ⟨g', 0, none⟩) (K + 1) c') ∧ w5.cell? ⟨M, 0, none⟩ = some (.slice (some ⟨G, 0, none⟩) K c) ∧ w5.frozen? ⟨M, 0, none⟩ = false ∧
          SplitQ n₀ M A a B H f w (.returned (.tuple #[])) (w5.setCell ⟨M, 0, none⟩ (.slice (some ⟨g', 0, none⟩) (K + 1) c'))) := by
        rintro e w5 ⟨oo, c', he, hRs, hcm', hch, hoo⟩
        have hmap : (A ++ [(⟨a.f, a.T, o1, a.L.take H⟩ : Pt)]).map Pt.p ++ (f, T') :: B.map Pt.p = ((A ++ [(⟨a.f, a.T, o1, a.L.take H⟩ : Pt)]) ++ (⟨f, T', o', D⟩ : Pt) :: B).map Pt.p := by simp [Pt.p]
        have hlen : ((A ++ [(⟨a.f, a.T, o1, a.L.take H⟩ : Pt)]).map Pt.p ++ (f, T') :: B.map Pt.p).length = K + 1 := by rw [← hlK']; simp; omega
        rw [hlen] at he
        obtain ⟨g', rfl⟩ : ∃ g', oo = some ⟨g', 0, none⟩ := by
          rcases hRs with ⟨_, e2, _⟩ | ⟨g, _, e2, _⟩
          · simp at e2
          · exact ⟨g, e2⟩
        rw [hmap] at hRs
        obtain ⟨d1, d2, d3, d4⟩ := Nu.ins hn4 (Nat.le_trans (Nat.le_trans hszr ht.2.1.2.2.2.1) hbv.size) hb4 hap3 hRs hcm' (hch.mono (fun k _ hk => by simpa using hk.symm)) (by
          rcases hoo with e2 | ⟨g, e2, hg⟩
          · exact .inl (by simpa using e2)
          · obtain rfl : g' = g := by simpa using e2
            exact .inr hg)
        have hlen2 : ((A ++ [(⟨a.f, a.T, o1, a.L.take H⟩ : Pt)]) ++ (⟨f, T', o', D⟩ : Pt) :: B).length = K + 1 := by rw [← hlK']; simp; omega
        rw [hlK'] at d1
        rw [hlen2] at d3 d4
        refine ⟨g', c', he, d1, d2, ⟨_, rfl⟩, g', c', T', o1, o', ?_, hkp3.trans ((Kp.below hbv).trans d4)⟩
        rw [HD.out]
        simpa using d3
      have HINS : Aside _ := hins
      clear hins hn4 hn3 hb3 hb4 hap3 hA4 hv4 hR4 hbx3 ht hin hl1 hkp3 hbv hrem cB0 HQ1 HQ4 HQ5 HNR HMY hlta hltc
      clear hab hlK hlK'
      go_wp2
      go_region_with (go_at_call 58; refine Calls.mono HINS.out ?_; rintro e w5 hout; obtain ⟨g', c', rfl, x1, x2, x3⟩ := HFIN.out _ _ hout; have HX3 : Aside _ := x3; clear x3 hout)
      all_goals
        go_wp2
        go_end0
        exact HX3.out
end Go.Proofs.YtlobnlkpbenngaaR
