/- frame.Put, of any frame: whole. -/
import Derived.Test.YtaeapgkfmofjlaaDoorMc
namespace Go.Proofs.YtaeapgkfmofjlaaDoor
open Go.ChangeShapes Go.WideShapes Go.ChangeAt Go.RowKit
set_option linter.unusedVariables false
set_option maxRecDepth 100000

set_option maxHeartbeats 2000000 in
theorem put_c (f : Fr) (d : Da) (w : World) (ht : Tb w) (h : Fi w f d) :
    Calls Tryd.prog 8 #[.agg f.cells.toArray] w fun e w' => ∃ o c, e = .returned (.tuple #[.slice o (putR (ab f d)).1.length c, .int .i64 (putR (ab f d)).2]) ∧ By w.heap.size w' (.slice o (putR (ab f d)).1.length c) (putR (ab f d)).1 ∧ Below w.heap.size w w' := by
  by_cases hbad : isKd f.k = false ∨ (8 < f.k ∧ f.k < 16)
  · have e : putR (ab f d) = ([], 12) := if_pos hbad
    rw [e]
    exact (put_none f d w hbad).mono (by rintro e w' ⟨rfl, hb⟩; exact ⟨none, 0, rfl, ⟨rfl, .inl ⟨rfl, rfl⟩⟩, hb⟩)
  have e0 : putR (ab f d) = if mayB (ab f d) = false then ([], 2) else if pX (stB (ab f d)) (ab f d) = true then ([], 2) else (encv (stB (ab f d)) ++ pB (stB (ab f d)) (ab f d), 0) := if_neg hbad
  have hk1 : isKd f.k = true := by
    cases hq : isKd f.k
    · exact absurd (.inl hq) hbad
    · rfl
  have hk2 : ¬ (8 < f.k ∧ f.k < 16) := fun e => hbad (.inr e)
  obtain ⟨hs1, hs2, hs3⟩ := stB_kd (ab f d) hk1 hk2
  have HM : Aside (mayB (ab f d) = true → (stB (ab f d) = 0 → 1 ≤ f.cnt) ∧ (stB (ab f d) = 24 → d.I.length ≤ 20)) := by
    intro hm
    have hst : ∀ n : Int, (n < 8 ∨ 16 ≤ n) → stB (ab f d) = n → f.k = n := by
      intro n hn he
      unfold stB at he
      split at he
      · split at he <;> split at he <;> split at he <;> omega
      · exact he
    constructor
    · intro e
      have hk := hst 0 (by omega) e
      unfold mayB at hm
      rw [if_pos (show (ab f d).k = 0 from hk)] at hm
      exact of_decide_eq_true hm
    · intro e
      have hk : (ab f d).k = 24 := hst 24 (by omega) e
      have hq : mayB (ab f d) = (decide (f.ret ≤ f.seq) && decide (1 ≤ d.I.length) && decide (d.I.length ≤ 20)) := by unfold mayB; rw [hk]; rfl
      rw [hq] at hm
      simp only [Bool.and_eq_true, decide_eq_true_eq] at hm
      exact hm.2
  have htp := Tb_pos ht
  obtain ⟨F, hF⟩ : ∃ F, w.heap.size = F := ⟨_, rfl⟩
  obtain ⟨W0, hW0⟩ : ∃ W0, w.alloc (.cells f.cells.toArray 28) = W0 := ⟨_, rfl⟩
  have hb0 : Below w.heap.size w W0 := by rw [← hW0]; exact bel1 w _
  have hf0 : Fm W0 F f := by rw [← hW0, ← hF]; exact heap_alloc_new w _
  have hs0 : W0.heap.size = F + 1 := by rw [← hW0, ← hF]; simp
  have c0 := hf0.at 0 _ (show f.cells[0]? = some (.int .i64 f.k) from rfl)
  have hik := isKind_c f.k W0
  rw [hk1] at hik
  have his := isStr_kd f.k W0 hk1
  have hmb := mayBe_c f d W0 h.on
  have HSD : Aside (∀ X, Calls Tryd.prog 20 #[.agg f.cells.toArray] X fun e w' => e = .returned (.int .i64 (stB (ab f d))) ∧ Below X.heap.size X w') := fun X => standing_c f d X h.on
  have hX : Aside ((Tryd.prog.info? 28).map (·.size) = some f.cells.toArray.size) := by show _ = some f.cells.length; rw [h.on.size]; exact i28s
  have HFI : Aside _ := h
  have HT : Aside _ := ht
  have HF0 : Aside _ := hf0
  have HB0 : Aside _ := hb0
  have hst8 : (8 ≤ f.k ∧ f.k < 16) → f.k = 8 := by omega
  rw [e0]
  obtain ⟨K, hKK⟩ : ∃ K, stB (ab f d) = K := ⟨_, rfl⟩
  rw [hKK] at hs1 hs2 hs3 HM HSD ⊢
  have hbk := badv_small hs2 hs3
  have hek := encv_small hs2 hs3
  have HK1 : Aside _ := hs1
  obtain ⟨k, hk⟩ : ∃ k, f.k = k := ⟨_, rfl⟩
  rw [hk] at c0 hik his hst8
  obtain ⟨MB, hMB⟩ : ∃ MB, mayB (ab f d) = MB := ⟨_, rfl⟩
  rw [hMB] at hmb HM ⊢
  obtain ⟨PX, hPX⟩ : ∃ PX, pX K (ab f d) = PX := ⟨_, rfl⟩
  obtain ⟨PB, hPB⟩ : ∃ PB, pB K (ab f d) = PB := ⟨_, rfl⟩
  rw [hPX, hPB]
  have HWK : Aside (MB = true → ∀ p B X W, WD W p B F X false f d → X.length ≤ 1024 → 0 < X.length → Calls Tryd.prog 22 #[.iface 63 (.pointer (some ⟨p, 0, none⟩)), .int .i64 K, .pointer (some ⟨F, 0, none⟩)] W fun e w' => e = .returned (.tuple #[]) ∧ WD w' p B F (X ++ PB) PX f d ∧ Gr p B W w') := by
    intro hm p B X W hw h1 h2
    have := pwalk_any K HK1.out p B F X false f d W hw h1 h2 (HM.out hm).1 (HM.out hm).2
    rw [hPX, hPB] at this
    simpa using this
  clear ht h hf0 hb0 hbad hk1 hk2 hs1 hKK hk hMB hPX hPB e0 HM
  have hcs : decide (8 ≤ k ∧ k < 16) = false ∨ decide (8 ≤ k ∧ k < 16) = true ∧ k = 8 := by
    by_cases hst : 8 ≤ k ∧ k < 16
    · exact .inr ⟨decide_eq_true hst, hst8 hst⟩
    · exact .inl (decide_eq_false hst)
  clear hst8
  rcases hcs with hS | ⟨hS, hk8⟩
  all_goals
    rw [hS] at his
    try subst hk8
    clear hS
    go_enter Tryd.func8, Tryd.ntmps8
    go_wp2_with fail
    refine hik.mono ?_
    rintro e w' ⟨rfl, hw⟩
    subst w'
    go_wp2_with fail
    refine his.mono ?_
    rintro e w' ⟨rfl, hw⟩
    subst w'
    clear hik his hW0
    go_wp2_with (refine wpList_load_row rfl 28 (.tmp 1) rfl F rfl 28 _ (0, 0) _ HF0.out hu28 rfl hX.out ?_)
    refine hmb.mono ?_
    rintro e W1 ⟨rfl, hb1⟩
    clear hmb c0
    cases MB
    · have HBB : Aside (Below w.heap.size w W1) := HB0.out.trans (hb1.mono HB0.out.size)
      clear hb1
      go_wp2
      go_ret2
      exact ⟨none, 0, rfl, ⟨rfl, .inl ⟨rfl, rfl⟩⟩, (by rw [← hF]; exact HBB.out)⟩
    obtain ⟨p, hp⟩ : ∃ p, W1.heap.size = p := ⟨_, rfl⟩
    obtain ⟨W2, hW2⟩ : ∃ W2, W1.alloc (.cells #[.slice none 0 0, .bool false] 58) = W2 := ⟨_, rfl⟩
    have hpF : F < p := by rw [← hp]; have := hb1.size; omega
    have hb2 : Below W0.heap.size W0 W2 := by rw [← hW2]; exact bel_trans hb1 (bel1 W1 _)
    have hp2 : W2.heap[p]? = some (.cells #[.slice none 0 0, .bool false] 58 (0, 0)) := by rw [← hW2, ← hp]; exact heap_alloc_new W1 _
    have HF2 : Aside (Fm W2 F f) := (hb2.block F (by omega)).trans HF0.out
    have hsd := HSD.out W2
    have HB2 : Aside _ := hb2
    have HP2 : Aside _ := hp2
    clear hb1 hb2 hp2
    go_wp2_with (refine wpList_load_row rfl 28 (.tmp 1) rfl F rfl 28 _ (0, 0) _ HF2.out hu28 rfl hX.out ?_)
    refine hsd.mono ?_
    rintro e W3 ⟨rfl, hb3⟩
    clear hsd hW2 hp
    obtain ⟨G, hG⟩ : ∃ G, W3.heap.size = G := ⟨_, rfl⟩
    obtain ⟨W4, hW4⟩ : ∃ W4, W3.alloc (.cells #[.int .i64 K] 3) = W4 := ⟨_, rfl⟩
    obtain ⟨W5, hW5⟩ : ∃ W5, W4.alloc (.cells #[.pointer (some ⟨G, 0, none⟩)] 61) = W5 := ⟨_, rfl⟩
    have hs4 : W4.heap.size = G + 1 := by rw [← hW4, ← hG]; simp
    have hs5 : W5.heap.size = G + 2 := by rw [← hW5]; simp [hs4]
    have hb5 : Below W2.heap.size W2 W5 := by rw [← hW5, ← hW4]; exact bel_trans hb3 (bel_trans (bel1 W3 _) (bel1 _ _))
    have hpk : p < G := by rw [← hG]; have := hb3.size; have := lt_block HP2.out; omega
    have hk5 : W5.heap[G]? = some (.cells #[.int .i64 K] 3 (0, 0)) := by
      rw [← hW5]
      refine ((bel1 W4 _).block G (by omega)).trans ?_
      rw [← hW4, ← hG]; exact heap_alloc_new W3 _
    have hS5 : W5.heap[G + 1]? = some (.cells (ptrs [((⟨G, 0, none⟩ : Addr), K)]) 61 (0, 0)) := by rw [← hW5, ← hs4]; exact heap_alloc_new W4 _
    have hp5 : W5.heap[p]? = some (.cells #[.slice none 0 0, .bool false] 58 (0, 0)) := (hb5.block p (lt_block HP2.out)).trans HP2.out
    have hB5 : Below w.heap.size w W5 := HB0.out.trans ((bel_trans HB2.out hb5).mono HB0.out.size)
    have ht5 : Tb W5 := Tb_below HT.out hB5 htp
    have hpu : Pu W5 p (G + 2) (.slice none 0 0) [] false := ⟨hp5, ⟨by simp [bc], .inl ⟨rfl, rfl⟩⟩, by omega⟩
    have hws : WS W5 p (G + 2) F [] false f := ⟨⟨_, hpu⟩, (hb5.block F (lt_block HF2.out)).trans HF2.out, ht5, by omega, by omega, by omega, by omega, by omega⟩
    have hfd : Fd W5 p (G + 2) f d := by
      have q := HFI.out.below hB5
      have q0 := HFI.out
      have hlt : ∀ n, n < w.heap.size → n < G + 2 ∧ n ≠ p := fun n hn => by omega
      exact ⟨q.on.vD, q.on.vA, q.on.vI, q.on.vR, q.on.vT, q.on.r16, q.on.t8, q.sD, q.nD, fun ad e => hlt _ (q0.bD ad e), q.sI, q.nI, fun ad e => hlt _ (q0.bI ad e), q.sA, fun ad e => hlt _ (q0.bA ad e), q.lD, q.lA⟩
    have hnu := pnumbers p (G + 2) (G + 1) (.slice none 0 0) [] false [((⟨G, 0, none⟩ : Addr), K)] W5 ht5 hpu (by omega) (by omega) (by omega) hS5 (by omega) (by
      intro x hx
      simp at hx
      subst hx
      exact ⟨by show G ≠ p; omega, by simp [World.cell?, hk5], fun cs fr h => by rw [hk5] at h; simp at h⟩) (by simp) (by simp)
    have e1 : encs (List.map (fun x : Addr × Int => x.2) [((⟨G, 0, none⟩ : Addr), K)]) = encv K := by simp [encs]
    have e2 : (false || bads (List.map (fun x : Addr × Int => x.2) [((⟨G, 0, none⟩ : Addr), K)])) = false := by simp [bads, hbk]
    rw [e1, e2, List.nil_append] at hnu
    have HE : Aside (∀ W6, (∃ v', Pu W6 p (G + 2) v' (encv K) false) → Gr p (G + 2) W5 W6 → W6.cell? ⟨G, 0, none⟩ = some (.int .i64 K) ∧ WD W6 p (G + 2) F (encv K) false f d ∧ Below w.heap.size w W6) := by
      intro W6 h1 h2
      have hk6 := (h2.block G (by omega) (by omega) (.inl (by omega))).trans hk5
      exact ⟨by simp [World.cell?, hk6], ⟨hws.on h2 h1, hfd.on h2⟩, hB5.trans (h2.toBelow hB5.size (by omega) (by omega))⟩
    have hel : (encv K).length ≤ 8 := encv_le _
    clear hb3 hb5 hk5 hS5 hp5 hB5 ht5 hpu hws hfd e1 e2 HB0 HB2 HP2 HF2 HF0 HT
    go_wp2_with fail
    refine hnu.mono ?_
    rintro e W6 ⟨rfl, hq6, hg6⟩
    obtain ⟨ck, hws6, hB6⟩ := HE.out W6 hq6 hg6
    have hwk := HWK.out (by trivial) _ _ _ W6 hws6 (by omega) hek
    have HB6 : Aside _ := hB6
    clear hnu hq6 hg6 HE hws6 hB6 hW4 hW5 hG hs4 hs5
    go_wp2_with fail
    refine hwk.mono ?_
    rintro e W7 ⟨rfl, hws7, hg7⟩
    obtain ⟨v, hv⟩ := hws7.s.pu
    obtain ⟨o, c, rfl⟩ := own_val hv.own
    have d0 := hv.c0
    have d1 := hv.c1
    have HE7 : Aside (By w.heap.size W7 (.slice o (encv K ++ PB).length c) (encv K ++ PB) ∧ Below w.heap.size w W7) := ⟨hv.own.base (by omega), HB6.out.trans (hg7.toBelow HB6.out.size (by omega) (by omega))⟩
    clear hwk hws7 hg7 hv ck HB6
    obtain ⟨NL, hNL⟩ : ∃ NL, (encv K ++ PB).length = NL := ⟨_, rfl⟩
    rw [hNL] at d0 HE7
    have HNL : Aside _ := hNL
    clear hNL
    cases PX
    · go_wp2
      go_ret2
      refine ⟨o, c, ?_, ?_, (by rw [← hF]; exact HE7.out.2)⟩
      · have q := HNL.out
        rw [List.length_append] at q
        simp [q]
      · rw [← hF]
        have q := HE7.out.1
        rw [← HNL.out, List.length_append] at q
        exact q
    · go_wp2
      go_ret2
      exact ⟨none, 0, rfl, ⟨rfl, .inl ⟨rfl, rfl⟩⟩, (by rw [← hF]; exact HE7.out.2)⟩
end Go.Proofs.YtaeapgkfmofjlaaDoor
