/- frame.Put, over what the walk lays. -/
import Derived.Test.YtfejhlfcabbkcaaDoorPx
namespace Go.Proofs.YtfejhlfcabbkcaaDoor
open Go.ChangeShapes Go.WideShapes Go.ChangeAt Go.RowKit
set_option linter.unusedVariables false
set_option maxRecDepth 100000

theorem By.base {B B' : Nat} {w : World} {v : Value} {X : List UInt8} (h : By B w v X) (hB : B' ≤ B) : By B' w v X := by
  obtain ⟨hl, hc | ⟨g, cap, cur, he, k1, k2, k3⟩⟩ := h
  · exact ⟨hl, .inl hc⟩
  · exact ⟨hl, .inr ⟨g, cap, cur, he, Nat.le_trans hB k1, k2, k3⟩⟩
theorem Gr.toBelow {p B n : Nat} {w w' : World} (h : Gr p B w w') (hn : n ≤ w.heap.size) (hp : n ≤ p) (hB : n ≤ B) : Below n w w' := ⟨h.os, h.tape, h.output, h.size, fun k hk => h.block k (by omega) (by omega) (.inl (by omega))⟩
theorem badv_small (k : Nat) (h : k ≤ 30) : badv (k : Int) = false := by
  unfold badv vaE
  rw [decide_eq_false]
  simp
  omega
set_option maxHeartbeats 2000000 in
theorem put_c (f : Fr) (k : Nat) (w : World) (ht : Tb w) (hstd : f.std) (hfk : f.k = (k : Int)) (hk : k ≤ 30) (hk8 : ¬ (8 ≤ k ∧ k < 16)) (hks : ((k : Int) = 0 ∧ 1 ≤ f.cnt) ∨ (k : Int) = 1 ∨ (k : Int) = 16 ∨ (k : Int) = 25 ∨ (k : Int) = 26 ∨ (k : Int) = 30) (Y : List UInt8)
    (hwalk : ∀ p B F X W, WS W p B F X false f → X.length ≤ 1024 → Calls Tryd.prog 12 #[.iface 52 (.pointer (some ⟨p, 0, none⟩)), .int .i64 k, .pointer (some ⟨F, 0, none⟩)] W fun e w' => e = .returned (.tuple #[]) ∧ WS w' p B F (X ++ Y) false f ∧ Gr p B W w') :
    Calls Tryd.prog 5 #[.agg f.cells.toArray] w fun e w' => ∃ o c, e = .returned (.tuple #[.slice o (encv k ++ Y).length c, .int .i64 0]) ∧ By w.heap.size w' (.slice o (encv k ++ Y).length c) (encv k ++ Y) ∧ Below w.heap.size w w' := by
  have htp := Tb_pos ht
  obtain ⟨F, hF⟩ : ∃ F, w.heap.size = F := ⟨_, rfl⟩
  obtain ⟨W0, hW0⟩ : ∃ W0, w.alloc (.cells f.cells.toArray 33) = W0 := ⟨_, rfl⟩
  have hb0 : Below w.heap.size w W0 := by rw [← hW0]; exact bel1 w _
  have hf0 : Fm W0 F f := by rw [← hW0, ← hF]; exact heap_alloc_new w _
  have hs0 : W0.heap.size = F + 1 := by rw [← hW0, ← hF]; simp
  have c0 := hf0.at 0 _ (show f.cells[0]? = some (.int .i64 f.k) from rfl)
  rw [hfk] at c0
  have hik := isKind_yes (k : Int) W0 (by omega) (by omega)
  have his := isStr_any (k : Int) W0 (by omega) (by omega)
  rw [decide_eq_false (by omega)] at his
  have hmb := mayBe_c f W0 hstd k hfk hks
  have HSD : Aside (∀ X, Calls Tryd.prog 10 #[.agg f.cells.toArray] X fun e w' => e = .returned (.int .i64 k) ∧ Below X.heap.size X w') := fun X => standing_c f X k hfk (by omega)
  have hX : Aside ((Tryd.prog.info? 33).map (·.size) = some f.cells.toArray.size) := by show _ = some f.cells.length; rw [hstd.one.2]; exact i33s
  have HWK : Aside _ := hwalk
  have HT : Aside _ := ht
  have HF0 : Aside _ := hf0
  have HB0 : Aside _ := hb0
  have hbk := badv_small k hk
  clear ht hstd hfk hks hwalk hf0 hb0
  go_enter Tryd.func5, Tryd.ntmps5
  go_wp2_with fail
  refine hik.mono ?_
  rintro e w' ⟨rfl, hw⟩
  subst w'
  go_wp2_with fail
  refine his.mono ?_
  rintro e w' ⟨rfl, hw⟩
  subst w'
  clear hik his hW0
  go_wp2_with (refine wpList_load_row rfl 33 (.tmp 1) rfl F rfl 33 _ (0, 0) _ HF0.out hu33 rfl hX.out ?_)
  refine hmb.mono ?_
  rintro e W1 ⟨rfl, hb1⟩
  clear hmb c0
  obtain ⟨p, hp⟩ : ∃ p, W1.heap.size = p := ⟨_, rfl⟩
  obtain ⟨W2, hW2⟩ : ∃ W2, W1.alloc (.cells #[.slice none 0 0, .bool false] 47) = W2 := ⟨_, rfl⟩
  have hpF : F < p := by rw [← hp]; have := hb1.size; omega
  have hb2 : Below W0.heap.size W0 W2 := by rw [← hW2]; exact bel_trans hb1 (bel1 W1 _)
  have hp2 : W2.heap[p]? = some (.cells #[.slice none 0 0, .bool false] 47 (0, 0)) := by rw [← hW2, ← hp]; exact heap_alloc_new W1 _
  have HF2 : Aside (Fm W2 F f) := (hb2.block F (by omega)).trans HF0.out
  have hsd := HSD.out W2
  have HB2 : Aside _ := hb2
  have HP2 : Aside _ := hp2
  clear hb1 hb2 hp2
  go_wp2_with (refine wpList_load_row rfl 33 (.tmp 1) rfl F rfl 33 _ (0, 0) _ HF2.out hu33 rfl hX.out ?_)
  refine hsd.mono ?_
  rintro e W3 ⟨rfl, hb3⟩
  clear hsd hW2 hp
  obtain ⟨K, hK⟩ : ∃ K, W3.heap.size = K := ⟨_, rfl⟩
  obtain ⟨W4, hW4⟩ : ∃ W4, W3.alloc (.cells #[.int .i64 k] 3) = W4 := ⟨_, rfl⟩
  obtain ⟨W5, hW5⟩ : ∃ W5, W4.alloc (.cells #[.pointer (some ⟨K, 0, none⟩)] 50) = W5 := ⟨_, rfl⟩
  have hs4 : W4.heap.size = K + 1 := by rw [← hW4, ← hK]; simp
  have hs5 : W5.heap.size = K + 2 := by rw [← hW5]; simp [hs4]
  have hb5 : Below W2.heap.size W2 W5 := by rw [← hW5, ← hW4]; exact bel_trans hb3 (bel_trans (bel1 W3 _) (bel1 _ _))
  have hpk : p < K := by rw [← hK]; have := hb3.size; have := lt_block HP2.out; omega
  have hk5 : W5.heap[K]? = some (.cells #[.int .i64 k] 3 (0, 0)) := by
    rw [← hW5]
    refine ((bel1 W4 _).block K (by omega)).trans ?_
    rw [← hW4, ← hK]; exact heap_alloc_new W3 _
  have hS5 : W5.heap[K + 1]? = some (.cells (ptrs [((⟨K, 0, none⟩ : Addr), (k : Int))]) 50 (0, 0)) := by rw [← hW5, ← hs4]; exact heap_alloc_new W4 _
  have hp5 : W5.heap[p]? = some (.cells #[.slice none 0 0, .bool false] 47 (0, 0)) := (hb5.block p (lt_block HP2.out)).trans HP2.out
  have hB5 : Below w.heap.size w W5 := HB0.out.trans ((bel_trans HB2.out hb5).mono HB0.out.size)
  have ht5 : Tb W5 := Tb_below HT.out hB5 htp
  have hpu : Pu W5 p (K + 2) (.slice none 0 0) [] false := ⟨hp5, ⟨by simp [bc], .inl ⟨rfl, rfl⟩⟩, by omega⟩
  have hws : WS W5 p (K + 2) F [] false f := ⟨⟨_, hpu⟩, (hb5.block F (lt_block HF2.out)).trans HF2.out, ht5, by omega, by omega, by omega, by omega, by omega⟩
  have hnu := pnumbers p (K + 2) (K + 1) (.slice none 0 0) [] false [((⟨K, 0, none⟩ : Addr), (k : Int))] W5 ht5 hpu (by omega) (by omega) (by omega) hS5 (by omega) (by
    intro x hx
    simp at hx
    subst hx
    exact ⟨by show K ≠ p; omega, by simp [World.cell?, hk5], fun cs fr h => by rw [hk5] at h; simp at h⟩) (by simp) (by simp)
  have e1 : encs (List.map (fun x : Addr × Int => x.2) [((⟨K, 0, none⟩ : Addr), (k : Int))]) = encv k := by simp [encs]
  have e2 : (false || bads (List.map (fun x : Addr × Int => x.2) [((⟨K, 0, none⟩ : Addr), (k : Int))])) = false := by simp [bads, hbk]
  rw [e1, e2, List.nil_append] at hnu
  have HE : Aside (∀ W6, (∃ v', Pu W6 p (K + 2) v' (encv k) false) → Gr p (K + 2) W5 W6 → W6.cell? ⟨K, 0, none⟩ = some (.int .i64 k) ∧ WS W6 p (K + 2) F (encv k) false f ∧ Below w.heap.size w W6) := by
    intro W6 h1 h2
    have hk6 := (h2.block K (by omega) (by omega) (.inl (by omega))).trans hk5
    exact ⟨by simp [World.cell?, hk6], hws.on h2 h1, hB5.trans (h2.toBelow hB5.size (by omega) (by omega))⟩
  have hel : (encv (k : Int)).length ≤ 8 := encv_le _
  clear hb3 hb5 hk5 hS5 hp5 hB5 ht5 hpu hws e1 e2 HB0 HB2 HP2 HF2 HF0 HT
  go_wp2_with fail
  refine hnu.mono ?_
  rintro e W6 ⟨rfl, hq6, hg6⟩
  obtain ⟨ck, hws6, hB6⟩ := HE.out W6 hq6 hg6
  have hwk := HWK.out _ _ _ _ W6 hws6 (by omega)
  have HB6 : Aside _ := hB6
  clear hnu hq6 hg6 HE hws6 hB6 hW4 hW5 hK hs4 hs5
  go_wp2_with fail
  refine hwk.mono ?_
  rintro e W7 ⟨rfl, hws7, hg7⟩
  obtain ⟨v, hv⟩ := hws7.pu
  obtain ⟨o, c, rfl⟩ := own_val hv.own
  have d0 := hv.c0
  have d1 := hv.c1
  have HE7 : Aside (By w.heap.size W7 (.slice o (encv k ++ Y).length c) (encv k ++ Y) ∧ Below w.heap.size w W7) := ⟨hv.own.base (by omega), HB6.out.trans (hg7.toBelow HB6.out.size (by omega) (by omega))⟩
  clear hwk hws7 hg7 hv ck HB6
  obtain ⟨NL, hNL⟩ : ∃ NL, (encv (k : Int) ++ Y).length = NL := ⟨_, rfl⟩
  rw [hNL] at d0 HE7
  have HNL : Aside _ := hNL
  clear hNL
  go_wp2
  go_ret2
  rw [HNL.out]
  exact ⟨o, c, rfl, HE7.out⟩
end Go.Proofs.YtfejhlfcabbkcaaDoor
