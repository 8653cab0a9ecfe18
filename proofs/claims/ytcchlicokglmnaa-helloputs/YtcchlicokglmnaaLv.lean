/- HelloPuts, the walk. -/
import Derived.Test.YtcchlicokglmnaaLw
namespace Go.Proofs.Ytcchlicokglmnaa
open Go.ChangeShapes Go.WideShapes Go.ChangeAt Go.RowKit Go.Lib
set_option linter.unusedVariables false

theorem Out.str {w : World} {v : Value} {l : List UInt8} (h : Out w v l) : (convert 25 9 v).run Try.prog w = .ok (.string ⟨l.toArray⟩) w := by
  obtain ⟨o, c, rfl, h1, h2⟩ := h
  exact str_any h1 rfl h2
theorem rowB {w w' : World} {M t : Nat} {A : Array Value} (h : w.heap[M]? = some (.cells A t (0, 0))) (hb : Below w.heap.size w w') : w'.heap[M]? = some (.cells A t (0, 0)) := (hb.block M (lt_block h)).trans h
set_option maxRecDepth 100000 in
set_option maxHeartbeats 1000000 in
theorem puts_law (m : Msg) (w : World) (hok : m.ok w) (h63 : m.protos.length ≤ 9223372036854775806) : Calls Try.prog 3 #[.agg m.cells.toArray] w fun e w' => e = .returned (.bool true) ∧ Below w.heap.size w w' := by
  have HR1 : Hid _ := heap_alloc_new w (.cells m.cells.toArray 27)
  have HB1 : Hid (Below w.heap.size w (w.alloc (.cells m.cells.toArray 27))) := bl1 w _
  have HS1 : Hid (w.heap.size < (w.alloc (.cells m.cells.toArray 27)).heap.size) := by show _ < _; simp
  have HPUT : Hid (∀ X, Below w.heap.size w X → Calls Try.prog 7 #[.agg m.cells.toArray] X (PutR m X)) := fun X h => put_c m X (hok.bel h)
  have HBARE : Hid (∀ X, Below w.heap.size w X → Calls Try.prog 8 #[.agg m.cells.toArray] X (BareR m X)) := fun X h => bare_c m X (hok.bel h)
  have HREFS : Hid (∀ X, Calls Try.prog 10 #[.agg m.cells.toArray] X fun e w' => e = .returned (.agg m.cells.toArray) ∧ Below X.heap.size X w') := fun X => refs_c m X hok.ln
  have HRPUT : Hid (∀ X, Below w.heap.size w X → Calls Try.prog 9 #[.agg m.cells.toArray] X (PutR m X)) := fun X h => rput m X (hok.bel h) h63
  have HRBARE : Hid (∀ X, Below w.heap.size w X → Calls Try.prog 11 #[.agg m.cells.toArray] X (BareR m X)) := fun X h => rbare_c m X (hok.bel h) h63
  have m72 : (Try.prog.info? 27).map (·.size) = some m.cells.toArray.toList.length := i27s.trans (by simp [cells_len hok.ln])
  have hu := u27s
  clear hok h63
  generalize m.cells.toArray = A at *
  obtain ⟨L, hL⟩ : ∃ L, putL m = L := ⟨_, rfl⟩
  obtain ⟨E, hE⟩ : ∃ E, putE m = E := ⟨_, rfl⟩
  obtain ⟨L2, hL2⟩ : ∃ L2, bareL m = L2 := ⟨_, rfl⟩
  obtain ⟨E2, hE2⟩ : ∃ E2, bareE m = E2 := ⟨_, rfl⟩
  unfold PutR at HPUT HRPUT
  unfold BareR at HBARE HRBARE
  simp only [hL, hE] at HPUT HRPUT
  simp only [hL2, hE2] at HBARE HRBARE
  clear hL hE hL2 hE2
  go_enter Try.func3, Try.ntmps3
  go_wp2_with (refine wpList_load_row rfl 27 (.tmp 1) rfl w.heap.size rfl 27 _ (0, 0) _ HR1.out hu rfl m72 (Hid.out ?_))
  generalize w.alloc (.cells A 27) = W1 at *
  as_aux_lemma =>
  refine mkHid ?_
  go_wp2_with fail
  refine Calls.mono (HPUT.out W1 HB1.out) ?_
  rintro e W2 ⟨x, rfl, hx2, hb2⟩
  obtain ⟨xo, xc, rfl⟩ := own_val hx2
  have HR2 : Hid _ := rowB HR1.out hb2
  have HB2 : Hid (Below w.heap.size w W2) := HB1.out.trans (hb2.mono HB1.out.size)
  have HX2 : Hid (By W1.heap.size W2 (.slice xo L.length xc) L) := hx2
  clear hx2 hb2 HR1
  as_aux_lemma =>
  go_wp2_with (refine wpList_load_row rfl 27 (.tmp 1) rfl w.heap.size rfl 27 _ (0, 0) _ HR2.out hu rfl m72 (Hid.out ?_))
  refine mkHid ?_
  go_wp2_with fail
  refine Calls.mono (HBARE.out W2 HB2.out) ?_
  rintro e W3 ⟨y, rfl, hy3, hb3⟩
  have HR3 : Hid _ := rowB HR2.out hb3
  have HB3 : Hid (Below w.heap.size w W3) := HB2.out.trans (hb3.mono HB2.out.size)
  have HX3 : Hid (By W1.heap.size W3 (.slice xo L.length xc) L) := By.below HX2.out hb3
  have HLT : Hid (∀ k, (Value.slice xo L.length xc).ownBlock = some k → k < W2.heap.size) := fun k hk => (World.ownsRow.lt HX2.out k hk).2
  have HGE : Hid (∀ k, (Value.slice xo L.length xc).ownBlock = some k → W1.heap.size ≤ k) := fun k hk => (World.ownsRow.lt HX2.out k hk).1
  have H23 : Hid (W2.heap.size ≤ W3.heap.size) := hb3.size
  obtain ⟨yo, yc, rfl, hys, hyn⟩ := hy3
  have HY3 : Hid (Out W3 (.slice yo L2.length yc) L2) := ⟨yo, yc, rfl, hys, hyn⟩
  clear hys hyn hb3 HR2 HX2 HBARE
  as_aux_lemma =>
  go_wp2_with (refine wpList_load_row rfl 27 (.tmp 1) rfl w.heap.size rfl 27 _ (0, 0) _ HR3.out hu rfl m72 (Hid.out ?_))
  refine mkHid ?_
  go_wp2_with fail
  refine Calls.mono (HREFS.out W3) ?_
  rintro e W4 ⟨rfl, hb4⟩
  have HR4 : Hid _ := rowB HR3.out hb4
  have HB4 : Hid (Below w.heap.size w W4) := HB3.out.trans (hb4.mono HB3.out.size)
  have HX4 : Hid (By W1.heap.size W4 (.slice xo L.length xc) L) := By.below HX3.out hb4
  have HY4 : Hid (Out W4 (.slice yo L2.length yc) L2) := HY3.out.bel hb4
  have H24 : Hid (W2.heap.size ≤ W4.heap.size) := Nat.le_trans H23.out hb4.size
  clear hb4 HR3 HX3 HY3 H23
  as_aux_lemma =>
  go_wp2_with fail
  refine Calls.mono (HRPUT.out W4 HB4.out) ?_
  rintro e W5 ⟨z, rfl, hz5, hb5⟩
  obtain ⟨zo, zc, rfl⟩ := own_val hz5
  have HR5 : Hid _ := rowB HR4.out hb5
  have HB5 : Hid (Below w.heap.size w W5) := HB4.out.trans (hb5.mono HB4.out.size)
  have HX5 : Hid (By W1.heap.size W5 (.slice xo L.length xc) L) := By.below HX4.out hb5
  have HY5 : Hid (Out W5 (.slice yo L2.length yc) L2) := HY4.out.bel hb5
  have HZ5 : Hid (By W4.heap.size W5 (.slice zo L.length zc) L) := hz5
  have HZG : Hid (∀ k, (Value.slice zo L.length zc).ownBlock = some k → W2.heap.size ≤ k) := fun k hk => Nat.le_trans H24.out (World.ownsRow.lt hz5 k hk).1
  clear hb5 hz5 HR4 HX4 HY4 HRPUT H24
  as_aux_lemma =>
  go_wp2_with (refine wpList_load_row rfl 27 (.tmp 1) rfl w.heap.size rfl 27 _ (0, 0) _ HR5.out hu rfl m72 (Hid.out ?_))
  refine mkHid ?_
  go_wp2_with fail
  refine Calls.mono (HREFS.out W5) ?_
  rintro e W6 ⟨rfl, hb6⟩
  have HR6 : Hid _ := rowB HR5.out hb6
  have HB6 : Hid (Below w.heap.size w W6) := HB5.out.trans (hb6.mono HB5.out.size)
  have HX6 : Hid (By W1.heap.size W6 (.slice xo L.length xc) L) := By.below HX5.out hb6
  have HY6 : Hid (Out W6 (.slice yo L2.length yc) L2) := HY5.out.bel hb6
  have HZ6 : Hid (By W4.heap.size W6 (.slice zo L.length zc) L) := By.below HZ5.out hb6
  clear hb6 HR5 HX5 HY5 HZ5 HREFS
  as_aux_lemma =>
  go_wp2_with fail
  refine Calls.mono (HRBARE.out W6 HB6.out) ?_
  rintro e W7 ⟨q, rfl, hq7, hb7⟩
  obtain ⟨qo, qc, rfl, hqs, hqn⟩ := hq7
  have hQ : Out W7 (.slice qo L2.length qc) L2 := ⟨qo, qc, rfl, hqs, hqn⟩
  have HR7 : Hid _ := rowB HR6.out hb7
  have HB7 : Hid (Below w.heap.size w W7) := HB6.out.trans (hb7.mono HB6.out.size)
  have HX7 : Hid (By W1.heap.size W7 (.slice xo L.length xc) L) := By.below HX6.out hb7
  have HZ7 : Hid (By W4.heap.size W7 (.slice zo L.length zc) L) := By.below HZ6.out hb7
  have sx := (By.out HX7.out).str
  have sy := (HY6.out.bel hb7).str
  have sz := (By.out HZ7.out).str
  have sq := hQ.str
  clear hb7 hqs hqn hQ HR6 HX6 HY6 HZ6 HRBARE
  generalize hN : L.length = N at *
  as_aux_lemma =>
  go_wp2_with fail
  clear sx sy sz sq
  go_loopg [11] (N + 1) (fun kx s11 wr => ∃ i : Nat, s11 = .int .i64 (i : Int) ∧ i ≤ N ∧ N - i ≤ kx ∧ Hid (Lw W7 W1.heap.size (.slice xo N xc) N wr))
  case atStart => exact ⟨0, rfl, by omega, by omega, ⟨L, hN, HX7.out⟩, fun _ _ => rfl, rfl, rfl, rfl, rfl⟩
  case round =>
    obtain ⟨i, rfl, hi1, hg, HQ⟩ := hrel
    by_cases hlt : i < N
    · have i1 : (i : Int) < (N : Int) := by omega
      have i1' : decide ((i : Int) < (N : Int)) = true := by simpa using i1
      have i0' : (0 : Int) ≤ (i : Int) := by omega
      have iw : IntKind.i64.wrap ((i : Int) + 1) = ((i + 1 : Nat) : Int) := by
        have : N ≤ 9223372036854775807 := by
          obtain ⟨_, ⟨h1, h2⟩ | ⟨g, cap, cur, e, _, _, h3, h4, _⟩⟩ := HX7.out
          · omega
          · unfold maxLen at h4; omega
        rw [IntKind.wrap_i64]; omega
      obtain ⟨g, rfl⟩ : ∃ g, xo = some ⟨g, 0, none⟩ := by
        obtain ⟨_, ⟨h1, h2⟩ | ⟨g, cap, cur, e, _⟩⟩ := HX7.out
        · omega
        · injection e with e; exact ⟨g, e⟩
      obtain ⟨b, hc, hf, hst⟩ := HQ.out.at i hlt
      have HST : Hid _ := hst
      have hb0 : (0 : Int) ≤ (b.toNat : Int) := by omega
      have hb1 : (b.toNat : Int) < 256 := by have := b.toNat_lt; omega
      have hbw : IntKind.u8.wrap ((b.toNat : Int) + 1) = ((b.toNat : Int) + 1) % 256 := by rw [IntKind.wrap_u8]
      obtain ⟨bv, hbv⟩ : ∃ bv, bv = ((b.toNat : Int) + 1) % 256 := ⟨_, rfl⟩
      rw [← hbv] at hbw
      have HBV : Hid _ := hbv
      clear hst hbv HQ
      as_aux_lemma =>
      go_wp2_with fail
      go_roundg (N - (i + 1))
      case measure => omega
      case rel => exact ⟨i + 1, rfl, by omega, Nat.le_refl _, HST.out _ HBV.out⟩
    · have i1 : ¬ (i : Int) < (N : Int) := by omega
      have i1' : decide ((i : Int) < (N : Int)) = false := by simpa using i1
      have hq := HQ.out
      have hMk : some w.heap.size ≠ (Value.slice xo N xc).ownBlock := by
        intro e
        have := HGE.out _ e.symm
        have := HS1.out
        omega
      have HR8 : Hid (wr.heap[w.heap.size]? = some (.cells A 27 (0, 0))) := (hq.blk _ hMk).trans HR7.out
      have HB8 : Hid (Below w.heap.size w wr) := ⟨hq.os.trans HB7.out.os, hq.tape.trans HB7.out.tape, hq.output.trans HB7.out.output, by rw [hq.siz]; exact HB7.out.size, fun k hk => (hq.blk k (by
        intro e
        have := HGE.out _ e.symm
        have := HS1.out
        omega)).trans (HB7.out.block k hk)⟩
      have HZ8 : Hid (By W4.heap.size wr (.slice zo N zc) L) := by
        have h0 := HZ7.out
        obtain ⟨h1, h2 | ⟨g, cap, cur, e, h3, h4, h5⟩⟩ := h0
        · exact ⟨h1, .inl h2⟩
        · refine ⟨h1, .inr ⟨g, cap, cur, e, h3, (hq.blk g ?_).trans h4, h5⟩⟩
          intro e'
          have a1 := HLT.out _ e'.symm
          have a2 := HZG.out g (by rw [e]; rfl)
          omega
      clear hq HQ hMk HR7 HB7 HX7 HZ7 HGE HLT HZG
      as_aux_lemma =>
      go_wp2_with (refine wpList_load_row rfl 27 (.tmp 1) rfl w.heap.size rfl 27 _ (0, 0) _ HR8.out hu rfl m72 (Hid.out ?_))
      refine mkHid ?_
      go_wp2_with fail
      refine Calls.mono (HPUT.out wr HB8.out) ?_
      rintro e W9 ⟨v9, rfl, hy9, hb9⟩
      obtain ⟨vo, vc, rfl⟩ := own_val hy9
      have HB9 : Hid (Below w.heap.size w W9) := HB8.out.trans (hb9.mono HB8.out.size)
      have hz9 : By W4.heap.size W9 (.slice zo L.length zc) L := By.below (by rw [hN]; exact HZ8.out) hb9
      have sv := (By.out hy9).str
      have sz := (By.out hz9).str
      rw [hN] at sz sv
      rw [hN]
      clear hy9 hz9 hb9 HZ8 HR8 HPUT
      go_wp2_with fail
      refine Calls.mono (names_c W9) ?_
      rintro e W10 ⟨rfl, rfl⟩
      go_wp2_with fail
      go_ret
      exact ⟨rfl, HB9.out⟩
end Go.Proofs.Ytcchlicokglmnaa
