/- StreamsNobody: the walk. -/
import Derived.Test.YtijndpjdmiljkaaGreatDoorNx
import Derived.Test.YtijndpjdmiljkaaGreatDoorIs
namespace Go.Proofs.YtijndpjdmiljkaaGreatDoor
open Go.RowKit
set_option linter.unusedVariables false

/-- What stays while the tables are gone through. -/
structure Lp (w X : World) (x : Lm) : Prop where
  bel : Below w.heap.size w X
  lim : X.heap[w.heap.size]? = some (.cells x.v.toArray 23 (0, 0))
  ma : X.heap[w.heap.size + 1]? = some (.cells ma0.toArray 89 (0, 0))
  two : X.heap[w.heap.size + 1 + 1]? = some (.cells #[.pointer none, .pointer (some ⟨w.heap.size + 1, 0, none⟩)] 29 (0, 0))
theorem Lp.go {w X X' : World} {x : Lm} (h : Lp w X x) (hb : Below X.heap.size X X') : Lp w X' x := ⟨bel_trans h.bel hb, heap_bel h.lim hb, heap_bel h.ma hb, heap_bel h.two hb⟩
theorem Lp.at {w X : World} {x : Lm} (h : Lp w X x) (i : Nat) (hi : i < 2) : ∃ p, X.cell? ⟨w.heap.size + 1 + 1, i, none⟩ = some (.pointer p) ∧ Nm X p := by
  match i, hi with
  | 0, _ => exact ⟨none, by simp [World.cell?, h.two], .inl rfl⟩
  | 1, _ => exact ⟨some ⟨w.heap.size + 1, 0, none⟩, by simp [World.cell?, h.two], .inr ⟨_, rfl, h.ma⟩⟩
theorem three (w : World) (x : Lm) : Lp w (((w.alloc (.cells x.v.toArray 23)).alloc (.cells ma0.toArray 89)).alloc (.cells #[.pointer none, .pointer (some ⟨w.heap.size + 1, 0, none⟩)] 29)) x := by
  have a1 := heap_alloc_new w (.cells x.v.toArray 23)
  have b1 := bel1 w (.cells x.v.toArray 23)
  have a2 := heap_alloc_new (w.alloc (.cells x.v.toArray 23)) (.cells ma0.toArray 89)
  have b2 := bel1 (w.alloc (.cells x.v.toArray 23)) (.cells ma0.toArray 89)
  have a3 := heap_alloc_new ((w.alloc (.cells x.v.toArray 23)).alloc (.cells ma0.toArray 89)) (.cells #[.pointer none, .pointer (some ⟨w.heap.size + 1, 0, none⟩)] 29)
  have b3 := bel1 ((w.alloc (.cells x.v.toArray 23)).alloc (.cells ma0.toArray 89)) (.cells #[.pointer none, .pointer (some ⟨w.heap.size + 1, 0, none⟩)] 29)
  refine ⟨bel_trans (bel_trans b1 b2) b3, heap_bel (heap_bel a1 b2) b3, ?_, ?_⟩
  · have := heap_bel a2 b3
    simpa using this
  · simpa using a3
theorem uLim : Tryz.prog.underlying 23 = some (.struct (Tryz.prog.fieldsOf 23)) := u23
theorem fr_cell {w : World} {F : Nat} (h : w.heap[F]? = some (.cells (fr2 0 0).toArray 66 (0, 0))) : w.cell? ⟨F, 0, none⟩ = some (.int .i64 0) := by
  simp [World.cell?, h, fr2]
/-- The table that New makes of limits that may be. -/
theorem tnew_ok (srv : Bool) (x y : Lm) (w : World) (hx : x.le ownM = true) (hy : y.le peerM = true) : Calls Tryz.prog 15 #[.bool srv, .agg x.v.toArray, .agg y.v.toArray] w fun e w' => ∃ T, e = .returned (.tuple #[.pointer (some ⟨T, 0, none⟩), .int .i64 0]) ∧ Below w.heap.size w w' :=
  (tnew_c srv x y w hx hy).mono fun _ _ ⟨k, h1, _, _, _, _, _, h2⟩ => ⟨k.T, h1, h2⟩
set_option maxRecDepth 100000 in
set_option maxHeartbeats 4000000 in
theorem nobody_law (x : Lm) (id : Int) (o : Option Addr) (n c : Nat) (w : World) :
    Calls Tryz.prog 7 #[.agg x.v.toArray, .int .i64 id, .slice o n c] w fun e w' => e = .returned (.bool true) ∧ Below w.heap.size w w' := by
  have HQ : Hid (∀ X, _) := is_one
  have H3 : Hid (Lp w (((w.alloc (.cells x.v.toArray 23)).alloc (.cells #[.bool false, .int .i64 0, .int .i64 0, .int .i64 0, .int .i64 0, .int .i64 0, .int .i64 0, .int .i64 0, .int .i64 0, .int .i64 0, .int .i64 0, .int .i64 0, .int .i64 0, .map none, .map none, .pointer none, .pointer none, .pointer none, .int .i64 0, .pointer none, .pointer none, .int .i64 0, .pointer none, .slice none 0 0, .map none, .int .i64 0] 89)).alloc (.cells #[.pointer none, .pointer (some ⟨w.heap.size + 1, 0, none⟩)] 29)) x) := three w x
  have HX : Hid (x.v.toArray = x.v.toArray) := rfl
  go_enter Tryz.func7, Tryz.ntmps7
  go_wp2_with fail
  generalize ((w.alloc (.cells x.v.toArray 23)).alloc (.cells #[.bool false, .int .i64 0, .int .i64 0, .int .i64 0, .int .i64 0, .int .i64 0, .int .i64 0, .int .i64 0, .int .i64 0, .int .i64 0, .int .i64 0, .int .i64 0, .int .i64 0, .map none, .map none, .pointer none, .pointer none, .pointer none, .int .i64 0, .pointer none, .pointer none, .int .i64 0, .pointer none, .slice none 0 0, .map none, .int .i64 0] 89)).alloc (.cells #[.pointer none, .pointer (some ⟨w.heap.size + 1, 0, none⟩)] 29) = W1 at *
  go_loopg [33] 3 (fun kx s33 wr => ∃ i : Nat, s33 = .int .i64 (i : Int) ∧ i ≤ 2 ∧ 2 - i ≤ kx ∧ Hid (Lp w wr x))
  case atStart => exact ⟨0, rfl, by omega, by omega, H3.out⟩
  case round =>
    obtain ⟨i, rfl, hi1, hg, HQ2⟩ := hrel
    by_cases hlt : i < 2
    · have i1 : (i : Int) < 2 := by omega
      have i1' : decide ((i : Int) < 2) = true := by simpa using i1
      have i0' : (0 : Int) ≤ (i : Int) := by omega
      have iw : IntKind.i64.wrap ((i : Int) + 1) = ((i + 1 : Nat) : Int) := by rw [IntKind.wrap_i64]; omega
      obtain ⟨p, hc, hn⟩ := HQ2.out.at i hlt
      have HN0 : Hid (Nm wr p) := hn
      have HL0 : Hid (Lp w wr x) := HQ2.out
      clear hn HQ2
      go_wp2_with fail
      refine Calls.mono (open_no p true _ HN0.out) ?_
      rintro e X' ⟨rfl, hw⟩
      subst X'
      clear hc
      go_wp2_with fail
      refine Calls.mono (accept_no p _ HN0.out) ?_
      rintro e X' ⟨rfl, hw⟩
      subst X'
      go_wp2_with fail
      refine Calls.mono (write_no p id o n c _ HN0.out) ?_
      rintro e X' ⟨rfl, hw⟩
      subst X'
      go_wp2_with fail
      refine Calls.mono (read_no p id 9 _ HN0.out) ?_
      rintro e X' ⟨rfl, hw⟩
      subst X'
      go_wp2_with fail
      refine Calls.mono (code_no p id _ HN0.out) ?_
      rintro e X' ⟨rfl, hw⟩
      subst X'
      go_wp2_with fail
      refine Calls.mono (next_no p 1000 _ HN0.out) ?_
      rintro e X1 ⟨rfl, hb1⟩
      have HL1 : Hid (Lp w X1 x) := HL0.out.go hb1
      have HN1 : Hid (Nm X1 p) := Nm.bel (show Nm wr p from HN0.out) hb1
      clear hb1 HL0 HN0 
      have HR : Hid (((X1.alloc (.cells #[.int .i64 0, .int .i64 0, .int .i64 0, .slice none 0 0, .bool false, .bool false, .int .i64 0, .int .i64 0, .int .i64 0, .slice none 0 0, .int .i64 0, .int .i64 0, .int .i64 0, .int .i64 0, .int .i64 0, .int .i64 0, .slice none 0 0, .int .u8 0, .int .u8 0, .int .u8 0, .int .u8 0, .int .u8 0, .int .u8 0, .int .u8 0, .int .u8 0, .int .u8 0, .int .u8 0, .int .u8 0, .int .u8 0, .int .u8 0, .int .u8 0, .int .u8 0, .int .u8 0, .int .u8 0, .int .u8 0, .int .u8 0, .int .u8 0, .int .u8 0, .int .u8 0, .int .u8 0, .int .u8 0, .int .i64 0] 66))).heap[X1.heap.size]? = some (.cells (fr2 0 0).toArray 66 (0, 0))) := heap_alloc_new X1 (.cells (fr2 0 0).toArray 66)
      go_upto_region 10 with (refine wpList_store_row rfl 66 (.tmp 20) (.tmp 70) rfl X1.heap.size (fr2 0 0).toArray rfl rfl 66 _ HR.out i66 rfl (by kernel_rfl) ?_)
      have HF2 : Hid _ := setRow_heap _ _ _ (fr2 0 0).toArray 66 (0, 0) HR.out
      have HL2 : Hid (Lp w ((X1.alloc (.cells #[.int .i64 0, .int .i64 0, .int .i64 0, .slice none 0 0, .bool false, .bool false, .int .i64 0, .int .i64 0, .int .i64 0, .slice none 0 0, .int .i64 0, .int .i64 0, .int .i64 0, .int .i64 0, .int .i64 0, .int .i64 0, .slice none 0 0, .int .u8 0, .int .u8 0, .int .u8 0, .int .u8 0, .int .u8 0, .int .u8 0, .int .u8 0, .int .u8 0, .int .u8 0, .int .u8 0, .int .u8 0, .int .u8 0, .int .u8 0, .int .u8 0, .int .u8 0, .int .u8 0, .int .u8 0, .int .u8 0, .int .u8 0, .int .u8 0, .int .u8 0, .int .u8 0, .int .u8 0, .int .u8 0, .int .i64 0] 66)).setRow X1.heap.size (fr2 0 0).toArray) x) := HL1.out.go (bel_set (bel1 X1 _) (Nat.le_refl _) _)
      have HN2 : Hid (Nm ((X1.alloc (.cells #[.int .i64 0, .int .i64 0, .int .i64 0, .slice none 0 0, .bool false, .bool false, .int .i64 0, .int .i64 0, .int .i64 0, .slice none 0 0, .int .i64 0, .int .i64 0, .int .i64 0, .int .i64 0, .int .i64 0, .int .i64 0, .slice none 0 0, .int .u8 0, .int .u8 0, .int .u8 0, .int .u8 0, .int .u8 0, .int .u8 0, .int .u8 0, .int .u8 0, .int .u8 0, .int .u8 0, .int .u8 0, .int .u8 0, .int .u8 0, .int .u8 0, .int .u8 0, .int .u8 0, .int .u8 0, .int .u8 0, .int .u8 0, .int .u8 0, .int .u8 0, .int .u8 0, .int .u8 0, .int .u8 0, .int .i64 0] 66)).setRow X1.heap.size (fr2 0 0).toArray) p) := Nm.bel (show Nm X1 p from HN1.out) (bel_set (bel1 X1 _) (Nat.le_refl _) _)
      generalize (X1.alloc (.cells #[.int .i64 0, .int .i64 0, .int .i64 0, .slice none 0 0, .bool false, .bool false, .int .i64 0, .int .i64 0, .int .i64 0, .slice none 0 0, .int .i64 0, .int .i64 0, .int .i64 0, .int .i64 0, .int .i64 0, .int .i64 0, .slice none 0 0, .int .u8 0, .int .u8 0, .int .u8 0, .int .u8 0, .int .u8 0, .int .u8 0, .int .u8 0, .int .u8 0, .int .u8 0, .int .u8 0, .int .u8 0, .int .u8 0, .int .u8 0, .int .u8 0, .int .u8 0, .int .u8 0, .int .u8 0, .int .u8 0, .int .u8 0, .int .u8 0, .int .u8 0, .int .u8 0, .int .u8 0, .int .u8 0, .int .i64 0] 66)).setRow X1.heap.size (fr2 0 0).toArray = X2 at *
      clear HL1 HN1 HR
      generalize X1.heap.size = F at *
      go_wp2_with fail
      refine Calls.mono (acked_no p 8 id _ HN2.out) ?_
      rintro e X3 ⟨rfl, hb1⟩
      have HL3 : Hid (Lp w X3 x) := HL2.out.go hb1
      have HN3 : Hid (Nm X3 p) := Nm.bel (show Nm X2 p from HN2.out) hb1
      have HF3 : Hid (X3.heap[F]? = some (.cells (fr2 0 0).toArray 66 (0, 0))) := heap_bel HF2.out hb1
      clear hb1 HL2 HN2 HF2
      go_wp2_with fail
      refine Calls.mono (lost_no p 8 id _ HN3.out) ?_
      rintro e X4 ⟨rfl, hb1⟩
      have HL4 : Hid (Lp w X4 x) := HL3.out.go hb1
      have HN4 : Hid (Nm X4 p) := Nm.bel (show Nm X3 p from HN3.out) hb1
      have HF4 : Hid (X4.heap[F]? = some (.cells (fr2 0 0).toArray 66 (0, 0))) := heap_bel HF3.out hb1
      clear hb1 HL3 HN3 HF3
      go_wp2_with fail
      refine Calls.mono (told_no p _ HN4.out) ?_
      rintro e X' ⟨rfl, hw⟩
      subst X'
      go_wp2_with fail
      refine Calls.mono (finish_no p id _ HN4.out) ?_
      rintro e X' ⟨rfl, hw⟩
      subst X'
      go_wp2_with fail
      refine Calls.mono (reset_no p id 0 _ HN4.out) ?_
      rintro e X' ⟨rfl, hw⟩
      subst X'
      go_wp2_with fail
      refine Calls.mono (stop_no p id 0 _ HN4.out) ?_
      rintro e X' ⟨rfl, hw⟩
      subst X'
      go_wp2_with fail
      refine Calls.mono (readable_no p _ HN4.out) ?_
      rintro e X' ⟨rfl, hw⟩
      subst X'
      go_wp2_with fail
      refine Calls.mono (take_no p 1 0 _ HN4.out) ?_
      rintro e X5 ⟨rfl, hb1⟩
      have HL5 : Hid (Lp w X5 x) := HL4.out.go hb1
      have HN5 : Hid (Nm X5 p) := Nm.bel (show Nm X4 p from HN4.out) hb1
      have HF5 : Hid (X5.heap[F]? = some (.cells (fr2 0 0).toArray 66 (0, 0))) := heap_bel HF4.out hb1
      clear hb1 HL4 HN4 HF4
      have hfc := fr_cell HF5.out
      go_wp2_with fail
      refine Calls.mono (HQ.out _) ?_
      rintro e X' ⟨rfl, hw⟩
      subst X'
      go_wp2_with fail
      go_roundg (2 - (i + 1))
      case measure => omega
      case rel => exact ⟨i + 1, rfl, by omega, Nat.le_refl _, HL5.out⟩
    · have i1 : ¬ (i : Int) < 2 := by omega
      have i1' : decide ((i : Int) < 2) = false := by simpa using i1
      cases hle : x.le ownM with
      | true =>
        as_aux_lemma =>
        obtain ⟨⟨xd0, xd1⟩, ⟨xl0, xl1⟩, ⟨xr0, xr1⟩, ⟨xu0, xu1⟩, ⟨xb0, xb1⟩, ⟨xs0, xs1⟩⟩ := le_ok hle
        simp only [ownM] at xd1 xl1 xr1 xu1 xb1 xs1
        go_wp2_with (refine wpList_load_row rfl 23 (.tmp 3) rfl w.heap.size rfl 23 _ (0, 0) _ HQ2.out.lim uLim rfl i23 ?_)
        refine Calls.mono (tnew_ok true x ⟨0, 0, 0, 0, 0, 0⟩ _ hle (by kernel_rfl)) ?_
        rintro e X1 ⟨T, rfl, hb1⟩
        have HL1 : Hid (Lp w X1 x) := HQ2.out.go hb1
        obtain ⟨a0, a1, a2, a3, a4, a5⟩ := lim_cells HL1.out.lim
        clear hb1 HQ2
        go_wp2_with fail
        go_ret
        exact ⟨rfl, HL1.out.bel⟩
      | false =>
        have hl2 : ¬ (0 ≤ x.d ∧ x.d ≤ 1073741824 ∧ 0 ≤ x.l ∧ x.l ≤ 1048576 ∧ 0 ≤ x.r ∧ x.r ≤ 1048576 ∧ 0 ≤ x.u ∧ x.u ≤ 1048576 ∧ 0 ≤ x.b ∧ x.b ≤ 1024 ∧ 0 ≤ x.s ∧ x.s ≤ 1024) := by
          rintro ⟨h1, h2, h3, h4, h5, h6, h7, h8, h9, h10, h11, h12⟩
          have : x.le ownM = true := by simp [Lm.le, isin, ownM, h1, h2, h3, h4, h5, h6, h7, h8, h9, h10, h11, h12]
          rw [hle] at this
          cases this
        by_cases h8 : 0 ≤ x.d
        · skip
          by_cases h10 : x.d ≤ 1073741824
          · skip
            by_cases h12 : 0 ≤ x.l
            · skip
              by_cases h14 : x.l ≤ 1048576
              · skip
                by_cases h16 : 0 ≤ x.r
                · skip
                  by_cases h18 : x.r ≤ 1048576
                  · skip
                    by_cases h20 : 0 ≤ x.u
                    · skip
                      by_cases h22 : x.u ≤ 1048576
                      · skip
                        by_cases h24 : 0 ≤ x.b
                        · skip
                          by_cases h26 : x.b ≤ 1024
                          · skip
                            by_cases h28 : 0 ≤ x.s
                            · skip
                              by_cases h30 : x.s ≤ 1024
                              · skip
                                exact absurd ⟨h8, h10, h12, h14, h16, h18, h20, h22, h24, h26, h28, h30⟩ hl2
                              · clear hl2
                                as_aux_lemma =>
                                go_wp2_with (refine wpList_load_row rfl 23 (.tmp 3) rfl w.heap.size rfl 23 _ (0, 0) _ HQ2.out.lim uLim rfl i23 ?_)
                                refine Calls.mono (tnew_no1 true x ⟨0, 0, 0, 0, 0, 0⟩ _ hle) ?_
                                rintro e X1 ⟨rfl, hb1⟩
                                have HL1 : Hid (Lp w X1 x) := HQ2.out.go hb1
                                obtain ⟨a0, a1, a2, a3, a4, a5⟩ := lim_cells HL1.out.lim
                                clear hb1 HQ2
                                go_wp2_with fail
                                go_ret
                                exact ⟨by simp [h30], HL1.out.bel⟩
                            · clear hl2
                              as_aux_lemma =>
                              go_wp2_with (refine wpList_load_row rfl 23 (.tmp 3) rfl w.heap.size rfl 23 _ (0, 0) _ HQ2.out.lim uLim rfl i23 ?_)
                              refine Calls.mono (tnew_no1 true x ⟨0, 0, 0, 0, 0, 0⟩ _ hle) ?_
                              rintro e X1 ⟨rfl, hb1⟩
                              have HL1 : Hid (Lp w X1 x) := HQ2.out.go hb1
                              obtain ⟨a0, a1, a2, a3, a4, a5⟩ := lim_cells HL1.out.lim
                              clear hb1 HQ2
                              go_wp2_with fail
                              go_ret
                              exact ⟨rfl, HL1.out.bel⟩
                          · clear hl2
                            as_aux_lemma =>
                            go_wp2_with (refine wpList_load_row rfl 23 (.tmp 3) rfl w.heap.size rfl 23 _ (0, 0) _ HQ2.out.lim uLim rfl i23 ?_)
                            refine Calls.mono (tnew_no1 true x ⟨0, 0, 0, 0, 0, 0⟩ _ hle) ?_
                            rintro e X1 ⟨rfl, hb1⟩
                            have HL1 : Hid (Lp w X1 x) := HQ2.out.go hb1
                            obtain ⟨a0, a1, a2, a3, a4, a5⟩ := lim_cells HL1.out.lim
                            clear hb1 HQ2
                            go_wp2_with fail
                            go_ret
                            exact ⟨rfl, HL1.out.bel⟩
                        · clear hl2
                          as_aux_lemma =>
                          go_wp2_with (refine wpList_load_row rfl 23 (.tmp 3) rfl w.heap.size rfl 23 _ (0, 0) _ HQ2.out.lim uLim rfl i23 ?_)
                          refine Calls.mono (tnew_no1 true x ⟨0, 0, 0, 0, 0, 0⟩ _ hle) ?_
                          rintro e X1 ⟨rfl, hb1⟩
                          have HL1 : Hid (Lp w X1 x) := HQ2.out.go hb1
                          obtain ⟨a0, a1, a2, a3, a4, a5⟩ := lim_cells HL1.out.lim
                          clear hb1 HQ2
                          go_wp2_with fail
                          go_ret
                          exact ⟨rfl, HL1.out.bel⟩
                      · clear hl2
                        as_aux_lemma =>
                        go_wp2_with (refine wpList_load_row rfl 23 (.tmp 3) rfl w.heap.size rfl 23 _ (0, 0) _ HQ2.out.lim uLim rfl i23 ?_)
                        refine Calls.mono (tnew_no1 true x ⟨0, 0, 0, 0, 0, 0⟩ _ hle) ?_
                        rintro e X1 ⟨rfl, hb1⟩
                        have HL1 : Hid (Lp w X1 x) := HQ2.out.go hb1
                        obtain ⟨a0, a1, a2, a3, a4, a5⟩ := lim_cells HL1.out.lim
                        clear hb1 HQ2
                        go_wp2_with fail
                        go_ret
                        exact ⟨rfl, HL1.out.bel⟩
                    · clear hl2
                      as_aux_lemma =>
                      go_wp2_with (refine wpList_load_row rfl 23 (.tmp 3) rfl w.heap.size rfl 23 _ (0, 0) _ HQ2.out.lim uLim rfl i23 ?_)
                      refine Calls.mono (tnew_no1 true x ⟨0, 0, 0, 0, 0, 0⟩ _ hle) ?_
                      rintro e X1 ⟨rfl, hb1⟩
                      have HL1 : Hid (Lp w X1 x) := HQ2.out.go hb1
                      obtain ⟨a0, a1, a2, a3, a4, a5⟩ := lim_cells HL1.out.lim
                      clear hb1 HQ2
                      go_wp2_with fail
                      go_ret
                      exact ⟨rfl, HL1.out.bel⟩
                  · clear hl2
                    as_aux_lemma =>
                    go_wp2_with (refine wpList_load_row rfl 23 (.tmp 3) rfl w.heap.size rfl 23 _ (0, 0) _ HQ2.out.lim uLim rfl i23 ?_)
                    refine Calls.mono (tnew_no1 true x ⟨0, 0, 0, 0, 0, 0⟩ _ hle) ?_
                    rintro e X1 ⟨rfl, hb1⟩
                    have HL1 : Hid (Lp w X1 x) := HQ2.out.go hb1
                    obtain ⟨a0, a1, a2, a3, a4, a5⟩ := lim_cells HL1.out.lim
                    clear hb1 HQ2
                    go_wp2_with fail
                    go_ret
                    exact ⟨rfl, HL1.out.bel⟩
                · clear hl2
                  as_aux_lemma =>
                  go_wp2_with (refine wpList_load_row rfl 23 (.tmp 3) rfl w.heap.size rfl 23 _ (0, 0) _ HQ2.out.lim uLim rfl i23 ?_)
                  refine Calls.mono (tnew_no1 true x ⟨0, 0, 0, 0, 0, 0⟩ _ hle) ?_
                  rintro e X1 ⟨rfl, hb1⟩
                  have HL1 : Hid (Lp w X1 x) := HQ2.out.go hb1
                  obtain ⟨a0, a1, a2, a3, a4, a5⟩ := lim_cells HL1.out.lim
                  clear hb1 HQ2
                  go_wp2_with fail
                  go_ret
                  exact ⟨rfl, HL1.out.bel⟩
              · clear hl2
                as_aux_lemma =>
                go_wp2_with (refine wpList_load_row rfl 23 (.tmp 3) rfl w.heap.size rfl 23 _ (0, 0) _ HQ2.out.lim uLim rfl i23 ?_)
                refine Calls.mono (tnew_no1 true x ⟨0, 0, 0, 0, 0, 0⟩ _ hle) ?_
                rintro e X1 ⟨rfl, hb1⟩
                have HL1 : Hid (Lp w X1 x) := HQ2.out.go hb1
                obtain ⟨a0, a1, a2, a3, a4, a5⟩ := lim_cells HL1.out.lim
                clear hb1 HQ2
                go_wp2_with fail
                go_ret
                exact ⟨rfl, HL1.out.bel⟩
            · clear hl2
              as_aux_lemma =>
              go_wp2_with (refine wpList_load_row rfl 23 (.tmp 3) rfl w.heap.size rfl 23 _ (0, 0) _ HQ2.out.lim uLim rfl i23 ?_)
              refine Calls.mono (tnew_no1 true x ⟨0, 0, 0, 0, 0, 0⟩ _ hle) ?_
              rintro e X1 ⟨rfl, hb1⟩
              have HL1 : Hid (Lp w X1 x) := HQ2.out.go hb1
              obtain ⟨a0, a1, a2, a3, a4, a5⟩ := lim_cells HL1.out.lim
              clear hb1 HQ2
              go_wp2_with fail
              go_ret
              exact ⟨rfl, HL1.out.bel⟩
          · clear hl2
            as_aux_lemma =>
            go_wp2_with (refine wpList_load_row rfl 23 (.tmp 3) rfl w.heap.size rfl 23 _ (0, 0) _ HQ2.out.lim uLim rfl i23 ?_)
            refine Calls.mono (tnew_no1 true x ⟨0, 0, 0, 0, 0, 0⟩ _ hle) ?_
            rintro e X1 ⟨rfl, hb1⟩
            have HL1 : Hid (Lp w X1 x) := HQ2.out.go hb1
            obtain ⟨a0, a1, a2, a3, a4, a5⟩ := lim_cells HL1.out.lim
            clear hb1 HQ2
            go_wp2_with fail
            go_ret
            exact ⟨rfl, HL1.out.bel⟩
        · clear hl2
          as_aux_lemma =>
          go_wp2_with (refine wpList_load_row rfl 23 (.tmp 3) rfl w.heap.size rfl 23 _ (0, 0) _ HQ2.out.lim uLim rfl i23 ?_)
          refine Calls.mono (tnew_no1 true x ⟨0, 0, 0, 0, 0, 0⟩ _ hle) ?_
          rintro e X1 ⟨rfl, hb1⟩
          have HL1 : Hid (Lp w X1 x) := HQ2.out.go hb1
          obtain ⟨a0, a1, a2, a3, a4, a5⟩ := lim_cells HL1.out.lim
          clear hb1 HQ2
          go_wp2_with fail
          go_ret
          exact ⟨rfl, HL1.out.bel⟩
end Go.Proofs.YtijndpjdmiljkaaGreatDoor
