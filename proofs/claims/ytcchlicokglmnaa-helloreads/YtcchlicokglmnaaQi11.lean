/- The reference's Read: kind 11. -/
import Derived.Test.YtcchlicokglmnaaQt
namespace Go.Proofs.Ytcchlicokglmnaa
open Go.ChangeShapes Go.WideShapes Go.ChangeAt Go.RowKit Go.Lib
set_option linter.unusedVariables false

section
variable {w : World} {o : Option Addr} {L : List UInt8} {c : Nat} {a : Int}
set_option maxRecDepth 100000 in
set_option maxHeartbeats 4000000 in
theorem rread_11 (hs : Sl w o L) (hL : L.length ≤ 9223372036854000000) (hc : L.length ≤ c) (hc63 : c ≤ 9223372036854775807) (hE : cutE L a = 0) (hk : getV L a 1 = 11) : Calls Try.prog 14 #[.slice o L.length c, .int .i64 a] w (ReadR L a w) := by
  obtain ⟨A, b, off, N0, N1, N2, N3, rfl, rfl, fit, hn, h0, l0, l1, l2, l3, c0, c1, c2, c3⟩ := pre_c hs hE
  obtain rfl : N0 = 11 := by rw [hk] at h0; omega
  obtain ⟨n, hnn⟩ : ∃ n, N1 * 65536 + N2 * 256 + N3 = n := ⟨_, rfl⟩
  rw [hnn] at hn fit
  obtain ⟨T0, hT0⟩ : ∃ T, (m0 0).cells.toArray = T := ⟨_, rfl⟩
  have hz := rz34
  rw [hT0] at hz
  have HT0 : Hid _ := hT0
  have HRW : Hid _ := heap_alloc_new w (.cells T0 34)
  have HB1 : Hid (Below w.heap.size w (w.alloc (.cells T0 34))) := bl1 w _
  have HFIN : Hid (Fin (w.alloc (.cells T0 34)) w L (A : Int) 11) := fin_of hs hE h0 HB1.out
  have HS1 : Hid (Stt (w.alloc (.cells T0 34)) b off L A n c) := st_of (Sl_bel hs HB1.out) fit hn hc hc63
  have HSZ1 : Hid ((w.alloc (.cells T0 34)).heap.size = w.heap.size + 1) := by show _ = _; simp
  clear hT0 hn h0 hk hE
  have HBW0 : Hid _ := HB1.out
  have u0 := cell_bel HB1.out c0
  have u1 := cell_bel HB1.out c1
  have u2 := cell_bel HB1.out c2
  have u3 := cell_bel HB1.out c3
  clear c0 c1 c2 c3 hs
  obtain ⟨ll, hll⟩ : ∃ ll, L.length = ll := ⟨_, rfl⟩
  rw [hll] at fit hc hL ⊢
  clear hll HB1
  have g0 : ¬ (A : Int) < 0 := by omega
  have g1 : ¬ (ll : Int) < (A : Int) := by omega
  have g1' : decide ((ll : Int) < (A : Int)) = false := by simpa using g1
  have g0' : decide ((A : Int) < 0) = false := by simp
  obtain ⟨la, hla⟩ : ∃ la, ll - A = la := ⟨_, rfl⟩
  obtain ⟨ca, hca⟩ : ∃ ca, c - A = ca := ⟨_, rfl⟩
  have lw : 4 + n ≤ la := by omega
  have lc : la ≤ ca := by omega
  have lc2 : ca ≤ 9223372036854775807 := by omega
  have lb : la ≤ 9223372036854000000 := by omega
  have g2 : ¬ (la : Int) < 4 := by omega
  have g2' : decide ((la : Int) < 4) = false := by simpa using g2
  have i1 : (1 : Int) < (la : Int) := by omega
  have i2 : (2 : Int) < (la : Int) := by omega
  have i3 : (3 : Int) < (la : Int) := by omega
  have i0 : (0 : Int) < (la : Int) := by omega
  have j0 : 0 < la := by omega
  have j1 : 1 < la := by omega
  have j2 : 2 < la := by omega
  have j3 : 3 < la := by omega
  have HAL : Hid (A + la = ll ∧ A + ca = c) := ⟨by omega, by omega⟩
  have ni : (N1 : Int) * 65536 + (N2 : Int) * 256 + (N3 : Int) = (n : Int) := by omega
  have ln16 : n < 16777216 := by omega
  go_enter Try.func14, Try.ntmps14
  go_wp2_with fail
  clear hla hca
  have HBD : Hid _ := bld (w.alloc (.cells T0 34))
  have HRW1 : Hid ((w.alloc (.cells T0 34)).drew.heap[w.heap.size]? = some (.cells T0 34 (0, 0))) := HRW.out
  have HSZ2 : Hid ((w.alloc (.cells T0 34)).drew.heap.size = w.heap.size + 1) := HSZ1.out
  have v0 : (w.alloc (.cells T0 34)).drew.cell? ⟨b, off + A, none⟩ = some (.int .u8 11) := u0
  have HV : Hid ((w.alloc (.cells T0 34)).drew.cell? ⟨b, off + A + 1, none⟩ = some (.int .u8 (N1 : Int)) ∧ (w.alloc (.cells T0 34)).drew.cell? ⟨b, off + A + 2, none⟩ = some (.int .u8 (N2 : Int)) ∧ (w.alloc (.cells T0 34)).drew.cell? ⟨b, off + A + 3, none⟩ = some (.int .u8 (N3 : Int))) := ⟨u1, u2, u3⟩
  clear u0 u1 u2 u3 HSZ1 g0 g0' g1 g1'
  refine wp_region_held_drew (S := fun X => X.cell? ⟨b, off + A + 1, none⟩ = some (.int .u8 (N1 : Int)) ∧ X.cell? ⟨b, off + A + 2, none⟩ = some (.int .u8 (N2 : Int)) ∧ X.cell? ⟨b, off + A + 3, none⟩ = some (.int .u8 (N3 : Int))) (by kernel_rfl) HV.out (fun hHeld => ?_)
  clear HV
  generalize (w.alloc (.cells T0 34)).drew = X1 at *
  generalize w.alloc (.cells T0 34) = w1 at *
  
  refine wpAnyH_take (i := 0) (v := .slice (some ⟨b, off + A, none⟩) la ca) rfl (by kernel_rfl) (by kernel_rfl) (by kernel_rfl) (fun _ _ _ h => h) (Or.inl ⟨by rfl, by intro w hs; go_simp⟩) hHeld ?_
  refine norm_any' (fun K hK => ?_)
  go_simp
  refine hK _ _ ?_
  clear hK K
  refine wpAnyH_take (i := 1) (v := .pointer (some ⟨b, off + A + 1, none⟩)) rfl (by kernel_rfl) (by kernel_rfl) (by kernel_rfl) (fun _ _ _ h => h) (Or.inl ⟨by rfl, by intro w hs; go_simp⟩) hHeld ?_
  refine norm_any' (fun K hK => ?_)
  go_simp
  refine hK _ _ ?_
  clear hK K
  refine wpAnyH_take (i := 2) (v := .int .u8 (N1 : Int)) rfl (by kernel_rfl) (by kernel_rfl) (by kernel_rfl) (fun _ _ _ h => h) (Or.inl ⟨by rfl, by intro w hs; have q := hs.1; go_simp⟩) hHeld ?_
  refine norm_any' (fun K hK => ?_)
  go_simp
  refine hK _ _ ?_
  clear hK K
  refine wpAnyH_take (i := 3) (v := .int .i64 (N1 : Int)) rfl (by kernel_rfl) (by kernel_rfl) (by kernel_rfl) (fun _ _ _ h => h) (Or.inl ⟨by rfl, by intro w hs; go_simp; try (rw [IntKind.wrap_i64]; omega)⟩) hHeld ?_
  refine norm_any' (fun K hK => ?_)
  go_simp
  refine hK _ _ ?_
  clear hK K
  refine wpAnyH_take (i := 4) (v := .int .i64 ((N1 : Int) * 65536)) rfl (by kernel_rfl) (by kernel_rfl) (by kernel_rfl) (fun _ _ _ h => h) (Or.inl ⟨by rfl, by intro w hs; go_simp; try (rw [IntKind.wrap_i64]; omega)⟩) hHeld ?_
  refine norm_any' (fun K hK => ?_)
  go_simp
  refine hK _ _ ?_
  clear hK K
  refine wpAnyH_take (i := 5) (v := .slice (some ⟨b, off + A, none⟩) la ca) rfl (by kernel_rfl) (by kernel_rfl) (by kernel_rfl) (fun _ _ _ h => h) (Or.inl ⟨by rfl, by intro w hs; go_simp⟩) hHeld ?_
  refine norm_any' (fun K hK => ?_)
  go_simp
  refine hK _ _ ?_
  clear hK K
  refine wpAnyH_take (i := 6) (v := .pointer (some ⟨b, off + A + 2, none⟩)) rfl (by kernel_rfl) (by kernel_rfl) (by kernel_rfl) (fun _ _ _ h => h) (Or.inl ⟨by rfl, by intro w hs; go_simp⟩) hHeld ?_
  refine norm_any' (fun K hK => ?_)
  go_simp
  refine hK _ _ ?_
  clear hK K
  refine wpAnyH_take (i := 7) (v := .int .u8 (N2 : Int)) rfl (by kernel_rfl) (by kernel_rfl) (by kernel_rfl) (fun _ _ _ h => h) (Or.inl ⟨by rfl, by intro w hs; have q := hs.2.1; go_simp⟩) hHeld ?_
  refine norm_any' (fun K hK => ?_)
  go_simp
  refine hK _ _ ?_
  clear hK K
  refine wpAnyH_take (i := 8) (v := .int .i64 (N2 : Int)) rfl (by kernel_rfl) (by kernel_rfl) (by kernel_rfl) (fun _ _ _ h => h) (Or.inl ⟨by rfl, by intro w hs; go_simp; try (rw [IntKind.wrap_i64]; omega)⟩) hHeld ?_
  refine norm_any' (fun K hK => ?_)
  go_simp
  refine hK _ _ ?_
  clear hK K
  refine wpAnyH_take (i := 9) (v := .int .i64 ((N2 : Int) * 256)) rfl (by kernel_rfl) (by kernel_rfl) (by kernel_rfl) (fun _ _ _ h => h) (Or.inl ⟨by rfl, by intro w hs; go_simp; try (rw [IntKind.wrap_i64]; omega)⟩) hHeld ?_
  refine norm_any' (fun K hK => ?_)
  go_simp
  refine hK _ _ ?_
  clear hK K
  refine wpAnyH_take (i := 10) (v := .int .i64 ((N1 : Int) * 65536 + (N2 : Int) * 256)) rfl (by kernel_rfl) (by kernel_rfl) (by kernel_rfl) (fun _ _ _ h => h) (Or.inl ⟨by rfl, by intro w hs; go_simp; try (rw [IntKind.wrap_i64]; omega)⟩) hHeld ?_
  refine norm_any' (fun K hK => ?_)
  go_simp
  refine hK _ _ ?_
  clear hK K
  refine wpAnyH_take (i := 11) (v := .slice (some ⟨b, off + A, none⟩) la ca) rfl (by kernel_rfl) (by kernel_rfl) (by kernel_rfl) (fun _ _ _ h => h) (Or.inl ⟨by rfl, by intro w hs; go_simp⟩) hHeld ?_
  refine norm_any' (fun K hK => ?_)
  go_simp
  refine hK _ _ ?_
  clear hK K
  refine wpAnyH_take (i := 12) (v := .pointer (some ⟨b, off + A + 3, none⟩)) rfl (by kernel_rfl) (by kernel_rfl) (by kernel_rfl) (fun _ _ _ h => h) (Or.inl ⟨by rfl, by intro w hs; go_simp⟩) hHeld ?_
  refine norm_any' (fun K hK => ?_)
  go_simp
  refine hK _ _ ?_
  clear hK K
  refine wpAnyH_take (i := 13) (v := .int .u8 (N3 : Int)) rfl (by kernel_rfl) (by kernel_rfl) (by kernel_rfl) (fun _ _ _ h => h) (Or.inl ⟨by rfl, by intro w hs; have q := hs.2.2; go_simp⟩) hHeld ?_
  refine norm_any' (fun K hK => ?_)
  go_simp
  refine hK _ _ ?_
  clear hK K
  refine wpAnyH_take (i := 14) (v := .int .i64 (N3 : Int)) rfl (by kernel_rfl) (by kernel_rfl) (by kernel_rfl) (fun _ _ _ h => h) (Or.inl ⟨by rfl, by intro w hs; go_simp; try (rw [IntKind.wrap_i64]; omega)⟩) hHeld ?_
  refine norm_any' (fun K hK => ?_)
  go_simp
  refine hK _ _ ?_
  clear hK K
  refine wpAnyH_take (i := 15) (v := .int .i64 (n : Int)) rfl (by kernel_rfl) (by kernel_rfl) (by kernel_rfl) (fun _ _ _ h => h) (Or.inl ⟨by rfl, by intro w hs; go_simp; try (rw [IntKind.wrap_i64]; omega)⟩) hHeld ?_
  refine norm_any' (fun K hK => ?_)
  go_simp
  refine hK _ _ ?_
  clear hK K
  refine wpAnyH_take (i := 16) (v := .int .i64 (n : Int)) rfl (by kernel_rfl) (by kernel_rfl) (by kernel_rfl) (fun _ _ _ h => h) (Or.inl ⟨by rfl, by intro w hs; go_simp⟩) hHeld ?_
  refine norm_any' (fun K hK => ?_)
  go_simp
  refine hK _ _ ?_
  clear hK K
  refine wpAnyH_done (by kernel_rfl) ?_ _
  clear hHeld
  have s1 : wrap64 ((la : Int) - 4) = (la : Int) - 4 := by unfold wrap64; omega
  have s1' : IntKind.i64.wrap ((la : Int) - 4) = (la : Int) - 4 := by rw [IntKind.wrap_i64]; omega
  have g3 : ¬ (la : Int) - 4 < (n : Int) := by omega
  have g3' : decide ((la : Int) - 4 < (n : Int)) = false := by simpa using g3
  have hts : T0.size = 72 := by rw [← HT0.out]; rfl
  have hRX : Hid _ := heap_alloc_new X1 (.cells T0 34)
  refine mkHid ?_
  go_wp2_with (refine wb34 rfl (.tmp 55) rfl (.int .i64 11) (.agg (m0 11).cells.toArray) (by kernel_rfl) (bd34k 11) (Hid.out ?_))
  refine mkHid ?_
  go_wp2_with (first
    | (refine wpList_store_row rfl 34 (.tmp 8) (.tmp 56) rfl X1.heap.size (m0 11).cells.toArray (by kernel_rfl) (by kernel_rfl) 34 T0 hRX.out (ri34.trans rfl) (by rw [hts]; rfl) (cells_one' _) (Hid.out ?_)))
  refine mkHid ?_
  have hc2 : ((X1.alloc (.cells T0 34)).setRow X1.heap.size (m0 11).cells.toArray).cell? ⟨X1.heap.size, 0, none⟩ = some (.int .i64 11) := cell0 (setRow_heap _ _ _ (m0 11).cells.toArray 34 (0, 0) hRX.out)
  have hsz3 : ((X1.alloc (.cells T0 34)).setRow X1.heap.size (m0 11).cells.toArray).heap.size = X1.heap.size + 1 := by simp [World.setRow]
  obtain ⟨o2, ho2⟩ : ∃ o2, (if ca = 4 then some (⟨b, off + A, none⟩ : Addr) else some ⟨b, off + A + 4, none⟩) = o2 := ⟨_, rfl⟩
  have HQ : Hid _ := qm_start (k := 11) (T0 := T0) HS1.out HBD.out HAL.out.2 ln16 o2 ho2
  have s4 : wrap64 (4 + (n : Int)) = 4 + (n : Int) := w4a n ln16
  have s4' : IntKind.i64.wrap (4 + (n : Int)) = 4 + (n : Int) := w4b n ln16
  have HKN : Hid (∀ X, Calls Try.prog 19 #[.int .i64 11] X fun e w' => e = .returned (.bool true) ∧ w' = X) := known_k 11 (by decide)
  generalize (X1.alloc (.cells T0 34)).setRow X1.heap.size (m0 11).cells.toArray = X2 at *
  clear hRX hts ni hnn i0 i1 i2 i3 j0 j1 j2 j3 g2 g2' g3 g3' s1 s1' l0 l1 l2 l3 v0
  as_aux_lemma =>
  go_wp2_with fail
  refine Calls.mono (HKN.out X2) ?_
  rintro e X2' ⟨rfl, rfl⟩
  go_wp2_with fail
  have HCN : Hid (cutN L (A : Int) = n) := HS1.out.cn
  have HLW : Hid (A + la = ll ∧ 4 + n ≤ la ∧ la ≤ 9223372036854000000 ∧ ll ≤ 9223372036854000000) := ⟨HAL.out.1, lw, lb, hL⟩
  have HBW : Hid (Below w.heap.size w w1) := HBW0.out
  obtain ⟨p, hp⟩ : ∃ p, X1.heap.size + 1 = p := ⟨_, rfl⟩
  rw [hp] at HQ ⊢
  obtain ⟨M, hM⟩ : ∃ M, X1.heap.size = M := ⟨_, rfl⟩
  rw [hM] at HQ ⊢
  clear hp hM ho2 hc2 hsz3 s4 s4' HKN HS1 HBD HAL HRW1 HSZ2 lw lc lc2 lb hL hc fit hc63
  generalize (X2'.alloc (.cells #[.slice o2 n (ca - 4), .int .i64 0, .bool false] 69)) = X3 at *
  generalize ca - 4 = cc at *
  obtain ⟨B, hB⟩ : ∃ B, bdy L (A : Int) = B := ⟨_, rfl⟩
  rw [hB] at HQ
  have HB : Hid _ := hB
  clear hB
  
  refine Calls.mono (rshort_c2 HQ.out.rq) ?_
  rintro e X4 ⟨rfl, hrq, hgs⟩
  have HQc : Hid _ := HQ.out.call hgs hrq
  clear hrq hgs HQ
  have hSX4 : (rS B (false, 0)).2.size ≤ 255 := rS_any
  obtain ⟨SX4, eSX4⟩ : ∃ S, (rS B (false, 0)).2 = S := ⟨_, rfl⟩
  rw [eSX4] at hSX4
  have HQn : Hid _ := HQc.out.set1 (.string SX4) { m0 11 with name := SX4 } (Msg.name' HQc.out.ln SX4) ⟨HQc.out.ln.r, HQc.out.ln.s, HQc.out.ln.b, HQc.out.ln.k⟩ ⟨rfl, rfl, rfl⟩ ⟨rfl, rfl, rfl⟩ ⟨rfl, rfl, rfl⟩
  obtain ⟨⟨xX4, hxX4⟩, hfX4⟩ := HQc.out.cellM (j := 33) (by decide)
  rw [eSX4]
  go_wp2_with fail
  clear hxX4 hfX4
  generalize X4.setCell ⟨M, 33, none⟩ (.string SX4) = X4s at *
  
  refine Calls.mono (rhandle_c HQn.out.rq) ?_
  rintro e X5 ⟨rfl, hrq, hgs⟩
  have HQnc : Hid _ := HQn.out.call hgs hrq
  have hTX5 := rT_len (L := B) 16 HQn.out.rq.le
  clear hrq hgs HQn
  obtain ⟨TX5, eTX5⟩ : ∃ T, (rT B 16 (rS B (false, 0)).1).2 = T := ⟨_, rfl⟩
  rw [eTX5] at hTX5
  have HHX5 : Hid _ := HQnc.out.hand 55 TX5 hTX5 (by decide)
  have HQnn : Hid _ := HQnc.out.turn _ { ({ m0 11 with name := SX4 } : Msg) with mark := TX5 } (Msg.mark' HQnc.out.ln TX5 hTX5) ⟨HQnc.out.ln.r, HQnc.out.ln.s, HQnc.out.ln.b, hTX5⟩ ⟨rfl, rfl, rfl⟩ ⟨rfl, rfl, rfl⟩ ⟨rfl, rfl, rfl⟩
  rw [eTX5]
  refine mkHid ?_
  go_wp2_with (refine wpList_store_mid rfl 22 (.tmp 201) (.tmp 200) rfl M 55 (bc TX5).toArray (by kernel_rfl) (by kernel_rfl) HHX5.out.1 (ri22.trans (by simp [bc, hTX5])) (bc_all TX5) (Hid.out ?_))
  rw [HHX5.out.2]
  refine mkHid ?_
  generalize X5.setRow M _ = X5s at *
  
  obtain ⟨s9, e9⟩ : ∃ S, (rT B 16 (rS B (false, 0)).1).1 = S := ⟨_, rfl⟩
  obtain ⟨m9, em9⟩ : ∃ m, ({ m0 11 with name := SX4, mark := TX5 } : Msg) = m := ⟨_, rfl⟩
  have HQ9 : Hid (Qm w1 X5s p M o2 B cc s9 m9) := by rw [← e9, ← em9]; exact HQnn.out
  have HF9 : Hid _ := HFIN.out X5s p M o2 cc s9 m9 (by rw [HB.out]; exact HQ9.out) (by rw [HB.out, rr_11, ← e9]) (by rw [HB.out, rr_11, ← em9]; rw [eTX5, eSX4]; rfl)
  rw [HCN.out] at HF9
  have HN9 : Hid (m9.name.size ≤ 65535 ∧ m9.protos.length ≤ 255 ∧ (∀ S ∈ m9.protos, S.size ≤ 255) ∧ m9.params.length ≤ 65535 ∧ m9.ticket.length ≤ 65535) := by rw [← em9]; exact ⟨by show SX4.size ≤ _; omega, by simp [m0], by simp [m0], by simp [m0], by simp [m0]⟩
  clear e9 em9 HFIN HQnn eTX5 eSX4 hSX4 hTX5 HHX5
  generalize X5s = X9 at *
  have HR9 : Hid (X9.heap[w.heap.size]? = some (.cells T0 34 (0, 0))) := (HQ9.out.bel.block _ (lt_block HRW.out)).trans HRW.out
  have HW9 : Hid (Below w.heap.size w X9) := HBW.out.trans (HQ9.out.bel.mono HBW.out.size)
  have HRM : Hid (w.heap.size < w1.heap.size) := lt_block HRW.out
  have hts : T0.size = 72 := by rw [← HT0.out]; rfl
  obtain ⟨sb, sa⟩ := s9
  have q1 := HQ9.out.rq.c1
  have q2 := HQ9.out.rq.c2
  have HBAD : Hid (∀ X, X.heap[w.heap.size]? = some (.cells T0 34 (0, 0)) → (storeCells ⟨w.heap.size, 0, none⟩ T0.toList).run Try.prog X = .ok () (X.setRow w.heap.size T0)) := by
    intro X hX
    have := store34 hX hts
    rw [HT0.out] at this
    exact this
  clear HRW HBW HB
  by_cases hbad : sb = true ∨ sa < n
  · have HF : Hid _ := HF9.out.1 (hbad.imp_right .inl)
    rw [HT0.out] at HF
    have hst := HBAD.out X9 HR9.out
    have HRS : Hid _ := setRow_heap X9 w.heap.size _ T0 34 (0, 0) HR9.out
    have HBF : Hid (Below w.heap.size w (X9.setRow w.heap.size T0)) := below_setRow HW9.out (Nat.le_refl _) _
    clear HF9 HQ9 HN9
    generalize ReadR L (A : Int) w = R at *
    cases sb with
    | true =>
      clear hbad q1
      as_aux_lemma =>
      go_wp2_with fail
      refine bodyPost_ret (results_rread (g := w.heap.size) _ rfl HRS.out hts) rfl ?_
      exact HF.out _ HBF.out
    | false =>
      have d1 : (sa : Int) < (n : Int) := by simp at hbad; omega
      have d1' : decide ((sa : Int) < (n : Int)) = true := by simpa using d1
      clear hbad
      as_aux_lemma =>
      go_wp2_with fail
      refine bodyPost_ret (results_rread (g := w.heap.size) _ rfl HRS.out hts) rfl ?_
      exact HF.out _ HBF.out
  · obtain ⟨hb1, hb2⟩ := not_or.1 hbad
    obtain rfl : sb = false := by simpa using hb1
    have d1 : ¬ (sa : Int) < (n : Int) := by omega
    have d1' : decide ((sa : Int) < (n : Int)) = false := by simpa using d1
    have HC : Hid _ := may_any m9 X9 (HQ9.out.ok (by have := HN9.out.1; omega) (by have := HN9.out.2.1; omega) (fun S hS => by have := HN9.out.2.2.1 S hS; omega) (by have := HN9.out.2.2.2.1; omega) (by have := HN9.out.2.2.2.2; omega)) (by have := HN9.out.2.1; omega)
    have HSM : Hid _ := Msg.cells_size HQ9.out.ln
    have HRW9 : Hid _ := HQ9.out.row
    have HB2 : Hid (n ≤ sa) := Nat.le_of_not_lt hb2
    clear hbad hb1 hb2
    refine mkHid ?_
    go_wp2_with (refine ldg34 (by kernel_rfl) (.tmp 8) rfl M (by kernel_rfl) m9.cells.toArray HRW9.out HSM.out (Hid.out ?_))
    refine mkHid ?_
    go_wp2_with fail
    refine Calls.mono HC.out ?_
    rintro e X10 ⟨rfl, hb10⟩
    have HB10 : Hid _ := hb10
    have HR10 : Hid (X10.heap[w.heap.size]? = some (.cells T0 34 (0, 0))) := (hb10.block _ (lt_block HR9.out)).trans HR9.out
    have HW10 : Hid (Below w.heap.size w X10) := HW9.out.trans (hb10.mono HW9.out.size)
    have HM10 : Hid (X10.heap[M]? = some (.cells m9.cells.toArray 34 (0, 0))) := (hb10.block _ (lt_block HRW9.out)).trans HRW9.out
    clear hb10 HC HN9 q1 q2
    cases hmay : mayB m9 with
    | false =>
      have HF : Hid _ := HF9.out.1 (.inr (.inr hmay))
      rw [HT0.out] at HF
      have hst := HBAD.out X10 HR10.out
      have HRS : Hid _ := setRow_heap X10 w.heap.size _ T0 34 (0, 0) HR10.out
      have HBF : Hid (Below w.heap.size w (X10.setRow w.heap.size T0)) := below_setRow HW10.out (Nat.le_refl _) _
      clear HF9 HQ9 hmay
      generalize ReadR L (A : Int) w = R at *
      as_aux_lemma =>
      go_wp2_with fail
      refine bodyPost_ret (results_rread (g := w.heap.size) _ rfl HRS.out hts) rfl ?_
      exact HF.out _ HBF.out
    | true =>
      have HF : Hid (ReadR L (A : Int) w (.returned (.tuple #[.agg m9.cells.toArray, .int .i64 ((A : Int) + 4 + (n : Int)), .int .i64 0])) (X10.setRow w.heap.size m9.cells.toArray)) := by
        refine HF9.out.2 ⟨by trivial, HB2.out, hmay⟩ _ ?_ (below_setRow HW10.out (Nat.le_refl _) _)
        intro g cs t ht hg
        have hne : g ≠ w.heap.size := by
          intro h
          rw [h, HR9.out] at hg
          simp at hg
          exact ht hg.2.symm
        exact (setRow_other _ _ _ _ hne).trans (HB10.out.block g (lt_block hg))
      have hone := cells_one' m9
      have hsz := HSM.out
      have hw := HLW.out
      have w1a : IntKind.i64.wrap ((A : Int) + 4) = (A : Int) + 4 := by rw [IntKind.wrap_i64]; omega
      have w1b : wrap64 ((A : Int) + 4) = (A : Int) + 4 := by unfold wrap64; omega
      have w2a : IntKind.i64.wrap ((A : Int) + 4 + (n : Int)) = (A : Int) + 4 + (n : Int) := by rw [IntKind.wrap_i64]; omega
      have w2b : wrap64 ((A : Int) + 4 + (n : Int)) = (A : Int) + 4 + (n : Int) := by unfold wrap64; omega
      have m34 : (Try.prog.info? 34).map (·.size) = some m9.cells.toArray.size := ri34.trans (by rw [hsz])
      have HRS : Hid _ := setRow_heap X10 w.heap.size _ m9.cells.toArray 34 (0, 0) HR10.out
      clear HF9 HQ9 hmay hw HB10 HSM HRW9
      generalize ReadR L (A : Int) w = R at *
      generalize m9.cells.toArray = C at *
      as_aux_lemma =>
      refine mkHid ?_
      go_wp2_with (refine wpList_load_row rfl 34 (.tmp 8) rfl M (by kernel_rfl) 34 C (0, 0) _ HM10.out ru34 rfl m34 (Hid.out ?_))
      refine mkHid ?_
      go_wp2_with (refine wpList_store_row rfl 34 (.tmp 4) (.tmp 226) rfl w.heap.size C (by kernel_rfl) (by kernel_rfl) 34 T0 HR10.out m34 (by rw [hts, hsz]) hone (Hid.out ?_))
      refine mkHid ?_
      go_wp2_with fail
      refine bodyPost_ret (results_rread (g := w.heap.size) _ rfl HRS.out hsz) rfl ?_
      exact HF.out
  
end
end Go.Proofs.Ytcchlicokglmnaa
