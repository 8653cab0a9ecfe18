/- The reference's Read: kind 1. -/
import Derived.Test.YtcchlicokglmnaaQt
import Derived.Deep.CutBlock
import Derived.Deep.LoopGhost
import Derived.LoopTactic
import Derived.Deep.RegionLaw
namespace Go.Proofs.Ytcchlicokglmnaa
open Go.ChangeShapes Go.WideShapes Go.ChangeAt Go.RowKit Go.Lib
set_option linter.unusedVariables false

section
variable {w : World} {o : Option Addr} {L : List UInt8} {c : Nat} {a : Int}
set_option maxRecDepth 100000 in
set_option maxHeartbeats 4000000 in
theorem rread_1 (hs : Sl w o L) (hL : L.length ≤ 9223372036854000000) (hc : L.length ≤ c) (hc63 : c ≤ 9223372036854775807) (hE : cutE L a = 0) (hk : getV L a 1 = 1) : Calls Try.prog 14 #[.slice o L.length c, .int .i64 a] w (ReadR L a w) := by
  obtain ⟨A, b, off, N0, N1, N2, N3, rfl, rfl, fit, hn, h0, l0, l1, l2, l3, c0, c1, c2, c3⟩ := pre_c hs hE
  obtain rfl : N0 = 1 := by rw [hk] at h0; omega
  obtain ⟨n, hnn⟩ : ∃ n, N1 * 65536 + N2 * 256 + N3 = n := ⟨_, rfl⟩
  rw [hnn] at hn fit
  obtain ⟨T0, hT0⟩ : ∃ T, (m0 0).cells.toArray = T := ⟨_, rfl⟩
  have hz := rz34
  rw [hT0] at hz
  have HT0 : Hid _ := hT0
  have HRW : Hid _ := heap_alloc_new w (.cells T0 34)
  have HB1 : Hid (Below w.heap.size w (w.alloc (.cells T0 34))) := bl1 w _
  have HFIN : Hid (Fin (w.alloc (.cells T0 34)) w L (A : Int) 1) := fin_of hs hE h0 HB1.out
  have HS1 : Hid (Stt (w.alloc (.cells T0 34)) b off L A n c) := st_of (Sl_bel hs HB1.out) fit hn hc hc63
  have HSZ1 : Hid ((w.alloc (.cells T0 34)).heap.size = w.heap.size + 1) := by show _ = _; simp
  clear hT0 hn h0 hk hE
  have HBW0 : Hid _ := HB1.out
  have u0 := cell_bel HB1.out c0
  have u1 := cell_bel HB1.out c1
  have u2 := cell_bel HB1.out c2
  have u3 := cell_bel HB1.out c3
  clear c0 c1 c2 c3 hs
  obtain ⟨ll, hll⟩ : ∃ ll, L.length = ll := ⟨_, rfl⟩
  rw [hll] at fit hc hL ⊢
  clear hll HB1
  have g0 : ¬ (A : Int) < 0 := by omega
  have g1 : ¬ (ll : Int) < (A : Int) := by omega
  have g1' : decide ((ll : Int) < (A : Int)) = false := by simpa using g1
  have g0' : decide ((A : Int) < 0) = false := by simp
  obtain ⟨la, hla⟩ : ∃ la, ll - A = la := ⟨_, rfl⟩
  obtain ⟨ca, hca⟩ : ∃ ca, c - A = ca := ⟨_, rfl⟩
  have lw : 4 + n ≤ la := by omega
  have lc : la ≤ ca := by omega
  have lc2 : ca ≤ 9223372036854775807 := by omega
  have lb : la ≤ 9223372036854000000 := by omega
  have g2 : ¬ (la : Int) < 4 := by omega
  have g2' : decide ((la : Int) < 4) = false := by simpa using g2
  have i1 : (1 : Int) < (la : Int) := by omega
  have i2 : (2 : Int) < (la : Int) := by omega
  have i3 : (3 : Int) < (la : Int) := by omega
  have i0 : (0 : Int) < (la : Int) := by omega
  have j0 : 0 < la := by omega
  have j1 : 1 < la := by omega
  have j2 : 2 < la := by omega
  have j3 : 3 < la := by omega
  have HAL : Hid (A + la = ll ∧ A + ca = c) := ⟨by omega, by omega⟩
  have ni : (N1 : Int) * 65536 + (N2 : Int) * 256 + (N3 : Int) = (n : Int) := by omega
  have ln16 : n < 16777216 := by omega
  go_enter Try.func14, Try.ntmps14
  go_wp2_with fail
  clear hla hca
  have HBD : Hid _ := bld (w.alloc (.cells T0 34))
  have HRW1 : Hid ((w.alloc (.cells T0 34)).drew.heap[w.heap.size]? = some (.cells T0 34 (0, 0))) := HRW.out
  have HSZ2 : Hid ((w.alloc (.cells T0 34)).drew.heap.size = w.heap.size + 1) := HSZ1.out
  have v0 : (w.alloc (.cells T0 34)).drew.cell? ⟨b, off + A, none⟩ = some (.int .u8 1) := u0
  have HV : Hid ((w.alloc (.cells T0 34)).drew.cell? ⟨b, off + A + 1, none⟩ = some (.int .u8 (N1 : Int)) ∧ (w.alloc (.cells T0 34)).drew.cell? ⟨b, off + A + 2, none⟩ = some (.int .u8 (N2 : Int)) ∧ (w.alloc (.cells T0 34)).drew.cell? ⟨b, off + A + 3, none⟩ = some (.int .u8 (N3 : Int))) := ⟨u1, u2, u3⟩
  clear u0 u1 u2 u3 HSZ1 g0 g0' g1 g1'
  refine wp_region_held_drew (S := fun X => X.cell? ⟨b, off + A + 1, none⟩ = some (.int .u8 (N1 : Int)) ∧ X.cell? ⟨b, off + A + 2, none⟩ = some (.int .u8 (N2 : Int)) ∧ X.cell? ⟨b, off + A + 3, none⟩ = some (.int .u8 (N3 : Int))) (by kernel_rfl) HV.out (fun hHeld => ?_)
  clear HV
  generalize (w.alloc (.cells T0 34)).drew = X1 at *
  generalize w.alloc (.cells T0 34) = w1 at *
  
  refine wpAnyH_take (i := 0) (v := .slice (some ⟨b, off + A, none⟩) la ca) rfl (by kernel_rfl) (by kernel_rfl) (by kernel_rfl) (fun _ _ _ h => h) (Or.inl ⟨by rfl, by intro w hs; go_simp⟩) hHeld ?_
  refine norm_any' (fun K hK => ?_)
  go_simp
  refine hK _ _ ?_
  clear hK K
  refine wpAnyH_take (i := 1) (v := .pointer (some ⟨b, off + A + 1, none⟩)) rfl (by kernel_rfl) (by kernel_rfl) (by kernel_rfl) (fun _ _ _ h => h) (Or.inl ⟨by rfl, by intro w hs; go_simp⟩) hHeld ?_
  refine norm_any' (fun K hK => ?_)
  go_simp
  refine hK _ _ ?_
  clear hK K
  refine wpAnyH_take (i := 2) (v := .int .u8 (N1 : Int)) rfl (by kernel_rfl) (by kernel_rfl) (by kernel_rfl) (fun _ _ _ h => h) (Or.inl ⟨by rfl, by intro w hs; have q := hs.1; go_simp⟩) hHeld ?_
  refine norm_any' (fun K hK => ?_)
  go_simp
  refine hK _ _ ?_
  clear hK K
  refine wpAnyH_take (i := 3) (v := .int .i64 (N1 : Int)) rfl (by kernel_rfl) (by kernel_rfl) (by kernel_rfl) (fun _ _ _ h => h) (Or.inl ⟨by rfl, by intro w hs; go_simp; try (rw [IntKind.wrap_i64]; omega)⟩) hHeld ?_
  refine norm_any' (fun K hK => ?_)
  go_simp
  refine hK _ _ ?_
  clear hK K
  refine wpAnyH_take (i := 4) (v := .int .i64 ((N1 : Int) * 65536)) rfl (by kernel_rfl) (by kernel_rfl) (by kernel_rfl) (fun _ _ _ h => h) (Or.inl ⟨by rfl, by intro w hs; go_simp; try (rw [IntKind.wrap_i64]; omega)⟩) hHeld ?_
  refine norm_any' (fun K hK => ?_)
  go_simp
  refine hK _ _ ?_
  clear hK K
  refine wpAnyH_take (i := 5) (v := .slice (some ⟨b, off + A, none⟩) la ca) rfl (by kernel_rfl) (by kernel_rfl) (by kernel_rfl) (fun _ _ _ h => h) (Or.inl ⟨by rfl, by intro w hs; go_simp⟩) hHeld ?_
  refine norm_any' (fun K hK => ?_)
  go_simp
  refine hK _ _ ?_
  clear hK K
  refine wpAnyH_take (i := 6) (v := .pointer (some ⟨b, off + A + 2, none⟩)) rfl (by kernel_rfl) (by kernel_rfl) (by kernel_rfl) (fun _ _ _ h => h) (Or.inl ⟨by rfl, by intro w hs; go_simp⟩) hHeld ?_
  refine norm_any' (fun K hK => ?_)
  go_simp
  refine hK _ _ ?_
  clear hK K
  refine wpAnyH_take (i := 7) (v := .int .u8 (N2 : Int)) rfl (by kernel_rfl) (by kernel_rfl) (by kernel_rfl) (fun _ _ _ h => h) (Or.inl ⟨by rfl, by intro w hs; have q := hs.2.1; go_simp⟩) hHeld ?_
  refine norm_any' (fun K hK => ?_)
  go_simp
  refine hK _ _ ?_
  clear hK K
  refine wpAnyH_take (i := 8) (v := .int .i64 (N2 : Int)) rfl (by kernel_rfl) (by kernel_rfl) (by kernel_rfl) (fun _ _ _ h => h) (Or.inl ⟨by rfl, by intro w hs; go_simp; try (rw [IntKind.wrap_i64]; omega)⟩) hHeld ?_
  refine norm_any' (fun K hK => ?_)
  go_simp
  refine hK _ _ ?_
  clear hK K
  refine wpAnyH_take (i := 9) (v := .int .i64 ((N2 : Int) * 256)) rfl (by kernel_rfl) (by kernel_rfl) (by kernel_rfl) (fun _ _ _ h => h) (Or.inl ⟨by rfl, by intro w hs; go_simp; try (rw [IntKind.wrap_i64]; omega)⟩) hHeld ?_
  refine norm_any' (fun K hK => ?_)
  go_simp
  refine hK _ _ ?_
  clear hK K
  refine wpAnyH_take (i := 10) (v := .int .i64 ((N1 : Int) * 65536 + (N2 : Int) * 256)) rfl (by kernel_rfl) (by kernel_rfl) (by kernel_rfl) (fun _ _ _ h => h) (Or.inl ⟨by rfl, by intro w hs; go_simp; try (rw [IntKind.wrap_i64]; omega)⟩) hHeld ?_
  refine norm_any' (fun K hK => ?_)
  go_simp
  refine hK _ _ ?_
  clear hK K
  refine wpAnyH_take (i := 11) (v := .slice (some ⟨b, off + A, none⟩) la ca) rfl (by kernel_rfl) (by kernel_rfl) (by kernel_rfl) (fun _ _ _ h => h) (Or.inl ⟨by rfl, by intro w hs; go_simp⟩) hHeld ?_
  refine norm_any' (fun K hK => ?_)
  go_simp
  refine hK _ _ ?_
  clear hK K
  refine wpAnyH_take (i := 12) (v := .pointer (some ⟨b, off + A + 3, none⟩)) rfl (by kernel_rfl) (by kernel_rfl) (by kernel_rfl) (fun _ _ _ h => h) (Or.inl ⟨by rfl, by intro w hs; go_simp⟩) hHeld ?_
  refine norm_any' (fun K hK => ?_)
  go_simp
  refine hK _ _ ?_
  clear hK K
  refine wpAnyH_take (i := 13) (v := .int .u8 (N3 : Int)) rfl (by kernel_rfl) (by kernel_rfl) (by kernel_rfl) (fun _ _ _ h => h) (Or.inl ⟨by rfl, by intro w hs; have q := hs.2.2; go_simp⟩) hHeld ?_
  refine norm_any' (fun K hK => ?_)
  go_simp
  refine hK _ _ ?_
  clear hK K
  refine wpAnyH_take (i := 14) (v := .int .i64 (N3 : Int)) rfl (by kernel_rfl) (by kernel_rfl) (by kernel_rfl) (fun _ _ _ h => h) (Or.inl ⟨by rfl, by intro w hs; go_simp; try (rw [IntKind.wrap_i64]; omega)⟩) hHeld ?_
  refine norm_any' (fun K hK => ?_)
  go_simp
  refine hK _ _ ?_
  clear hK K
  refine wpAnyH_take (i := 15) (v := .int .i64 (n : Int)) rfl (by kernel_rfl) (by kernel_rfl) (by kernel_rfl) (fun _ _ _ h => h) (Or.inl ⟨by rfl, by intro w hs; go_simp; try (rw [IntKind.wrap_i64]; omega)⟩) hHeld ?_
  refine norm_any' (fun K hK => ?_)
  go_simp
  refine hK _ _ ?_
  clear hK K
  refine wpAnyH_take (i := 16) (v := .int .i64 (n : Int)) rfl (by kernel_rfl) (by kernel_rfl) (by kernel_rfl) (fun _ _ _ h => h) (Or.inl ⟨by rfl, by intro w hs; go_simp⟩) hHeld ?_
  refine norm_any' (fun K hK => ?_)
  go_simp
  refine hK _ _ ?_
  clear hK K
  refine wpAnyH_done (by kernel_rfl) ?_ _
  clear hHeld
  have s1 : wrap64 ((la : Int) - 4) = (la : Int) - 4 := by unfold wrap64; omega
  have s1' : IntKind.i64.wrap ((la : Int) - 4) = (la : Int) - 4 := by rw [IntKind.wrap_i64]; omega
  have g3 : ¬ (la : Int) - 4 < (n : Int) := by omega
  have g3' : decide ((la : Int) - 4 < (n : Int)) = false := by simpa using g3
  have hts : T0.size = 72 := by rw [← HT0.out]; rfl
  have hRX : Hid _ := heap_alloc_new X1 (.cells T0 34)
  refine mkHid ?_
  go_wp2_with (refine wb34 rfl (.tmp 55) rfl (.int .i64 1) (.agg (m0 1).cells.toArray) (by kernel_rfl) (bd34k 1) (Hid.out ?_))
  refine mkHid ?_
  go_wp2_with (first
    | (refine wpList_store_row rfl 34 (.tmp 8) (.tmp 56) rfl X1.heap.size (m0 1).cells.toArray (by kernel_rfl) (by kernel_rfl) 34 T0 hRX.out (ri34.trans rfl) (by rw [hts]; rfl) (cells_one' _) (Hid.out ?_)))
  refine mkHid ?_
  have hc2 : ((X1.alloc (.cells T0 34)).setRow X1.heap.size (m0 1).cells.toArray).cell? ⟨X1.heap.size, 0, none⟩ = some (.int .i64 1) := cell0 (setRow_heap _ _ _ (m0 1).cells.toArray 34 (0, 0) hRX.out)
  have hsz3 : ((X1.alloc (.cells T0 34)).setRow X1.heap.size (m0 1).cells.toArray).heap.size = X1.heap.size + 1 := by simp [World.setRow]
  obtain ⟨o2, ho2⟩ : ∃ o2, (if ca = 4 then some (⟨b, off + A, none⟩ : Addr) else some ⟨b, off + A + 4, none⟩) = o2 := ⟨_, rfl⟩
  have HQ : Hid _ := qm_start (k := 1) (T0 := T0) HS1.out HBD.out HAL.out.2 ln16 o2 ho2
  have s4 : wrap64 (4 + (n : Int)) = 4 + (n : Int) := w4a n ln16
  have s4' : IntKind.i64.wrap (4 + (n : Int)) = 4 + (n : Int) := w4b n ln16
  have HKN : Hid (∀ X, Calls Try.prog 19 #[.int .i64 1] X fun e w' => e = .returned (.bool true) ∧ w' = X) := known_k 1 (by decide)
  generalize (X1.alloc (.cells T0 34)).setRow X1.heap.size (m0 1).cells.toArray = X2 at *
  clear hRX hts ni hnn i0 i1 i2 i3 j0 j1 j2 j3 g2 g2' g3 g3' s1 s1' l0 l1 l2 l3 v0
  as_aux_lemma =>
  go_wp2_with fail
  refine Calls.mono (HKN.out X2) ?_
  rintro e X2' ⟨rfl, rfl⟩
  go_wp2_with fail
  have HCN : Hid (cutN L (A : Int) = n) := HS1.out.cn
  have HLW : Hid (A + la = ll ∧ 4 + n ≤ la ∧ la ≤ 9223372036854000000 ∧ ll ≤ 9223372036854000000) := ⟨HAL.out.1, lw, lb, hL⟩
  have HBW : Hid (Below w.heap.size w w1) := HBW0.out
  obtain ⟨p, hp⟩ : ∃ p, X1.heap.size + 1 = p := ⟨_, rfl⟩
  rw [hp] at HQ ⊢
  obtain ⟨M, hM⟩ : ∃ M, X1.heap.size = M := ⟨_, rfl⟩
  rw [hM] at HQ ⊢
  clear hp hM ho2 hc2 hsz3 s4 s4' HKN HS1 HBD HAL HRW1 HSZ2 lw lc lc2 lb hL hc fit hc63
  generalize (X2'.alloc (.cells #[.slice o2 n (ca - 4), .int .i64 0, .bool false] 69)) = X3 at *
  generalize ca - 4 = cc at *
  obtain ⟨B, hB⟩ : ∃ B, bdy L (A : Int) = B := ⟨_, rfl⟩
  rw [hB] at HQ
  have HB : Hid _ := hB
  clear hB
  
  refine Calls.mono (rhandle_c HQ.out.rq) ?_
  rintro e X4 ⟨rfl, hrq, hgs⟩
  have HQc : Hid _ := HQ.out.call hgs hrq
  have hTX4 := rT_len (L := B) 16 HQ.out.rq.le
  clear hrq hgs HQ
  obtain ⟨TX4, eTX4⟩ : ∃ T, (rT B 16 (false, 0)).2 = T := ⟨_, rfl⟩
  rw [eTX4] at hTX4
  have HHX4 : Hid _ := HQc.out.hand 1 TX4 hTX4 (by decide)
  have HQn : Hid _ := HQc.out.turn _ { m0 1 with random := TX4 } (Msg.random' HQc.out.ln TX4 hTX4) ⟨hTX4, HQc.out.ln.s, HQc.out.ln.b, HQc.out.ln.k⟩ ⟨rfl, rfl, rfl⟩ ⟨rfl, rfl, rfl⟩ ⟨rfl, rfl, rfl⟩
  rw [eTX4]
  refine mkHid ?_
  go_wp2_with (refine wpList_store_mid rfl 22 (.tmp 74) (.tmp 73) rfl M 1 (bc TX4).toArray (by kernel_rfl) (by kernel_rfl) HHX4.out.1 (ri22.trans (by simp [bc, hTX4])) (bc_all TX4) (Hid.out ?_))
  rw [HHX4.out.2]
  refine mkHid ?_
  generalize X4.setRow M _ = X4s at *
  
  go_wp2_with fail
  refine Calls.mono (rhandle_c HQn.out.rq) ?_
  rintro e X5 ⟨rfl, hrq, hgs⟩
  have HQnc : Hid _ := HQn.out.call hgs hrq
  have hTX5 := rT_len (L := B) 16 HQn.out.rq.le
  clear hrq hgs HQn
  obtain ⟨TX5, eTX5⟩ : ∃ T, (rT B 16 (rT B 16 (false, 0)).1).2 = T := ⟨_, rfl⟩
  rw [eTX5] at hTX5
  have HHX5 : Hid _ := HQnc.out.hand 17 TX5 hTX5 (by decide)
  have HQnn : Hid _ := HQnc.out.turn _ { ({ m0 1 with random := TX4 } : Msg) with share := TX5 } (Msg.share' HQnc.out.ln TX5 hTX5) ⟨HQnc.out.ln.r, hTX5, HQnc.out.ln.b, HQnc.out.ln.k⟩ ⟨rfl, rfl, rfl⟩ ⟨rfl, rfl, rfl⟩ ⟨rfl, rfl, rfl⟩
  rw [eTX5]
  refine mkHid ?_
  go_wp2_with (refine wpList_store_mid rfl 22 (.tmp 77) (.tmp 76) rfl M 17 (bc TX5).toArray (by kernel_rfl) (by kernel_rfl) HHX5.out.1 (ri22.trans (by simp [bc, hTX5])) (bc_all TX5) (Hid.out ?_))
  rw [HHX5.out.2]
  refine mkHid ?_
  generalize X5.setRow M _ = X5s at *
  
  go_wp2_with fail
  refine Calls.mono (rshort_c2 HQnn.out.rq) ?_
  rintro e X6 ⟨rfl, hrq, hgs⟩
  have HQnnc : Hid _ := HQnn.out.call hgs hrq
  clear hrq hgs HQnn
  have hSX6 : (rS B (rT B 16 (rT B 16 (false, 0)).1).1).2.size ≤ 255 := rS_any
  obtain ⟨SX6, eSX6⟩ : ∃ S, (rS B (rT B 16 (rT B 16 (false, 0)).1).1).2 = S := ⟨_, rfl⟩
  rw [eSX6] at hSX6
  have HQnnn : Hid _ := HQnnc.out.set1 (.string SX6) { ({ m0 1 with random := TX4, share := TX5 } : Msg) with name := SX6 } (Msg.name' HQnnc.out.ln SX6) ⟨HQnnc.out.ln.r, HQnnc.out.ln.s, HQnnc.out.ln.b, HQnnc.out.ln.k⟩ ⟨rfl, rfl, rfl⟩ ⟨rfl, rfl, rfl⟩ ⟨rfl, rfl, rfl⟩
  obtain ⟨⟨xX6, hxX6⟩, hfX6⟩ := HQnnc.out.cellM (j := 33) (by decide)
  rw [eSX6]
  go_wp2_with fail
  clear hxX6 hfX6
  generalize X6.setCell ⟨M, 33, none⟩ (.string SX6) = X6s at *
  
  refine Calls.mono (rbytes_c 1 (by decide) HQnnn.out.rq) ?_
  rintro e X7 ⟨oX7, kX7, rfl, hby, hrq, hgs⟩
  have HQ7 : Hid (Qm w1 X7 p M o2 B cc (rT B 1 (rS B (rT B 16 (rT B 16 (false, 0)).1).1).1).1 ({ m0 1 with random := TX4, share := TX5, name := SX6 } : Msg)) := HQnnn.out.call hgs hrq
  have hTX7 := rT_len (L := B) 1 HQnnn.out.rq.le
  obtain ⟨TX7, eTX7⟩ : ∃ T, (rT B 1 (rS B (rT B 16 (rT B 16 (false, 0)).1).1).1).2 = T := ⟨_, rfl⟩
  rw [eTX7] at hTX7 hby
  obtain ⟨b7, hb7⟩ := one_of hTX7
  subst hb7
  obtain ⟨g7, hog7, q7⟩ := By.at hby 0 (by simp)
  subst hog7
  obtain ⟨N7, hN7⟩ : ∃ N, b7.toNat = N := ⟨_, rfl⟩
  have q7' : X7.cell? ⟨g7, 0, none⟩ = some (.int .u8 (N7 : Int)) := by rw [q7]; simp [hN7]
  have HN7 : Hid (num (rk3 B (false, 0)).2 = N7) := by
    show num (rT B 1 (rS B (rT B 16 (rT B 16 (false, 0)).1).1).1).2 = N7
    rw [eTX7, num_one _ rfl]
    exact hN7
  have hl7 : N7 < 256 := by rw [← hN7]; exact b7.toNat_lt
  obtain ⟨s7, es7⟩ : ∃ s, (rT B 1 (rS B (rT B 16 (rT B 16 (false, 0)).1).1).1).1 = s := ⟨_, rfl⟩
  rw [es7] at HQ7
  have HE3 : Hid ((rk3 B (false, 0)).1 = s7) := es7
  have HE4 : Hid ((rT B 16 (false, 0)).2 = TX4) := eTX4
  have HE5 : Hid ((rk1 B (false, 0)).2 = TX5) := eTX5
  have HE6 : Hid ((rk2 B (false, 0)).2 = SX6) := eSX6
  have HS6 : Hid (SX6.size ≤ 255) := hSX6
  have HLM : Hid (({ m0 1 with random := TX4, share := TX5, name := SX6 } : Msg).len) := HQ7.out.ln
  have wN7 : IntKind.i64.wrap (N7 : Int) = (N7 : Int) := by rw [IntKind.wrap_i64]; omega
  clear hby hrq hgs HQnnn HQnnc eTX7 hTX7 q7 hN7 es7 eTX4 eTX5 eSX6 hSX6 hTX4 hTX5 HHX4 HHX5
  obtain ⟨m6, em6⟩ : ∃ m, ({ m0 1 with random := TX4, share := TX5, name := SX6 } : Msg) = m := ⟨_, rfl⟩
  rw [em6] at HQ7 HLM
  have HM6 : Hid (m6 = ({ m0 1 with random := TX4, share := TX5, name := SX6 } : Msg)) := em6.symm
  have HP6 : Hid (m6.protos = [] ∧ m6.po = none ∧ m6.pc = 0) := by rw [HM6.out]; exact ⟨rfl, rfl, rfl⟩
  clear em6
  go_upto_block 1 with fail
  clear q7' wN7
  go_cut [11] from 86 to 104 (fun s11 wx => Hid (∃ s4 ns po pc, Qm w1 wx p M o2 B cc s4 { m6 with po := po, protos := ns, pc := pc } ∧ ns.length ≤ 255 ∧ (∀ S ∈ ns, S.size ≤ 255) ∧ (s4, ns) = rPs B N7 s7 []))
  case first =>
    go_wp2_with fail
    go_loopg [11] (N7 + 1) (fun kx s11 wr => ∃ i : Nat, s11 = .int .i64 (i : Int) ∧ i ≤ N7 ∧ N7 - i ≤ kx ∧ Hid (∃ s1 ns po pc, Qm w1 wr p M o2 B cc s1 { m6 with po := po, protos := ns, pc := pc } ∧ ns.length = i ∧ (∀ S ∈ ns, S.size ≤ 255) ∧ rPs B (N7 - i) s1 ns = rPs B N7 s7 []))
    case atStart =>
      refine ⟨0, rfl, by omega, by omega, s7, [], none, 0, ?_, rfl, by simp, rfl⟩
      have := HQ7.out
      rw [show m6 = ({ m6 with po := none, protos := [], pc := 0 } : Msg) by obtain ⟨h1, h2, h3⟩ := HP6.out; cases m6; simp_all] at this
      exact this
    case round =>
      obtain ⟨i, rfl, hi, hkx, HR⟩ := hrel
      clear HQ7
      by_cases hlt : i < N7
      · have i1 : (i : Int) < (N7 : Int) := by omega
        have i1' : decide ((i : Int) < (N7 : Int)) = true := by simpa using i1
        obtain ⟨⟨b1, a1⟩, ns, po, pc, hq, hns, hsz, heq⟩ := HR.out
        have q2 := hq.rq.c2
        dsimp only at q2
        cases b1 with
        | true =>
          have HX : Hid (∃ s4 ns po pc, Qm w1 wr p M o2 B cc s4 { m6 with po := po, protos := ns, pc := pc } ∧ ns.length ≤ 255 ∧ (∀ S ∈ ns, S.size ≤ 255) ∧ (s4, ns) = rPs B N7 s7 []) := by
            rw [rPs_bad _ rfl] at heq
            exact ⟨_, ns, po, pc, hq, by omega, hsz, heq⟩
          clear hq heq hsz HR hns
          as_aux_lemma =>
          go_wp2_with fail
          go_meet
          case rel => exact HX.out
        | false =>
          have hnx : N7 - i = (N7 - (i + 1)) + 1 := by omega
          rw [hnx, rPs_next rfl] at heq
          have HQd : Hid _ := hq.grow (bld wr)
          have HC : Hid _ := rshort_c2 HQd.out.rq
          have d34 := HQd.out.c34
          dsimp only at d34
          rw [hns] at d34
          have hS2 : (rS B (false, a1)).2.size ≤ 255 := rS_any
          obtain ⟨S2, eS2⟩ : ∃ S, (rS B (false, a1)).2 = S := ⟨_, rfl⟩
          rw [eS2] at hS2 heq
          have HNX : Hid (∀ (X : World) (o' : Option Addr) (c' : Nat), Qm w1 X p M o2 B cc (rS B (false, a1)).1 { m6 with po := o', protos := ns ++ [S2], pc := c' } → ∃ s1 ns po pc, Qm w1 X p M o2 B cc s1 { m6 with po := po, protos := ns, pc := pc } ∧ ns.length = i + 1 ∧ (∀ S ∈ ns, S.size ≤ 255) ∧ rPs B (N7 - (i + 1)) s1 ns = rPs B N7 s7 []) := by
            intro X o' c' h
            refine ⟨_, _, o', c', h, by simp [hns], ?_, heq⟩
            intro S hS
            rcases List.mem_append.1 hS with h | h
            · exact hsz S h
            · simp at h; rw [h]; exact hS2
          have HSTEP : Hid (∀ W2 : World, Rq W2 p o2 B cc (rS B (false, a1)).1 → Gs (fun k => k = p) wr.drew W2 → ∃ o' c' X3, (Builtin.append_ #[24, 24] 24 #[.slice po i pc, .slice (some ⟨W2.heap.size, 0, none⟩) 1 1]).run Try.prog (W2.alloc (.cells #[.string S2] 9)) = .ok (.slice o' (i + 1) c') X3 ∧ (∃ x, X3.cell? ⟨M, 34, none⟩ = some x) ∧ X3.frozen? ⟨M, 34, none⟩ = false ∧ W2.cell? ⟨M, 34, none⟩ = some (.slice po i pc) ∧ (W2.alloc (.cells #[.string S2] 9)).cell? ⟨M, 34, none⟩ = some (.slice po i pc) ∧ Qm w1 (X3.setCell ⟨M, 34, none⟩ (.slice o' (i + 1) c')) p M o2 B cc (rS B (false, a1)).1 { m6 with po := o', protos := ns ++ [S2], pc := c' }) := by
            intro W2 hrq hgs
            have h2 := HQd.out.call hgs hrq
            obtain ⟨o', c', X3, r1, r2, r3, r4⟩ := h2.step S2 (by dsimp only; omega)
            have k1 := h2.c34
            have k2 := (h2.grow (bl1 W2 (.cells #[.string S2] 9))).c34
            dsimp only at r1 r4 k1 k2
            rw [hns] at r1 r4 k1 k2
            exact ⟨o', c', X3, r1, r2, r3, k1, k2, r4⟩
          have iw : IntKind.i64.wrap ((i : Int) + 1) = (i : Int) + 1 := by rw [IntKind.wrap_i64]; omega
          have HES : Hid ((rS B (false, a1)).2 = S2) := eS2
          clear hq heq hsz HR hns hnx HQd hS2 eS2
          as_aux_lemma =>
          go_wp2_with fail
          go_region_law (first
            | (refine step_appr rfl (.tmp 99) (.tmp 102) 24 24 rfl _ _ (by kernel_rfl) (by kernel_rfl) HRUN.out ?_)
            | (go_simp; go_at_call 25; refine Calls.mono HC.out ?_; rintro e W2 ⟨rfl, hrq, hgs⟩; obtain ⟨o', c', X3, hrun, ⟨x3, hx3⟩, hf3, hk1, hk2, hq3⟩ := HSTEP.out W2 hrq hgs; have HRUN : Hid _ := hrun; have HQ3 : Hid _ := HNX.out _ o' c' hq3; clear hrun hq3 hrq hgs; rw [HES.out]))
          all_goals
            go_wp2_with fail
            go_roundg (N7 - (i + 1))
            case measure => omega
            case rel => exact ⟨i + 1, rfl, by omega, Nat.le_refl _, HQ3.out⟩
      · have i1 : ¬ (i : Int) < (N7 : Int) := by omega
        have i1' : decide ((i : Int) < (N7 : Int)) = false := by simpa using i1
        have HX : Hid (∃ s4 ns po pc, Qm w1 wr p M o2 B cc s4 { m6 with po := po, protos := ns, pc := pc } ∧ ns.length ≤ 255 ∧ (∀ S ∈ ns, S.size ≤ 255) ∧ (s4, ns) = rPs B N7 s7 []) := by
          obtain ⟨s1, ns, po, pc, hq, hns, hsz, heq⟩ := HR.out
          rw [show N7 - i = 0 by omega] at heq
          exact ⟨_, ns, po, pc, hq, by omega, hsz, heq⟩
        clear HR
        as_aux_lemma =>
        go_wp2_with fail
        go_meet
        case rel => exact HX.out
  case rest =>
    obtain ⟨s4, ns, po, pc, hq, hnl, hsz, heq⟩ := hcut.out
    have hm := HM6.out
    subst hm
    have HQ8 : Hid (Qm w1 wc p M o2 B cc s4 ({ m0 1 with random := TX4, share := TX5, name := SX6, po := po, protos := ns, pc := pc } : Msg)) := hq
    have HK4 : Hid (rk4 B (false, 0) = (s4, ns)) := by
      show rPs B (num (rk3 B (false, 0)).2) (rk3 B (false, 0)).1 [] = _
      rw [HN7.out, HE3.out]
      exact heq.symm
    have HNS : Hid (ns.length ≤ 255 ∧ ∀ S ∈ ns, S.size ≤ 255) := ⟨hnl, hsz⟩
    clear hq hnl hsz heq hcut HQ7 HN7 HE3 HM6 HP6 HLM hl7
    go_wp2_with fail
    as_aux_lemma =>
    refine Calls.mono (rlong_c2 HQ8.out.rq) ?_
    rintro e Xa ⟨oXa, kXa, rfl, hby, hrq, hgs⟩
    have HQ8c : Hid _ := HQ8.out.call hgs hrq
    have hTXa := rL_any (B := B) HQ8.out.rq.le
    have hszXa := HQ8.out.bel.size
    obtain ⟨TXa, eTXa⟩ : ∃ T, (rL B s4).2 = T := ⟨_, rfl⟩
    rw [eTXa] at hTXa hby ⊢
    have HQ8n : Hid _ := HQ8c.out.setA hszXa oXa TXa kXa hby
    clear hrq hgs hby HQ8 hszXa
    obtain ⟨⟨xXa, hxXa⟩, hfXa⟩ := HQ8c.out.cellM (j := 35) (by decide)
    obtain ⟨zXa, ezXa⟩ : ∃ z, TXa.length = z := ⟨_, rfl⟩
    rw [ezXa] at hTXa HQ8n ⊢
    have HZXa : Hid _ := ezXa
    clear ezXa HQ8c
    go_wp2_with fail
    clear hxXa hfXa
    generalize Xa.setCell ⟨M, 35, none⟩ (.slice oXa zXa kXa) = Xas at *
    
    have HCF : Hid (Calls Try.prog 28 #[.pointer (some ⟨p, 0, none⟩), .int .u8 3] _ _) := rflags_c2 3 (by decide) HQ8n.out.rq
    refine Calls.mono HCF.out ?_
    rintro e Xf ⟨rfl, hrq, hgs⟩
    have HQf : Hid (Qm w1 Xf p M o2 B cc (rF B 3 (rL B s4).1).1 ({ m0 1 with random := TX4, share := TX5, name := SX6, po := po, protos := ns, pc := pc, ao := oXa, params := TXa, ac := kXa } : Msg)) := HQ8n.out.call hgs hrq
    clear hrq hgs HQ8n HCF
    obtain ⟨F, hF⟩ : ∃ F, (rF B 3 (rL B s4).1).2.toNat = F := ⟨_, rfl⟩
    have hF256 : F < 256 := by rw [← hF]; exact UInt8.toNat_lt _
    rw [hF]
    have HF0 : Hid ((rF B 3 (rL B s4).1).2.toNat = F) := hF
    obtain ⟨DF, eDF⟩ : ∃ D, decide (2 ≤ F) = D := ⟨_, rfl⟩
    have eqD1 : decide ((2 : Int) ≤ (F : Int)) = DF := by rw [← eDF]; by_cases h : 2 ≤ F <;> simp [h] <;> omega
    have HDF : Hid (decide (2 ≤ F) = DF) := eDF
    have HQg : Hid (Qm w1 (Xf.setCell ⟨M, 53, none⟩ (.bool DF)) p M o2 B cc (rF B 3 (rL B s4).1).1 ({ m0 1 with random := TX4, share := TX5, name := SX6, po := po, protos := ns, pc := pc, ao := oXa, params := TXa, ac := kXa, early := DF } : Msg)) := HQf.out.set1 (.bool DF) _ (Msg.early' HQf.out.ln DF) ⟨HQf.out.ln.r, HQf.out.ln.s, HQf.out.ln.b, HQf.out.ln.k⟩ ⟨rfl, rfl, rfl⟩ ⟨rfl, rfl, rfl⟩ ⟨rfl, rfl, rfl⟩
    obtain ⟨⟨xf, hxf⟩, hff⟩ := HQf.out.cellM (j := 53) (by decide)
    clear hF eDF HQf
    by_cases hpar : F % 2 = 1
    · have t1 : (F : Int).tmod 2 = 1 := by rw [Int.tmod_eq_emod_of_nonneg (by omega)]; omega
      have HPAR : Hid ((rF B 3 (rL B s4).1).2.toNat % 2 = 1) := by show _ = _; rw [HF0.out]; exact hpar
      clear hpar
      go_wp2_with fail
      clear hxf hff t1 eqD1
      generalize Xf.setCell ⟨M, 53, none⟩ (.bool DF) = Xg at *
      as_aux_lemma =>
      refine Calls.mono (rlong_c2 HQg.out.rq) ?_
      rintro e Xt ⟨oXt, kXt, rfl, hby, hrq, hgs⟩
      have HQgc : Hid _ := HQg.out.call hgs hrq
      have hTXt := rL_any (B := B) HQg.out.rq.le
      have hszXt := HQg.out.bel.size
      obtain ⟨TXt, eTXt⟩ : ∃ T, (rL B (rF B 3 (rL B s4).1).1).2 = T := ⟨_, rfl⟩
      rw [eTXt] at hTXt hby ⊢
      have HQgn : Hid _ := HQgc.out.setT hszXt oXt TXt kXt hby
      clear hrq hgs hby HQg hszXt
      obtain ⟨⟨xXt, hxXt⟩, hfXt⟩ := HQgc.out.cellM (j := 36) (by decide)
      obtain ⟨zXt, ezXt⟩ : ∃ z, TXt.length = z := ⟨_, rfl⟩
      rw [ezXt] at hTXt HQgn ⊢
      have HZXt : Hid _ := ezXt
      clear ezXt HQgc
      go_wp2_with fail
      clear hxXt hfXt
      generalize Xt.setCell ⟨M, 36, none⟩ (.slice oXt zXt kXt) = Xts at *
      
      refine Calls.mono (rhandle_c HQgn.out.rq) ?_
      rintro e Xh ⟨rfl, hrq, hgs⟩
      have HQgnc : Hid _ := HQgn.out.call hgs hrq
      have hTXh := rT_len (L := B) 16 HQgn.out.rq.le
      clear hrq hgs HQgn
      obtain ⟨TXh, eTXh⟩ : ∃ T, (rT B 16 (rL B (rF B 3 (rL B s4).1).1).1).2 = T := ⟨_, rfl⟩
      rw [eTXh] at hTXh
      have HHXh : Hid _ := HQgnc.out.hand 37 TXh hTXh (by decide)
      have HQgnn : Hid _ := HQgnc.out.turn _ { ({ m0 1 with random := TX4, share := TX5, name := SX6, po := po, protos := ns, pc := pc, ao := oXa, params := TXa, ac := kXa, early := DF, «to» := oXt, ticket := TXt, tc := kXt } : Msg) with binder := TXh } (Msg.binder' HQgnc.out.ln TXh hTXh) ⟨HQgnc.out.ln.r, HQgnc.out.ln.s, hTXh, HQgnc.out.ln.k⟩ ⟨rfl, rfl, rfl⟩ ⟨rfl, rfl, rfl⟩ ⟨rfl, rfl, rfl⟩
      rw [eTXh]
      refine mkHid ?_
      go_wp2_with (refine wpList_store_mid rfl 22 (.tmp 121) (.tmp 120) rfl M 37 (bc TXh).toArray (by kernel_rfl) (by kernel_rfl) HHXh.out.1 (ri22.trans (by simp [bc, hTXh])) (bc_all TXh) (Hid.out ?_))
      rw [HHXh.out.2]
      refine mkHid ?_
      generalize Xh.setRow M _ = Xhs at *
      
      obtain ⟨⟨b8, a8⟩, e8⟩ : ∃ s, (rT B 16 (rL B (rF B 3 (rL B s4).1).1).1).1 = s := ⟨_, rfl⟩
      rw [e8] at HQgnn
      have c2h := HQgnn.out.rq.c2
      have f2h := HQgnn.out.rq.fr 2
      have c36h := HQgnn.out.c36
      dsimp only at c2h c36h
      rw [HZXt.out] at c36h
      have HZ9 : Hid _ := HQgnn.out
      have HE8 : Hid _ := e8
      clear HQgnn e8 hTXh HHXh
      as_aux_lemma =>
      cases b8 with
      | true =>
        have HQz : Hid (Qm w1 (Xhs.setCell ⟨p, 2, none⟩ (.bool true)) p M o2 B cc (true, a8) ({ m0 1 with random := TX4, share := TX5, name := SX6, po := po, protos := ns, pc := pc, ao := oXa, params := TXa, ac := kXa, early := DF, «to» := oXt, ticket := TXt, tc := kXt, binder := TXh } : Msg)) := HZ9.out.call (Gs.set _ rfl) (HZ9.out.rq.set2 true)
        clear HZ9
        obtain ⟨s9, e9⟩ : ∃ S, ((true, a8) : Sd) = S := ⟨_, rfl⟩
        obtain ⟨m9, em9⟩ : ∃ m, ({ m0 1 with random := TX4, share := TX5, name := SX6, po := po, protos := ns, pc := pc, ao := oXa, params := TXa, ac := kXa, early := DF, «to» := oXt, ticket := TXt, tc := kXt, binder := TXh } : Msg) = m := ⟨_, rfl⟩
        have HQ9 : Hid (Qm w1 (Xhs.setCell ⟨p, 2, none⟩ (.bool true)) p M o2 B cc s9 m9) := by rw [← e9, ← em9]; exact HQz.out
        have HF9 : Hid _ := HFIN.out (Xhs.setCell ⟨p, 2, none⟩ (.bool true)) p M o2 cc s9 m9 (by rw [HB.out]; exact HQ9.out) (by rw [HB.out, (rr1_odd HK4.out HPAR.out), ← e9, HE8.out, eTXt, HZXt.out]; simp) (by rw [HB.out, (rr1_odd HK4.out HPAR.out), ← em9]; rw [HE4.out, HE5.out, HE6.out, eTXa, HF0.out, HDF.out, eTXt, eTXh]; rfl)
        rw [HCN.out] at HF9
        have HN9 : Hid (m9.name.size ≤ 65535 ∧ m9.protos.length ≤ 255 ∧ (∀ S ∈ m9.protos, S.size ≤ 255) ∧ m9.params.length ≤ 65535 ∧ m9.ticket.length ≤ 65535) := by rw [← em9]; exact ⟨by show SX6.size ≤ _; have := HS6.out; omega, HNS.out.1, HNS.out.2, by show TXa.length ≤ _; rw [HZXa.out]; omega, by show TXt.length ≤ _; rw [HZXt.out]; omega⟩
        clear e9 em9 HFIN HQz HPAR HF0 HDF HK4 HE4 HE5 HE6 eTXa eTXt eTXh HE8
        obtain ⟨X9, eX9⟩ : ∃ X, Xhs.setCell ⟨p, 2, none⟩ (.bool true) = X := ⟨_, rfl⟩
        rw [eX9] at HQ9 HF9
        as_aux_lemma =>
        have HR9 : Hid (X9.heap[w.heap.size]? = some (.cells T0 34 (0, 0))) := (HQ9.out.bel.block _ (lt_block HRW.out)).trans HRW.out
        have HW9 : Hid (Below w.heap.size w X9) := HBW.out.trans (HQ9.out.bel.mono HBW.out.size)
        have HRM : Hid (w.heap.size < w1.heap.size) := lt_block HRW.out
        have hts : T0.size = 72 := by rw [← HT0.out]; rfl
        obtain ⟨sb, sa⟩ := s9
        have q1 := HQ9.out.rq.c1
        have q2 := HQ9.out.rq.c2
        have HBAD : Hid (∀ X, X.heap[w.heap.size]? = some (.cells T0 34 (0, 0)) → (storeCells ⟨w.heap.size, 0, none⟩ T0.toList).run Try.prog X = .ok () (X.setRow w.heap.size T0)) := by
          intro X hX
          have := store34 hX hts
          rw [HT0.out] at this
          exact this
        clear HRW HBW HB
        by_cases hbad : sb = true ∨ sa < n
        · have HF : Hid _ := HF9.out.1 (hbad.imp_right .inl)
          rw [HT0.out] at HF
          have hst := HBAD.out X9 HR9.out
          have HRS : Hid _ := setRow_heap X9 w.heap.size _ T0 34 (0, 0) HR9.out
          have HBF : Hid (Below w.heap.size w (X9.setRow w.heap.size T0)) := below_setRow HW9.out (Nat.le_refl _) _
          clear HF9 HQ9 HN9
          generalize ReadR L (A : Int) w = R at *
          cases sb with
          | true =>
            clear hbad q1
            as_aux_lemma =>
            go_wp2_with fail
            refine bodyPost_ret (results_rread (g := w.heap.size) _ rfl HRS.out hts) rfl ?_
            exact HF.out _ HBF.out
          | false =>
            have d1 : (sa : Int) < (n : Int) := by simp at hbad; omega
            have d1' : decide ((sa : Int) < (n : Int)) = true := by simpa using d1
            clear hbad
            as_aux_lemma =>
            go_wp2_with fail
            refine bodyPost_ret (results_rread (g := w.heap.size) _ rfl HRS.out hts) rfl ?_
            exact HF.out _ HBF.out
        · obtain ⟨hb1, hb2⟩ := not_or.1 hbad
          obtain rfl : sb = false := by simpa using hb1
          have d1 : ¬ (sa : Int) < (n : Int) := by omega
          have d1' : decide ((sa : Int) < (n : Int)) = false := by simpa using d1
          have HC : Hid _ := may_any m9 X9 (HQ9.out.ok (by have := HN9.out.1; omega) (by have := HN9.out.2.1; omega) (fun S hS => by have := HN9.out.2.2.1 S hS; omega) (by have := HN9.out.2.2.2.1; omega) (by have := HN9.out.2.2.2.2; omega)) (by have := HN9.out.2.1; omega)
          have HSM : Hid _ := Msg.cells_size HQ9.out.ln
          have HRW9 : Hid _ := HQ9.out.row
          have HB2 : Hid (n ≤ sa) := Nat.le_of_not_lt hb2
          clear hbad hb1 hb2
          refine mkHid ?_
          go_wp2_with (refine ldg34 (by kernel_rfl) (.tmp 8) rfl M (by kernel_rfl) m9.cells.toArray HRW9.out HSM.out (Hid.out ?_))
          refine mkHid ?_
          go_wp2_with fail
          refine Calls.mono HC.out ?_
          rintro e X10 ⟨rfl, hb10⟩
          have HB10 : Hid _ := hb10
          have HR10 : Hid (X10.heap[w.heap.size]? = some (.cells T0 34 (0, 0))) := (hb10.block _ (lt_block HR9.out)).trans HR9.out
          have HW10 : Hid (Below w.heap.size w X10) := HW9.out.trans (hb10.mono HW9.out.size)
          have HM10 : Hid (X10.heap[M]? = some (.cells m9.cells.toArray 34 (0, 0))) := (hb10.block _ (lt_block HRW9.out)).trans HRW9.out
          clear hb10 HC HN9 q1 q2
          cases hmay : mayB m9 with
          | false =>
            have HF : Hid _ := HF9.out.1 (.inr (.inr hmay))
            rw [HT0.out] at HF
            have hst := HBAD.out X10 HR10.out
            have HRS : Hid _ := setRow_heap X10 w.heap.size _ T0 34 (0, 0) HR10.out
            have HBF : Hid (Below w.heap.size w (X10.setRow w.heap.size T0)) := below_setRow HW10.out (Nat.le_refl _) _
            clear HF9 HQ9 hmay
            generalize ReadR L (A : Int) w = R at *
            as_aux_lemma =>
            go_wp2_with fail
            refine bodyPost_ret (results_rread (g := w.heap.size) _ rfl HRS.out hts) rfl ?_
            exact HF.out _ HBF.out
          | true =>
            have HF : Hid (ReadR L (A : Int) w (.returned (.tuple #[.agg m9.cells.toArray, .int .i64 ((A : Int) + 4 + (n : Int)), .int .i64 0])) (X10.setRow w.heap.size m9.cells.toArray)) := by
              refine HF9.out.2 ⟨by trivial, HB2.out, hmay⟩ _ ?_ (below_setRow HW10.out (Nat.le_refl _) _)
              intro g cs t ht hg
              have hne : g ≠ w.heap.size := by
                intro h
                rw [h, HR9.out] at hg
                simp at hg
                exact ht hg.2.symm
              exact (setRow_other _ _ _ _ hne).trans (HB10.out.block g (lt_block hg))
            have hone := cells_one' m9
            have hsz := HSM.out
            obtain ⟨w1a, w1b, w2a, w2b⟩ := wa4 HLW.out
            have m34 : (Try.prog.info? 34).map (·.size) = some m9.cells.toArray.size := ri34.trans (by rw [hsz])
            have HRS : Hid _ := setRow_heap X10 w.heap.size _ m9.cells.toArray 34 (0, 0) HR10.out
            clear HF9 HQ9 hmay HB10 HSM HRW9
            generalize ReadR L (A : Int) w = R at *
            generalize m9.cells.toArray = C at *
            as_aux_lemma =>
            refine mkHid ?_
            go_wp2_with (refine wpList_load_row rfl 34 (.tmp 8) rfl M (by kernel_rfl) 34 C (0, 0) _ HM10.out ru34 rfl m34 (Hid.out ?_))
            refine mkHid ?_
            go_wp2_with (refine wpList_store_row rfl 34 (.tmp 4) (.tmp 226) rfl w.heap.size C (by kernel_rfl) (by kernel_rfl) 34 T0 HR10.out m34 (by rw [hts, hsz]) hone (Hid.out ?_))
            refine mkHid ?_
            go_wp2_with fail
            refine bodyPost_ret (results_rread (g := w.heap.size) _ rfl HRS.out hsz) rfl ?_
            exact HF.out
        
      | false =>
        by_cases hz0 : zXt = 0
        · have z1 : ((zXt : Int) == 0) = true := by simp [hz0]
          have z2 : decide ((zXt : Int) = 0) = true := by simp [hz0]
          have HZ0 : Hid (zXt = 0) := hz0
          clear hz0
          have HQz : Hid (Qm w1 (Xhs.setCell ⟨p, 2, none⟩ (.bool true)) p M o2 B cc (true, a8) ({ m0 1 with random := TX4, share := TX5, name := SX6, po := po, protos := ns, pc := pc, ao := oXa, params := TXa, ac := kXa, early := DF, «to» := oXt, ticket := TXt, tc := kXt, binder := TXh } : Msg)) := HZ9.out.call (Gs.set _ rfl) (HZ9.out.rq.set2 true)
          clear HZ9
          obtain ⟨s9, e9⟩ : ∃ S, ((true, a8) : Sd) = S := ⟨_, rfl⟩
          obtain ⟨m9, em9⟩ : ∃ m, ({ m0 1 with random := TX4, share := TX5, name := SX6, po := po, protos := ns, pc := pc, ao := oXa, params := TXa, ac := kXa, early := DF, «to» := oXt, ticket := TXt, tc := kXt, binder := TXh } : Msg) = m := ⟨_, rfl⟩
          have HQ9 : Hid (Qm w1 (Xhs.setCell ⟨p, 2, none⟩ (.bool true)) p M o2 B cc s9 m9) := by rw [← e9, ← em9]; exact HQz.out
          have HF9 : Hid _ := HFIN.out (Xhs.setCell ⟨p, 2, none⟩ (.bool true)) p M o2 cc s9 m9 (by rw [HB.out]; exact HQ9.out) (by rw [HB.out, (rr1_odd HK4.out HPAR.out), ← e9, HE8.out, eTXt, HZXt.out]; simp [HZ0.out]) (by rw [HB.out, (rr1_odd HK4.out HPAR.out), ← em9]; rw [HE4.out, HE5.out, HE6.out, eTXa, HF0.out, HDF.out, eTXt, eTXh]; rfl)
          rw [HCN.out] at HF9
          have HN9 : Hid (m9.name.size ≤ 65535 ∧ m9.protos.length ≤ 255 ∧ (∀ S ∈ m9.protos, S.size ≤ 255) ∧ m9.params.length ≤ 65535 ∧ m9.ticket.length ≤ 65535) := by rw [← em9]; exact ⟨by show SX6.size ≤ _; have := HS6.out; omega, HNS.out.1, HNS.out.2, by show TXa.length ≤ _; rw [HZXa.out]; omega, by show TXt.length ≤ _; rw [HZXt.out]; omega⟩
          clear e9 em9 HFIN HQz HPAR HF0 HDF HK4 HE4 HE5 HE6 eTXa eTXt eTXh HE8
          obtain ⟨X9, eX9⟩ : ∃ X, Xhs.setCell ⟨p, 2, none⟩ (.bool true) = X := ⟨_, rfl⟩
          rw [eX9] at HQ9 HF9
          as_aux_lemma =>
          have HR9 : Hid (X9.heap[w.heap.size]? = some (.cells T0 34 (0, 0))) := (HQ9.out.bel.block _ (lt_block HRW.out)).trans HRW.out
          have HW9 : Hid (Below w.heap.size w X9) := HBW.out.trans (HQ9.out.bel.mono HBW.out.size)
          have HRM : Hid (w.heap.size < w1.heap.size) := lt_block HRW.out
          have hts : T0.size = 72 := by rw [← HT0.out]; rfl
          obtain ⟨sb, sa⟩ := s9
          have q1 := HQ9.out.rq.c1
          have q2 := HQ9.out.rq.c2
          have HBAD : Hid (∀ X, X.heap[w.heap.size]? = some (.cells T0 34 (0, 0)) → (storeCells ⟨w.heap.size, 0, none⟩ T0.toList).run Try.prog X = .ok () (X.setRow w.heap.size T0)) := by
            intro X hX
            have := store34 hX hts
            rw [HT0.out] at this
            exact this
          clear HRW HBW HB
          by_cases hbad : sb = true ∨ sa < n
          · have HF : Hid _ := HF9.out.1 (hbad.imp_right .inl)
            rw [HT0.out] at HF
            have hst := HBAD.out X9 HR9.out
            have HRS : Hid _ := setRow_heap X9 w.heap.size _ T0 34 (0, 0) HR9.out
            have HBF : Hid (Below w.heap.size w (X9.setRow w.heap.size T0)) := below_setRow HW9.out (Nat.le_refl _) _
            clear HF9 HQ9 HN9
            generalize ReadR L (A : Int) w = R at *
            cases sb with
            | true =>
              clear hbad q1
              as_aux_lemma =>
              go_wp2_with fail
              refine bodyPost_ret (results_rread (g := w.heap.size) _ rfl HRS.out hts) rfl ?_
              exact HF.out _ HBF.out
            | false =>
              have d1 : (sa : Int) < (n : Int) := by simp at hbad; omega
              have d1' : decide ((sa : Int) < (n : Int)) = true := by simpa using d1
              clear hbad
              as_aux_lemma =>
              go_wp2_with fail
              refine bodyPost_ret (results_rread (g := w.heap.size) _ rfl HRS.out hts) rfl ?_
              exact HF.out _ HBF.out
          · obtain ⟨hb1, hb2⟩ := not_or.1 hbad
            obtain rfl : sb = false := by simpa using hb1
            have d1 : ¬ (sa : Int) < (n : Int) := by omega
            have d1' : decide ((sa : Int) < (n : Int)) = false := by simpa using d1
            have HC : Hid _ := may_any m9 X9 (HQ9.out.ok (by have := HN9.out.1; omega) (by have := HN9.out.2.1; omega) (fun S hS => by have := HN9.out.2.2.1 S hS; omega) (by have := HN9.out.2.2.2.1; omega) (by have := HN9.out.2.2.2.2; omega)) (by have := HN9.out.2.1; omega)
            have HSM : Hid _ := Msg.cells_size HQ9.out.ln
            have HRW9 : Hid _ := HQ9.out.row
            have HB2 : Hid (n ≤ sa) := Nat.le_of_not_lt hb2
            clear hbad hb1 hb2
            refine mkHid ?_
            go_wp2_with (refine ldg34 (by kernel_rfl) (.tmp 8) rfl M (by kernel_rfl) m9.cells.toArray HRW9.out HSM.out (Hid.out ?_))
            refine mkHid ?_
            go_wp2_with fail
            refine Calls.mono HC.out ?_
            rintro e X10 ⟨rfl, hb10⟩
            have HB10 : Hid _ := hb10
            have HR10 : Hid (X10.heap[w.heap.size]? = some (.cells T0 34 (0, 0))) := (hb10.block _ (lt_block HR9.out)).trans HR9.out
            have HW10 : Hid (Below w.heap.size w X10) := HW9.out.trans (hb10.mono HW9.out.size)
            have HM10 : Hid (X10.heap[M]? = some (.cells m9.cells.toArray 34 (0, 0))) := (hb10.block _ (lt_block HRW9.out)).trans HRW9.out
            clear hb10 HC HN9 q1 q2
            cases hmay : mayB m9 with
            | false =>
              have HF : Hid _ := HF9.out.1 (.inr (.inr hmay))
              rw [HT0.out] at HF
              have hst := HBAD.out X10 HR10.out
              have HRS : Hid _ := setRow_heap X10 w.heap.size _ T0 34 (0, 0) HR10.out
              have HBF : Hid (Below w.heap.size w (X10.setRow w.heap.size T0)) := below_setRow HW10.out (Nat.le_refl _) _
              clear HF9 HQ9 hmay
              generalize ReadR L (A : Int) w = R at *
              as_aux_lemma =>
              go_wp2_with fail
              refine bodyPost_ret (results_rread (g := w.heap.size) _ rfl HRS.out hts) rfl ?_
              exact HF.out _ HBF.out
            | true =>
              have HF : Hid (ReadR L (A : Int) w (.returned (.tuple #[.agg m9.cells.toArray, .int .i64 ((A : Int) + 4 + (n : Int)), .int .i64 0])) (X10.setRow w.heap.size m9.cells.toArray)) := by
                refine HF9.out.2 ⟨by trivial, HB2.out, hmay⟩ _ ?_ (below_setRow HW10.out (Nat.le_refl _) _)
                intro g cs t ht hg
                have hne : g ≠ w.heap.size := by
                  intro h
                  rw [h, HR9.out] at hg
                  simp at hg
                  exact ht hg.2.symm
                exact (setRow_other _ _ _ _ hne).trans (HB10.out.block g (lt_block hg))
              have hone := cells_one' m9
              have hsz := HSM.out
              obtain ⟨w1a, w1b, w2a, w2b⟩ := wa4 HLW.out
              have m34 : (Try.prog.info? 34).map (·.size) = some m9.cells.toArray.size := ri34.trans (by rw [hsz])
              have HRS : Hid _ := setRow_heap X10 w.heap.size _ m9.cells.toArray 34 (0, 0) HR10.out
              clear HF9 HQ9 hmay HB10 HSM HRW9
              generalize ReadR L (A : Int) w = R at *
              generalize m9.cells.toArray = C at *
              as_aux_lemma =>
              refine mkHid ?_
              go_wp2_with (refine wpList_load_row rfl 34 (.tmp 8) rfl M (by kernel_rfl) 34 C (0, 0) _ HM10.out ru34 rfl m34 (Hid.out ?_))
              refine mkHid ?_
              go_wp2_with (refine wpList_store_row rfl 34 (.tmp 4) (.tmp 226) rfl w.heap.size C (by kernel_rfl) (by kernel_rfl) 34 T0 HR10.out m34 (by rw [hts, hsz]) hone (Hid.out ?_))
              refine mkHid ?_
              go_wp2_with fail
              refine bodyPost_ret (results_rread (g := w.heap.size) _ rfl HRS.out hsz) rfl ?_
              exact HF.out
          
        · have z1 : ((zXt : Int) == 0) = false := by simp [hz0]
          have z2 : decide ((zXt : Int) = 0) = false := by simp [hz0]
          have HZ0 : Hid (¬ zXt = 0) := hz0
          clear hz0
          have HQz : Hid (Qm w1 (Xhs.setCell ⟨p, 2, none⟩ (.bool false)) p M o2 B cc (false, a8) ({ m0 1 with random := TX4, share := TX5, name := SX6, po := po, protos := ns, pc := pc, ao := oXa, params := TXa, ac := kXa, early := DF, «to» := oXt, ticket := TXt, tc := kXt, binder := TXh } : Msg)) := HZ9.out.call (Gs.set _ rfl) (HZ9.out.rq.set2 false)
          clear HZ9
          obtain ⟨s9, e9⟩ : ∃ S, ((false, a8) : Sd) = S := ⟨_, rfl⟩
          obtain ⟨m9, em9⟩ : ∃ m, ({ m0 1 with random := TX4, share := TX5, name := SX6, po := po, protos := ns, pc := pc, ao := oXa, params := TXa, ac := kXa, early := DF, «to» := oXt, ticket := TXt, tc := kXt, binder := TXh } : Msg) = m := ⟨_, rfl⟩
          have HQ9 : Hid (Qm w1 (Xhs.setCell ⟨p, 2, none⟩ (.bool false)) p M o2 B cc s9 m9) := by rw [← e9, ← em9]; exact HQz.out
          have HF9 : Hid _ := HFIN.out (Xhs.setCell ⟨p, 2, none⟩ (.bool false)) p M o2 cc s9 m9 (by rw [HB.out]; exact HQ9.out) (by rw [HB.out, (rr1_odd HK4.out HPAR.out), ← e9, HE8.out, eTXt, HZXt.out]; simp [HZ0.out]) (by rw [HB.out, (rr1_odd HK4.out HPAR.out), ← em9]; rw [HE4.out, HE5.out, HE6.out, eTXa, HF0.out, HDF.out, eTXt, eTXh]; rfl)
          rw [HCN.out] at HF9
          have HN9 : Hid (m9.name.size ≤ 65535 ∧ m9.protos.length ≤ 255 ∧ (∀ S ∈ m9.protos, S.size ≤ 255) ∧ m9.params.length ≤ 65535 ∧ m9.ticket.length ≤ 65535) := by rw [← em9]; exact ⟨by show SX6.size ≤ _; have := HS6.out; omega, HNS.out.1, HNS.out.2, by show TXa.length ≤ _; rw [HZXa.out]; omega, by show TXt.length ≤ _; rw [HZXt.out]; omega⟩
          clear e9 em9 HFIN HQz HPAR HF0 HDF HK4 HE4 HE5 HE6 eTXa eTXt eTXh HE8
          obtain ⟨X9, eX9⟩ : ∃ X, Xhs.setCell ⟨p, 2, none⟩ (.bool false) = X := ⟨_, rfl⟩
          rw [eX9] at HQ9 HF9
          as_aux_lemma =>
          have HR9 : Hid (X9.heap[w.heap.size]? = some (.cells T0 34 (0, 0))) := (HQ9.out.bel.block _ (lt_block HRW.out)).trans HRW.out
          have HW9 : Hid (Below w.heap.size w X9) := HBW.out.trans (HQ9.out.bel.mono HBW.out.size)
          have HRM : Hid (w.heap.size < w1.heap.size) := lt_block HRW.out
          have hts : T0.size = 72 := by rw [← HT0.out]; rfl
          obtain ⟨sb, sa⟩ := s9
          have q1 := HQ9.out.rq.c1
          have q2 := HQ9.out.rq.c2
          have HBAD : Hid (∀ X, X.heap[w.heap.size]? = some (.cells T0 34 (0, 0)) → (storeCells ⟨w.heap.size, 0, none⟩ T0.toList).run Try.prog X = .ok () (X.setRow w.heap.size T0)) := by
            intro X hX
            have := store34 hX hts
            rw [HT0.out] at this
            exact this
          clear HRW HBW HB
          by_cases hbad : sb = true ∨ sa < n
          · have HF : Hid _ := HF9.out.1 (hbad.imp_right .inl)
            rw [HT0.out] at HF
            have hst := HBAD.out X9 HR9.out
            have HRS : Hid _ := setRow_heap X9 w.heap.size _ T0 34 (0, 0) HR9.out
            have HBF : Hid (Below w.heap.size w (X9.setRow w.heap.size T0)) := below_setRow HW9.out (Nat.le_refl _) _
            clear HF9 HQ9 HN9
            generalize ReadR L (A : Int) w = R at *
            cases sb with
            | true =>
              clear hbad q1
              as_aux_lemma =>
              go_wp2_with fail
              refine bodyPost_ret (results_rread (g := w.heap.size) _ rfl HRS.out hts) rfl ?_
              exact HF.out _ HBF.out
            | false =>
              have d1 : (sa : Int) < (n : Int) := by simp at hbad; omega
              have d1' : decide ((sa : Int) < (n : Int)) = true := by simpa using d1
              clear hbad
              as_aux_lemma =>
              go_wp2_with fail
              refine bodyPost_ret (results_rread (g := w.heap.size) _ rfl HRS.out hts) rfl ?_
              exact HF.out _ HBF.out
          · obtain ⟨hb1, hb2⟩ := not_or.1 hbad
            obtain rfl : sb = false := by simpa using hb1
            have d1 : ¬ (sa : Int) < (n : Int) := by omega
            have d1' : decide ((sa : Int) < (n : Int)) = false := by simpa using d1
            have HC : Hid _ := may_any m9 X9 (HQ9.out.ok (by have := HN9.out.1; omega) (by have := HN9.out.2.1; omega) (fun S hS => by have := HN9.out.2.2.1 S hS; omega) (by have := HN9.out.2.2.2.1; omega) (by have := HN9.out.2.2.2.2; omega)) (by have := HN9.out.2.1; omega)
            have HSM : Hid _ := Msg.cells_size HQ9.out.ln
            have HRW9 : Hid _ := HQ9.out.row
            have HB2 : Hid (n ≤ sa) := Nat.le_of_not_lt hb2
            clear hbad hb1 hb2
            refine mkHid ?_
            go_wp2_with (refine ldg34 (by kernel_rfl) (.tmp 8) rfl M (by kernel_rfl) m9.cells.toArray HRW9.out HSM.out (Hid.out ?_))
            refine mkHid ?_
            go_wp2_with fail
            refine Calls.mono HC.out ?_
            rintro e X10 ⟨rfl, hb10⟩
            have HB10 : Hid _ := hb10
            have HR10 : Hid (X10.heap[w.heap.size]? = some (.cells T0 34 (0, 0))) := (hb10.block _ (lt_block HR9.out)).trans HR9.out
            have HW10 : Hid (Below w.heap.size w X10) := HW9.out.trans (hb10.mono HW9.out.size)
            have HM10 : Hid (X10.heap[M]? = some (.cells m9.cells.toArray 34 (0, 0))) := (hb10.block _ (lt_block HRW9.out)).trans HRW9.out
            clear hb10 HC HN9 q1 q2
            cases hmay : mayB m9 with
            | false =>
              have HF : Hid _ := HF9.out.1 (.inr (.inr hmay))
              rw [HT0.out] at HF
              have hst := HBAD.out X10 HR10.out
              have HRS : Hid _ := setRow_heap X10 w.heap.size _ T0 34 (0, 0) HR10.out
              have HBF : Hid (Below w.heap.size w (X10.setRow w.heap.size T0)) := below_setRow HW10.out (Nat.le_refl _) _
              clear HF9 HQ9 hmay
              generalize ReadR L (A : Int) w = R at *
              as_aux_lemma =>
              go_wp2_with fail
              refine bodyPost_ret (results_rread (g := w.heap.size) _ rfl HRS.out hts) rfl ?_
              exact HF.out _ HBF.out
            | true =>
              have HF : Hid (ReadR L (A : Int) w (.returned (.tuple #[.agg m9.cells.toArray, .int .i64 ((A : Int) + 4 + (n : Int)), .int .i64 0])) (X10.setRow w.heap.size m9.cells.toArray)) := by
                refine HF9.out.2 ⟨by trivial, HB2.out, hmay⟩ _ ?_ (below_setRow HW10.out (Nat.le_refl _) _)
                intro g cs t ht hg
                have hne : g ≠ w.heap.size := by
                  intro h
                  rw [h, HR9.out] at hg
                  simp at hg
                  exact ht hg.2.symm
                exact (setRow_other _ _ _ _ hne).trans (HB10.out.block g (lt_block hg))
              have hone := cells_one' m9
              have hsz := HSM.out
              obtain ⟨w1a, w1b, w2a, w2b⟩ := wa4 HLW.out
              have m34 : (Try.prog.info? 34).map (·.size) = some m9.cells.toArray.size := ri34.trans (by rw [hsz])
              have HRS : Hid _ := setRow_heap X10 w.heap.size _ m9.cells.toArray 34 (0, 0) HR10.out
              clear HF9 HQ9 hmay HB10 HSM HRW9
              generalize ReadR L (A : Int) w = R at *
              generalize m9.cells.toArray = C at *
              as_aux_lemma =>
              refine mkHid ?_
              go_wp2_with (refine wpList_load_row rfl 34 (.tmp 8) rfl M (by kernel_rfl) 34 C (0, 0) _ HM10.out ru34 rfl m34 (Hid.out ?_))
              refine mkHid ?_
              go_wp2_with (refine wpList_store_row rfl 34 (.tmp 4) (.tmp 226) rfl w.heap.size C (by kernel_rfl) (by kernel_rfl) 34 T0 HR10.out m34 (by rw [hts, hsz]) hone (Hid.out ?_))
              refine mkHid ?_
              go_wp2_with fail
              refine bodyPost_ret (results_rread (g := w.heap.size) _ rfl HRS.out hsz) rfl ?_
              exact HF.out
          
    · have t1 : (F : Int).tmod 2 = 0 := by rw [Int.tmod_eq_emod_of_nonneg (by omega)]; omega
      have HPAR : Hid (¬ (rF B 3 (rL B s4).1).2.toNat % 2 = 1) := by show ¬ _; rw [HF0.out]; exact hpar
      clear hpar
      obtain ⟨s9, e9⟩ : ∃ S, (rF B 3 (rL B s4).1).1 = S := ⟨_, rfl⟩
      obtain ⟨m9, em9⟩ : ∃ m, ({ m0 1 with random := TX4, share := TX5, name := SX6, po := po, protos := ns, pc := pc, ao := oXa, params := TXa, ac := kXa, early := DF } : Msg) = m := ⟨_, rfl⟩
      have HQ9 : Hid (Qm w1 (Xf.setCell ⟨M, 53, none⟩ (.bool DF)) p M o2 B cc s9 m9) := by rw [← e9, ← em9]; exact HQg.out
      have HF9 : Hid _ := HFIN.out (Xf.setCell ⟨M, 53, none⟩ (.bool DF)) p M o2 cc s9 m9 (by rw [HB.out]; exact HQ9.out) (by rw [HB.out, (rr1_even HK4.out HPAR.out), ← e9]) (by rw [HB.out, (rr1_even HK4.out HPAR.out), ← em9]; rw [HE4.out, HE5.out, HE6.out, eTXa, HF0.out, HDF.out]; rfl)
      rw [HCN.out] at HF9
      have HN9 : Hid (m9.name.size ≤ 65535 ∧ m9.protos.length ≤ 255 ∧ (∀ S ∈ m9.protos, S.size ≤ 255) ∧ m9.params.length ≤ 65535 ∧ m9.ticket.length ≤ 65535) := by rw [← em9]; exact ⟨by show SX6.size ≤ _; have := HS6.out; omega, HNS.out.1, HNS.out.2, by show TXa.length ≤ _; rw [HZXa.out]; omega, by simp [m0]⟩
      clear e9 em9 HFIN HQg HPAR HF0 HDF HK4 HE4 HE5 HE6 eTXa
      obtain ⟨X9, eX9⟩ : ∃ X, Xf.setCell ⟨M, 53, none⟩ (.bool DF) = X := ⟨_, rfl⟩
      rw [eX9] at HQ9 HF9
      as_aux_lemma =>
      have HR9 : Hid (X9.heap[w.heap.size]? = some (.cells T0 34 (0, 0))) := (HQ9.out.bel.block _ (lt_block HRW.out)).trans HRW.out
      have HW9 : Hid (Below w.heap.size w X9) := HBW.out.trans (HQ9.out.bel.mono HBW.out.size)
      have HRM : Hid (w.heap.size < w1.heap.size) := lt_block HRW.out
      have hts : T0.size = 72 := by rw [← HT0.out]; rfl
      obtain ⟨sb, sa⟩ := s9
      have q1 := HQ9.out.rq.c1
      have q2 := HQ9.out.rq.c2
      have HBAD : Hid (∀ X, X.heap[w.heap.size]? = some (.cells T0 34 (0, 0)) → (storeCells ⟨w.heap.size, 0, none⟩ T0.toList).run Try.prog X = .ok () (X.setRow w.heap.size T0)) := by
        intro X hX
        have := store34 hX hts
        rw [HT0.out] at this
        exact this
      clear HRW HBW HB
      by_cases hbad : sb = true ∨ sa < n
      · have HF : Hid _ := HF9.out.1 (hbad.imp_right .inl)
        rw [HT0.out] at HF
        have hst := HBAD.out X9 HR9.out
        have HRS : Hid _ := setRow_heap X9 w.heap.size _ T0 34 (0, 0) HR9.out
        have HBF : Hid (Below w.heap.size w (X9.setRow w.heap.size T0)) := below_setRow HW9.out (Nat.le_refl _) _
        clear HF9 HQ9 HN9
        generalize ReadR L (A : Int) w = R at *
        cases sb with
        | true =>
          clear hbad q1
          as_aux_lemma =>
          go_wp2_with fail
          refine bodyPost_ret (results_rread (g := w.heap.size) _ rfl HRS.out hts) rfl ?_
          exact HF.out _ HBF.out
        | false =>
          have d1 : (sa : Int) < (n : Int) := by simp at hbad; omega
          have d1' : decide ((sa : Int) < (n : Int)) = true := by simpa using d1
          clear hbad
          as_aux_lemma =>
          go_wp2_with fail
          refine bodyPost_ret (results_rread (g := w.heap.size) _ rfl HRS.out hts) rfl ?_
          exact HF.out _ HBF.out
      · obtain ⟨hb1, hb2⟩ := not_or.1 hbad
        obtain rfl : sb = false := by simpa using hb1
        have d1 : ¬ (sa : Int) < (n : Int) := by omega
        have d1' : decide ((sa : Int) < (n : Int)) = false := by simpa using d1
        have HC : Hid _ := may_any m9 X9 (HQ9.out.ok (by have := HN9.out.1; omega) (by have := HN9.out.2.1; omega) (fun S hS => by have := HN9.out.2.2.1 S hS; omega) (by have := HN9.out.2.2.2.1; omega) (by have := HN9.out.2.2.2.2; omega)) (by have := HN9.out.2.1; omega)
        have HSM : Hid _ := Msg.cells_size HQ9.out.ln
        have HRW9 : Hid _ := HQ9.out.row
        have HB2 : Hid (n ≤ sa) := Nat.le_of_not_lt hb2
        clear hbad hb1 hb2
        refine mkHid ?_
        go_wp2_with (refine ldg34 (by kernel_rfl) (.tmp 8) rfl M (by kernel_rfl) m9.cells.toArray HRW9.out HSM.out (Hid.out ?_))
        refine mkHid ?_
        go_wp2_with fail
        refine Calls.mono HC.out ?_
        rintro e X10 ⟨rfl, hb10⟩
        have HB10 : Hid _ := hb10
        have HR10 : Hid (X10.heap[w.heap.size]? = some (.cells T0 34 (0, 0))) := (hb10.block _ (lt_block HR9.out)).trans HR9.out
        have HW10 : Hid (Below w.heap.size w X10) := HW9.out.trans (hb10.mono HW9.out.size)
        have HM10 : Hid (X10.heap[M]? = some (.cells m9.cells.toArray 34 (0, 0))) := (hb10.block _ (lt_block HRW9.out)).trans HRW9.out
        clear hb10 HC HN9 q1 q2
        cases hmay : mayB m9 with
        | false =>
          have HF : Hid _ := HF9.out.1 (.inr (.inr hmay))
          rw [HT0.out] at HF
          have hst := HBAD.out X10 HR10.out
          have HRS : Hid _ := setRow_heap X10 w.heap.size _ T0 34 (0, 0) HR10.out
          have HBF : Hid (Below w.heap.size w (X10.setRow w.heap.size T0)) := below_setRow HW10.out (Nat.le_refl _) _
          clear HF9 HQ9 hmay
          generalize ReadR L (A : Int) w = R at *
          as_aux_lemma =>
          go_wp2_with fail
          refine bodyPost_ret (results_rread (g := w.heap.size) _ rfl HRS.out hts) rfl ?_
          exact HF.out _ HBF.out
        | true =>
          have HF : Hid (ReadR L (A : Int) w (.returned (.tuple #[.agg m9.cells.toArray, .int .i64 ((A : Int) + 4 + (n : Int)), .int .i64 0])) (X10.setRow w.heap.size m9.cells.toArray)) := by
            refine HF9.out.2 ⟨by trivial, HB2.out, hmay⟩ _ ?_ (below_setRow HW10.out (Nat.le_refl _) _)
            intro g cs t ht hg
            have hne : g ≠ w.heap.size := by
              intro h
              rw [h, HR9.out] at hg
              simp at hg
              exact ht hg.2.symm
            exact (setRow_other _ _ _ _ hne).trans (HB10.out.block g (lt_block hg))
          have hone := cells_one' m9
          have hsz := HSM.out
          obtain ⟨w1a, w1b, w2a, w2b⟩ := wa4 HLW.out
          have m34 : (Try.prog.info? 34).map (·.size) = some m9.cells.toArray.size := ri34.trans (by rw [hsz])
          have HRS : Hid _ := setRow_heap X10 w.heap.size _ m9.cells.toArray 34 (0, 0) HR10.out
          clear HF9 HQ9 hmay HB10 HSM HRW9
          generalize ReadR L (A : Int) w = R at *
          generalize m9.cells.toArray = C at *
          as_aux_lemma =>
          refine mkHid ?_
          go_wp2_with (refine wpList_load_row rfl 34 (.tmp 8) rfl M (by kernel_rfl) 34 C (0, 0) _ HM10.out ru34 rfl m34 (Hid.out ?_))
          refine mkHid ?_
          go_wp2_with (refine wpList_store_row rfl 34 (.tmp 4) (.tmp 226) rfl w.heap.size C (by kernel_rfl) (by kernel_rfl) 34 T0 HR10.out m34 (by rw [hts, hsz]) hone (Hid.out ?_))
          refine mkHid ?_
          go_wp2_with fail
          refine bodyPost_ret (results_rread (g := w.heap.size) _ rfl HRS.out hsz) rfl ?_
          exact HF.out
      
end
end Go.Proofs.Ytcchlicokglmnaa
