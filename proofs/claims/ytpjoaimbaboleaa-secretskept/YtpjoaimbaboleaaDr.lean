/- vault: Derive of what is there. -/
import Derived.Test.YtpjoaimbaboleaaDe
namespace Go.Proofs.Ytpjoaimbaboleaa
open Go.RowKit Go.Shelf Go.Lib
set_option linter.unusedVariables false

section
variable {n₀ V G c M : Nat} {L : List Tm} {w : World}
set_option maxRecDepth 100000 in
set_option maxHeartbeats 2000000 in
theorem derive_yes (h : Va n₀ w V G c M L) (hle : L.length ≤ 1000000) (k : Nat) (hk : k < L.length) (S : ByteArray) (hS0 : S.size ≠ 0) (hS1 : S.size ≤ 140737488351232) (o : Option Addr) (cp : Nat) (l : List UInt8) (hS : Sl w o l) : Calls Try.prog 55 #[.pointer (some ⟨V, 0, none⟩), hv (nameL k), .string S, .slice o l.length cp] w fun e w' => ∃ i, e = .returned (.tuple #[hv (nameL i), .int .i64 0]) ∧ i ≤ L.length ∧ Made n₀ w w' V G M L ⟨2, k, 0, S, ⟨l.toArray⟩⟩ i := by
  obtain ⟨b1, b2, b3, b4⟩ := box2 w (nameL k)
  have h1 := h.bel b3
  have HNB : Aside _ := number_yes h1 hle k hk
  have HCV : Aside (∀ W, Below ((w.alloc (.cells (hl (nameL k)).toArray 29)).alloc (.cells (hl z16).toArray 29)).heap.size ((w.alloc (.cells (hl (nameL k)).toArray 29)).alloc (.cells (hl z16).toArray 29)) W → (convert 33 9 (.slice o l.length cp)).run Try.prog W = .ok (.string ⟨l.toArray⟩) W) := fun W hW => conv_bytes ((hS.bel b3).bel hW) cp
  have HMD : Aside (∀ W, Below ((w.alloc (.cells (hl (nameL k)).toArray 29)).alloc (.cells (hl z16).toArray 29)).heap.size ((w.alloc (.cells (hl (nameL k)).toArray 29)).alloc (.cells (hl z16).toArray 29)) W → Calls Try.prog 45 #[.pointer (some ⟨V, 0, none⟩), tv ⟨2, k, 0, S, ⟨l.toArray⟩⟩] W fun e w' => ∃ i, e = .returned (hv (nameL i)) ∧ i ≤ L.length ∧ Made n₀ W w' V G M L ⟨2, k, 0, S, ⟨l.toArray⟩⟩ i) := fun W hW => made_c n₀ V G c M L ⟨2, k, 0, S, ⟨l.toArray⟩⟩ W (h1.bel hW) hle (by simp) ⟨by simp, by simp, fun _ => hk, fun h => absurd h (by simp)⟩
  rw [tv_der] at HMD
  have lV := h.lV
  have lG := h.lG
  have lM := h.lM
  have hs := nameL_len k
  have HFN : Aside (∀ W W2 i, Below ((w.alloc (.cells (hl (nameL k)).toArray 29)).alloc (.cells (hl z16).toArray 29)).heap.size ((w.alloc (.cells (hl (nameL k)).toArray 29)).alloc (.cells (hl z16).toArray 29)) W → Made n₀ W W2 V G M L ⟨2, k, 0, S, ⟨l.toArray⟩⟩ i → W2.heap[w.heap.size + 1]? = some (.cells (hl z16).toArray 29 (0, 0)) ∧ Made n₀ w (W2.setRow (w.heap.size + 1) (hl (nameL i)).toArray) V G M L ⟨2, k, 0, S, ⟨l.toArray⟩⟩ i) := by
    intro W W2 i hW hm
    have hz := hm.box (w := w) (heap_bel b2 hW) (by omega) (by omega) (by omega)
    exact ⟨hz, hm.fin (b3.trans (hW.mono b3.size)) lV lG lM hz (by omega) _⟩
  have HCL : Aside (∀ W, Calls Try.prog 62 #[.string S] W fun e w' => e = .returned (.string S) ∧ Below W.heap.size W w') := fun W => clone_c S W hS0 hS1
  clear h1 h b2 b3 b4 hS
  generalize L.length = N at *
  generalize l.length = NL at *
  generalize hPm : (fun W W2 i => Made n₀ W W2 V G M L ⟨2, k, 0, S, ⟨l.toArray⟩⟩ i) = Pm at *
  have ePm : ∀ W W2 i, Made n₀ W W2 V G M L ⟨2, k, 0, S, ⟨l.toArray⟩⟩ i = Pm W W2 i := fun W W2 i => by rw [← hPm]
  simp only [ePm] at HMD HFN ⊢
  clear hPm ePm
  generalize (⟨l.toArray⟩ : ByteArray) = BL at *
  have mixed : Try.prog.follows Departure.mixedOrders = true := by kernel_rfl
  go_enter Try.func55, Try.ntmps55
  go_wp2_with (refine ld28 rfl (.tmp 5) rfl w.heap.size rfl (nameL k) b1 hs ?_)
  rw [hz28]
  generalize ((w.alloc (.cells (hl (nameL k)).toArray 29)).alloc (.cells (hl z16).toArray 29)) = W1 at *
  refine Calls.mono HNB.out ?_
  rintro e W2 ⟨rfl, hb⟩
  have HB : Aside (Below W1.heap.size W1 W2) := hb
  clear HNB hb
  go_wp2_with fail
  have HBd : Aside (Below W1.heap.size W1 W2.drew) := HB.out.trans ((bel_drew W2).mono HB.out.size)
  have hcv0 := HCV.out W2.drew HBd.out
  refine wp_region_held_drew (S := fun _ => True) (by kernel_rfl) trivial (fun hHeld => ?_)
  refine wpAnyH_take (i := 0) (v := .pointer (some ⟨V, 0, none⟩)) rfl (by kernel_rfl) (by kernel_rfl) (by kernel_rfl) (fun _ _ _ h => h) (Or.inl ⟨by rfl, by intro w hs; go_simp⟩) hHeld ?_
  refine norm_any' (fun K hK => ?_)
  go_simp
  refine hK _ _ ?_
  clear hK K
  refine wpAnyH_take (i := 1) (v := .int .i64 (k : Int)) rfl (by kernel_rfl) (by kernel_rfl) (by kernel_rfl) (fun _ _ _ h => h) (Or.inl ⟨by rfl, by intro w hs; go_simp⟩) hHeld ?_
  refine norm_any' (fun K hK => ?_)
  go_simp
  refine hK _ _ ?_
  clear hK K
  refine wpAnyH_take (i := 2) (v := .string S) rfl (by kernel_rfl) (by kernel_rfl) (by kernel_rfl) (fun _ _ _ h => h) (Or.inl ⟨by rfl, by intro w hs; go_simp⟩) hHeld ?_
  refine norm_any' (fun K hK => ?_)
  go_simp
  refine hK _ _ ?_
  clear hK K
  refine wpAnyH_take (i := 4) (v := .slice o NL cp) rfl (by kernel_rfl) (by kernel_rfl) (by kernel_rfl) (fun _ _ _ h => h) (Or.inl ⟨by rfl, by intro w hs; go_simp⟩) hHeld ?_
  refine norm_any' (fun K hK => ?_)
  go_simp
  refine hK _ _ ?_
  clear hK K
  refine wpAnyH_ready (rs := [3, 5]) (by kernel_rfl) (by simp) (AllReadyH.cons rfl (fun K hK => ?_) (AllReadyH.cons rfl (fun K hK => ?_) AllReadyH.nil))
  · skip
    go_simp
    refine Calls.mono (HCL.out _) ?_
    rintro e Y1 ⟨rfl, hb⟩
    have HB1 : Aside (Below W1.heap.size W1 Y1) := HBd.out.trans (hb.mono HBd.out.size)
    have hcv1 := HCV.out Y1 HB1.out
    clear hb
    refine hK.out _ _ trivial (fun hHeld => ?_)
    clear hK K
    refine norm_any' (fun K hK => ?_)
    go_simp
    refine hK _ _ ?_
    clear hK K
    refine wpAnyH_ready (rs := [5]) (by kernel_rfl) (by simp) (AllReadyH.cons rfl (fun K hK => ?_) AllReadyH.nil)
    go_simp
    refine hK.out _ _ trivial (fun hHeld => ?_)
    clear hK K
    refine norm_any' (fun K hK => ?_)
    go_simp
    refine hK _ _ ?_
    clear hK K
    refine wpAnyH_take (i := 6) (v := .agg #[.int .i64 2, .int .i64 (k : Int), .int .i64 0, .string S, .string BL]) rfl (by kernel_rfl) (by kernel_rfl) (by kernel_rfl) (fun _ _ _ h => h) (Or.inl ⟨by rfl, by intro w hs; go_simp⟩) hHeld ?_
    refine norm_any' (fun K hK => ?_)
    go_simp
    refine hK _ _ ?_
    clear hK K
    refine wpAnyH_ready (rs := [7]) (by kernel_rfl) (by simp) (AllReadyH.cons rfl (fun K hK => ?_) AllReadyH.nil)
    go_simp
    refine Calls.mono (HMD.out _ HB1.out) ?_
    rintro e W3 ⟨i, rfl, hi, hm⟩
    obtain ⟨hz, hm2⟩ := HFN.out _ W3 i HB1.out hm
    have HM2 : Aside _ := hm2
    have HZ : Aside _ := hz
    have HR : Aside _ := setRow_heap W3 (w.heap.size + 1) _ (hl (nameL i)).toArray 29 (0, 0) hz
    have HI : Aside _ := hi
    clear hm hm2 hi hz
    refine hK.out _ _ trivial (fun hHeld => ?_)
    clear hK K
    refine norm_any' (fun K hK => ?_)
    go_simp
    refine hK _ _ ?_
    clear hK K
    generalize hHn : nameL i = Hn at *
    have hHl : Hn.length = 16 := by rw [← hHn]; exact nameL_len i
    refine wpAnyH_ready (rs := [8]) (by kernel_rfl) (by simp) (AllReadyH.cons rfl (fun K hK => ?_) AllReadyH.nil)
    rw [if_pos (by rfl)]
    refine wp_store_row 29 _ _ rfl (w.heap.size + 1) (hl Hn).toArray (by rfl) (by rfl) 29 _ HZ.out (hi28.trans (by simp [hHl])) (by simp [hHl, z16_len]) (hl_one Hn) ?_
    refine hK.out _ _ trivial (fun hHeld => ?_)
    clear hK K
    refine norm_any' (fun K hK => ?_)
    go_simp
    refine hK _ _ ?_
    clear hK K
    refine wpAnyH_take (i := 9) (v := .int .i64 0) rfl (by kernel_rfl) (by kernel_rfl) (by kernel_rfl) (fun _ _ _ h => h) (Or.inl ⟨by rfl, by intro w hs; go_simp⟩) hHeld ?_
    refine norm_any' (fun K hK => ?_)
    go_simp
    refine hK _ _ ?_
    clear hK K
    refine wpAnyH_done (by kernel_rfl) ?_ _
    clear hHeld
    go_wp2_with fail
    refine bodyPost_ret (v := .tuple #[hv Hn, .int .i64 0]) (res_h (fn := Try.f55) (p := 8) (u := 9) rfl _ _ (w.heap.size + 1) Hn rfl HR.out hHl) rfl ?_
    exact ⟨i, by rw [hHn], HI.out, HM2.out⟩
  · skip
    go_simp
    refine hK.out _ _ trivial (fun hHeld => ?_)
    clear hK K
    refine norm_any' (fun K hK => ?_)
    go_simp
    refine hK _ _ ?_
    clear hK K
    refine wpAnyH_ready (rs := [3]) (by kernel_rfl) (by simp) (AllReadyH.cons rfl (fun K hK => ?_) AllReadyH.nil)
    go_simp
    refine Calls.mono (HCL.out _) ?_
    rintro e Y1 ⟨rfl, hb⟩
    have HB1 : Aside (Below W1.heap.size W1 Y1) := HBd.out.trans (hb.mono HBd.out.size)
    clear hb
    refine hK.out _ _ trivial (fun hHeld => ?_)
    clear hK K
    refine norm_any' (fun K hK => ?_)
    go_simp
    refine hK _ _ ?_
    clear hK K
    refine wpAnyH_take (i := 6) (v := .agg #[.int .i64 2, .int .i64 (k : Int), .int .i64 0, .string S, .string BL]) rfl (by kernel_rfl) (by kernel_rfl) (by kernel_rfl) (fun _ _ _ h => h) (Or.inl ⟨by rfl, by intro w hs; go_simp⟩) hHeld ?_
    refine norm_any' (fun K hK => ?_)
    go_simp
    refine hK _ _ ?_
    clear hK K
    refine wpAnyH_ready (rs := [7]) (by kernel_rfl) (by simp) (AllReadyH.cons rfl (fun K hK => ?_) AllReadyH.nil)
    go_simp
    refine Calls.mono (HMD.out _ HB1.out) ?_
    rintro e W3 ⟨i, rfl, hi, hm⟩
    obtain ⟨hz, hm2⟩ := HFN.out _ W3 i HB1.out hm
    have HM2 : Aside _ := hm2
    have HZ : Aside _ := hz
    have HR : Aside _ := setRow_heap W3 (w.heap.size + 1) _ (hl (nameL i)).toArray 29 (0, 0) hz
    have HI : Aside _ := hi
    clear hm hm2 hi hz
    refine hK.out _ _ trivial (fun hHeld => ?_)
    clear hK K
    refine norm_any' (fun K hK => ?_)
    go_simp
    refine hK _ _ ?_
    clear hK K
    generalize hHn : nameL i = Hn at *
    have hHl : Hn.length = 16 := by rw [← hHn]; exact nameL_len i
    refine wpAnyH_ready (rs := [8]) (by kernel_rfl) (by simp) (AllReadyH.cons rfl (fun K hK => ?_) AllReadyH.nil)
    rw [if_pos (by rfl)]
    refine wp_store_row 29 _ _ rfl (w.heap.size + 1) (hl Hn).toArray (by rfl) (by rfl) 29 _ HZ.out (hi28.trans (by simp [hHl])) (by simp [hHl, z16_len]) (hl_one Hn) ?_
    refine hK.out _ _ trivial (fun hHeld => ?_)
    clear hK K
    refine norm_any' (fun K hK => ?_)
    go_simp
    refine hK _ _ ?_
    clear hK K
    refine wpAnyH_take (i := 9) (v := .int .i64 0) rfl (by kernel_rfl) (by kernel_rfl) (by kernel_rfl) (fun _ _ _ h => h) (Or.inl ⟨by rfl, by intro w hs; go_simp⟩) hHeld ?_
    refine norm_any' (fun K hK => ?_)
    go_simp
    refine hK _ _ ?_
    clear hK K
    refine wpAnyH_done (by kernel_rfl) ?_ _
    clear hHeld
    go_wp2_with fail
    refine bodyPost_ret (v := .tuple #[hv Hn, .int .i64 0]) (res_h (fn := Try.f55) (p := 8) (u := 9) rfl _ _ (w.heap.size + 1) Hn rfl HR.out hHl) rfl ?_
    exact ⟨i, by rw [hHn], HI.out, HM2.out⟩
end
end Go.Proofs.Ytpjoaimbaboleaa
