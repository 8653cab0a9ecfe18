/- vault: Seal of what may be sealed. -/
import Derived.Test.YthhoknkdmmldbaaSe
import Derived.Test.YthhoknkdmmldbaaAp
namespace Go.Proofs.Ythhoknkdmmldbaa
open Go.RowKit Go.Shelf Go.Lib
set_option linter.unusedVariables false

theorem made_bytes (N : Nat) : madeCells (Value.int .u8 0).cells (N * 1) = (hl (List.replicate N 0)).toArray := by
  apply Array.ext
  · simp [madeCells, hl]
  · intro i h1 h2
    simp [madeCells, hl, Value.cells, Nat.mod_one]
theorem mk_bytes (N : Nat) (hN : N ≤ 65536) (W : World) : (Instr.makeSlice 38 (.int .i64 (N : Int)) (.int .i64 ((N : Int) + 16))).run Try.prog W = .ok (.slice (some ⟨W.heap.size, 0, none⟩) N (N + 16)) (W.alloc (.cells (hl (List.replicate (N + 16) 0)).toArray 5)) := by
  obtain ⟨i, hi, hz, hs, hb⟩ := inf5
  have := run_make (P := Try.prog) W 38 5 i (.int .u8 0) Try.underlying38 hi hz .i64 .i64 (N : Int) ((N : Int) + 16) (by omega) (by omega) (by rw [hb]; omega) (by omega)
  rw [this, hs, Int.toNat_natCast, show ((N : Int) + 16).toNat = N + 16 by omega, made_bytes]
/-- The name behind the zeros. -/
theorem seal_app {W : World} {n₀ B i N : Nat} (hn : n₀ ≤ W.heap.size) (hN : N ≤ 65536) (hB : W.heap[B]? = some (.cells (hl (nameL i)).toArray 28 (0, 0))) :
    ∃ g c X', (Builtin.append_ #[38, 38] 38 #[.slice (some ⟨W.heap.size, 0, none⟩) N (N + 16), .slice (some ⟨B, 0, none⟩) 16 16]).run Try.prog (W.alloc (.cells (hl (List.replicate (N + 16) 0)).toArray 5)) = .ok (.slice (some ⟨g, 0, none⟩) (N + 16) c) X' ∧ By n₀ X' (some ⟨g, 0, none⟩) c (List.replicate N 0 ++ nameL i) ∧ Below W.heap.size W X' := by
  obtain ⟨ii, hi, hz, hs, hb⟩ := inf5
  have hown : (W.alloc (.cells (hl (List.replicate (N + 16) 0)).toArray 5)).ownsRow W.heap.size 5 1 (.slice (some ⟨W.heap.size, 0, none⟩) N (N + 16)) N (hl (List.replicate N 0)) := by
    refine ⟨by simp, .inr ⟨W.heap.size, N + 16, _, rfl, Nat.le_refl _, heap_alloc_new W _, by omega, by unfold maxLen; omega, by simp, ?_⟩⟩
    simp [hl]
  have hB1 := nth' (o := .cells (hl (List.replicate (N + 16) 0)).toArray 5) hB
  have hcell : ∀ j u, (hl (nameL i))[j]? = some u → (W.alloc (.cells (hl (List.replicate (N + 16) 0)).toArray 5)).cell? ((⟨B, 0, none⟩ : Addr).add j) = some u := by
    intro j u hu
    rw [Addr.add_mid]
    simp only [World.cell?, hB1, Nat.zero_add]
    simpa using hu
  obtain ⟨v', w', hrun, hown', hgr, _, hat⟩ := run_append_own_at (P := Try.prog) (W.alloc (.cells (hl (List.replicate (N + 16) 0)).toArray 5)) W.heap.size 38 38 5 ii (.int .u8 0) 1 1 Try.underlying38 hi hz hs hb rfl (by decide) _ _ _ hown ⟨B, 0, none⟩ 16 16 (hl (nameL i)) (by simp [nameL_len]) hcell (hl_oc _) (by unfold maxLen; omega) (by omega) (by simp)
  rw [← hl_app] at hown'
  have hcopy := hown'
  obtain ⟨_, h | ⟨g, cap, cur, rfl, k1, k2, k3, k4, k5, k6⟩⟩ := hcopy
  · omega
  · have hlen : (List.replicate N (0 : UInt8) ++ nameL i).length = N + 16 := by simp [nameL_len]
    refine ⟨g, cap, w', hrun, ⟨own_sl hown' hlen, by rw [hlen]; omega, by rw [hlen]; omega, by unfold maxLen at k4; omega, fun _ => ⟨g, 0, rfl, .inr ⟨cur, 5, _, k2, .inl rfl⟩⟩⟩, ?_⟩
    refine ⟨hgr.os, hgr.tape, hgr.output, by have := hgr.size; simp at this; omega, fun k hk => ?_⟩
    rw [hgr.block k (by simp; omega) (by simp only [Value.ownBlock]; intro e; injection e with e; omega)]
    exact Below.heap_alloc _ _ _ hk
section
variable {n₀ V G c M : Nat} {L : List Tm} {w : World}
theorem Made.wrap {W2 W3 W4 : World} {t : Tm} {i : Nat} (hb : Below w.heap.size w W2) (hm : Made n₀ W2 W3 V G M L t i) (lV : V < w.heap.size) (lG : G < w.heap.size) (lM : M < w.heap.size) (h4 : Below W3.heap.size W3 W4) : Made n₀ w W4 V G M L t i := by
  obtain ⟨G', c', L', a1, a2, a3, a4, a5⟩ := hm
  have hs := hb.size
  have hs2 := a2.2.2.2.1
  refine ⟨G', c', L', a1.bel h4, ⟨h4.os.trans (a2.1.trans hb.os), h4.tape.trans (a2.2.1.trans hb.tape), h4.output.trans (a2.2.2.1.trans hb.output), by have := h4.size; omega, fun k hk hx => (h4.block k (by omega)).trans ((a2.2.2.2.2 k (by omega) hx).trans (hb.block k hk))⟩, ?_, a4, a5⟩
  rcases a3 with e | e
  · exact .inl e
  · exact .inr (by omega)
/-- How Seal ends. -/
def SealP (n₀ V G M : Nat) (L : List Tm) (w : World) (t : Tm) (N : Nat) (e : Ending) (w' : World) : Prop := ∃ i g cg, e = .returned (.tuple #[.slice (some ⟨g, 0, none⟩) (N + 16) cg, .int .i64 0]) ∧ Made n₀ w w' V G M L t i ∧ By n₀ w' (some ⟨g, 0, none⟩) cg (List.replicate N 0 ++ nameL i)
set_option maxRecDepth 100000 in
set_option maxHeartbeats 2000000 in
theorem seal_yes (h : Va n₀ w V G c M L) (hle : L.length ≤ 1000000) (k : Nat) (hk : k < L.length) (n : Int) (hn : 0 ≤ n) (oa op : Option Addr) (ca cp : Nat) (la lp : List UInt8) (hSa : Sl w oa la) (hSp : Sl w op lp) (hlp : lp.length ≤ 65536) :
    Calls Try.prog 18 #[.pointer (some ⟨V, 0, none⟩), hv (nameL k), .int .i64 n, .slice oa la.length ca, .slice op lp.length cp] w (SealP n₀ V G M L w ⟨6, k, n, ⟨la.toArray⟩, ⟨lp.toArray⟩⟩ lp.length) := by
  obtain ⟨b1, b3⟩ := box1 w (nameL k)
  have h1 := h.bel b3
  have HSE : Aside _ := sealer_yes h1 hle k hk n hn
  have HB : Aside _ := b3
  have HCV : Aside (∀ W, Below w.heap.size w W → (convert 38 9 (.slice op lp.length cp)).run Try.prog W = .ok (.string ⟨lp.toArray⟩) W) := fun W hW => conv_bytes (hSp.bel hW) cp
  have HST : Aside (∀ W, Below w.heap.size w W → Calls Try.prog 48 #[.int .i64 (k : Int), .int .i64 n, .slice oa la.length ca, .string ⟨lp.toArray⟩] W fun e w' => e = .returned (tv ⟨6, k, n, ⟨la.toArray⟩, ⟨lp.toArray⟩⟩) ∧ Below W.heap.size W w') := fun W hW => sealedText_c k n oa ca la ⟨lp.toArray⟩ W (hSa.bel hW)
  have HMD : Aside (∀ W, Below w.heap.size w W → Calls Try.prog 44 #[.pointer (some ⟨V, 0, none⟩), tv ⟨6, k, n, ⟨la.toArray⟩, ⟨lp.toArray⟩⟩] W fun e w' => ∃ i, e = .returned (hv (nameL i)) ∧ i ≤ L.length ∧ Made n₀ W w' V G M L ⟨6, k, n, ⟨la.toArray⟩, ⟨lp.toArray⟩⟩ i) := fun W hW => made_c n₀ V G c M L _ W (h.bel hW) hle (by simp) ⟨by simp, by simp, fun _ => hk, fun h => by simp at h⟩
  have hmk := mk_bytes lp.length hlp
  have lV := h.lV
  have lG := h.lG
  have lM := h.lM
  have bV := h.bV
  have hs := nameL_len k
  obtain ⟨t, ht⟩ : ∃ t : Tm, t = ⟨6, k, n, ⟨la.toArray⟩, ⟨lp.toArray⟩⟩ := ⟨_, rfl⟩
  rw [← ht] at HMD HST ⊢
  obtain ⟨NP, hNP⟩ : ∃ NP, lp.length = NP := ⟨_, rfl⟩
  rw [hNP] at HCV hmk hlp ⊢
  obtain ⟨NA, hNA⟩ : ∃ NA, la.length = NA := ⟨_, rfl⟩
  rw [hNA] at HST ⊢
  generalize (⟨lp.toArray⟩ : ByteArray) = SP at *
  have htv : ∃ TV, tv t = TV := ⟨_, rfl⟩
  obtain ⟨TV, hTV⟩ := htv
  rw [hTV] at HMD HST
  have j1 : ¬ (65536 : Int) < (NP : Int) := by omega
  have j2 : decide ((65536 : Int) < (NP : Int)) = false := by simpa using j1
  have j3 : IntKind.i64.wrap ((NP : Int) + 16) = (NP : Int) + 16 := by rw [IntKind.wrap_i64]; omega
  have HLP : Aside _ := hlp
  clear h1 h b3 ht hNP hNA hTV hSa hSp hlp
  have mixed : Try.prog.follows Departure.mixedOrders = true := by kernel_rfl
  go_enter Try.func18, Try.ntmps18
  go_wp2_with (refine ld28 rfl (.tmp 6) rfl w.heap.size rfl (nameL k) b1 hs ?_)
  refine Calls.mono HSE.out ?_
  rintro e W1 ⟨rfl, hb⟩
  have HB1 : Aside (Below w.heap.size w W1) := HB.out.trans (hb.mono HB.out.size)
  have hcv := HCV.out W1 HB1.out
  clear hb HSE HB b1
  go_wp2_with fail
  refine Calls.mono (HST.out W1 HB1.out) ?_
  rintro e W2 ⟨rfl, hb⟩
  have HB2 : Aside (Below w.heap.size w W2) := HB1.out.trans (hb.mono HB1.out.size)
  clear hb HST hcv HCV
  go_wp2_with fail
  refine Calls.mono (HMD.out W2 HB2.out) ?_
  rintro e W3 ⟨i, rfl, hi, hm⟩
  have HM3 : Aside (Made n₀ W2 W3 V G M L t i) := hm
  clear hm hi HMD
  go_wp2_with (refine st28 rfl (.tmp 14) (.tmp 37) rfl W3.heap.size (nameL i) rfl rfl z16 (heap_alloc_new W3 _) (nameL_len i) rfl (Hid.out ?_))
  rw [hz28]
  have X14 : Aside _ := (nbox W3 z16 (nameL i)).1
  have HMW : Aside (∀ W', Below ((W3.alloc (.cells (hl z16).toArray 28)).setRow W3.heap.size (hl (nameL i)).toArray).heap.size ((W3.alloc (.cells (hl z16).toArray 28)).setRow W3.heap.size (hl (nameL i)).toArray) W' → Made n₀ w W' V G M L t i) := fun W' hW' => Made.wrap HB2.out HM3.out lV lG lM ((nbox W3 z16 (nameL i)).2.trans (hW'.mono (nbox W3 z16 (nameL i)).2.size))
  have hsz : n₀ ≤ ((W3.alloc (.cells (hl z16).toArray 28)).setRow W3.heap.size (hl (nameL i)).toArray).heap.size := by
    have h1 := HB2.out.size
    have h2 : W2.heap.size ≤ W3.heap.size := by obtain ⟨G', c', L', a1, a2, _⟩ := HM3.out; exact a2.2.2.2.1
    have h3 := (nbox W3 z16 (nameL i)).2.size
    omega
  generalize (W3.alloc (.cells (hl z16).toArray 28)).setRow W3.heap.size (hl (nameL i)).toArray = W4 at *
  generalize W3.heap.size = B14 at *
  obtain ⟨g, cg, X', hrun, hby, hbe⟩ := seal_app (W := W4.drew) (n₀ := n₀) (N := NP) hsz HLP.out (show W4.drew.heap[B14]? = _ from X14.out)
  have HRUN : Aside _ := hrun
  have HBY : Aside (By n₀ X' (some ⟨g, 0, none⟩) cg (List.replicate NP 0 ++ nameL i)) := hby
  have HMF : Aside (Made n₀ w X' V G M L t i) := HMW.out X' ((bel_drew W4).trans hbe)
  clear hrun hby hbe HMW HM3 HB2 hsz
  refine mkHid ?_
  go_wp2_with fail
  refine wp_region_held_drew (S := fun _ => True) (by kernel_rfl) trivial (fun hHeld => ?_)
  refine wpAnyH_take (i := 0) (v := .slice op NP cp) rfl (by kernel_rfl) (by kernel_rfl) (by kernel_rfl) (fun _ _ _ h => h) (Or.inl ⟨by rfl, by intro w _; go_simp⟩) hHeld ?_
  refine norm_any' (fun K hK => ?_)
  go_simp
  refine hK _ _ ?_
  clear hK K
  refine wpAnyH_take (i := 1) (v := .int .i64 (NP : Int)) rfl (by kernel_rfl) (by kernel_rfl) (by kernel_rfl) (fun _ _ _ h => h) (Or.inl ⟨by rfl, by intro w _; go_simp⟩) hHeld ?_
  refine norm_any' (fun K hK => ?_)
  go_simp
  refine hK _ _ ?_
  clear hK K
  refine wpAnyH_take (i := 2) (v := .slice op NP cp) rfl (by kernel_rfl) (by kernel_rfl) (by kernel_rfl) (fun _ _ _ h => h) (Or.inl ⟨by rfl, by intro w _; go_simp⟩) hHeld ?_
  refine norm_any' (fun K hK => ?_)
  go_simp
  refine hK _ _ ?_
  clear hK K
  refine wpAnyH_take (i := 3) (v := .int .i64 (NP : Int)) rfl (by kernel_rfl) (by kernel_rfl) (by kernel_rfl) (fun _ _ _ h => h) (Or.inl ⟨by rfl, by intro w _; go_simp⟩) hHeld ?_
  refine norm_any' (fun K hK => ?_)
  go_simp
  refine hK _ _ ?_
  clear hK K
  refine wpAnyH_take (i := 4) (v := .int .i64 ((NP : Int) + 16)) rfl (by kernel_rfl) (by kernel_rfl) (by kernel_rfl) (fun _ _ _ h => h) (Or.inl ⟨by rfl, by intro w _; go_simp⟩) hHeld ?_
  refine norm_any' (fun K hK => ?_)
  go_simp
  refine hK _ _ ?_
  clear hK K
  refine wpAnyH_take (i := 6) (v := .slice (some ⟨B14, 0, none⟩) 16 16) rfl (by kernel_rfl) (by kernel_rfl) (by kernel_rfl) (fun _ _ _ h => h) (Or.inl ⟨by rfl, by intro w _; go_simp⟩) hHeld ?_
  refine norm_any' (fun K hK => ?_)
  go_simp
  refine hK _ _ ?_
  clear hK K
  refine wpAnyH_ready (rs := [5]) (by kernel_rfl) (by simp) (AllReadyH.cons rfl (fun K hK => ?_) AllReadyH.nil)
  go_simp
  refine hK.out _ _ trivial (fun hHeld => ?_)
  clear hK K
  refine norm_any' (fun K hK => ?_)
  go_simp
  refine hK _ _ ?_
  clear hK K
  refine wpAnyH_ready (rs := [7]) (by kernel_rfl) (by simp) (AllReadyH.cons rfl (fun K hK => ?_) AllReadyH.nil)
  refine step_append_run rfl _ _ 38 38 rfl _ _ (by rfl) (by rfl) HRUN.out ?_
  refine hK.out _ _ trivial (fun hHeld => ?_)
  clear hK K
  refine norm_any' (fun K hK => ?_)
  go_simp
  refine hK _ _ ?_
  clear hK K
  refine wpAnyH_take (i := 8) (v := .slice (some ⟨g, 0, none⟩) (NP + 16) cg) rfl (by kernel_rfl) (by kernel_rfl) (by kernel_rfl) (fun _ _ _ h => h) (Or.inl ⟨by rfl, by intro w _; go_simp⟩) hHeld ?_
  refine norm_any' (fun K hK => ?_)
  go_simp
  refine hK _ _ ?_
  clear hK K
  refine wpAnyH_take (i := 9) (v := .int .i64 0) rfl (by kernel_rfl) (by kernel_rfl) (by kernel_rfl) (fun _ _ _ h => h) (Or.inl ⟨by rfl, by intro w _; go_simp⟩) hHeld ?_
  refine norm_any' (fun K hK => ?_)
  go_simp
  refine hK _ _ ?_
  clear hK K
  refine wpAnyH_done (by kernel_rfl) ?_ _
  go_wp2
  go_ret2
  exact ⟨i, g, cg, rfl, HMF.out, HBY.out⟩
end
end Go.Proofs.Ythhoknkdmmldbaa
