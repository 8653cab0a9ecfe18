/- vault: Verify. -/
import Derived.Test.YthhoknkdmmldbaaCt
namespace Go.Proofs.Ythhoknkdmmldbaa
open Go.RowKit Go.Shelf Go.Lib
set_option linter.unusedVariables false
section
variable {n₀ V G c M : Nat} {L : List Tm} {w : World}
/-- What Verify answers of a public half. -/
def VerP (L : List Tm) (t : Tm) (H : List UInt8) (e : Ending) : Prop := (∃ i : Nat, L[i]? = some t ∧ H = nameL i ∧ e = .returned (.int .i64 0)) ∨ ((∀ i : Nat, L[i]? = some t → H ≠ nameL i) ∧ e = .returned (.int .i64 21))
set_option maxRecDepth 100000 in
set_option maxHeartbeats 2000000 in
theorem verify_c (h : Va n₀ w V G c M L) (hle : L.length ≤ 1000000) (j : Nat) (s : Tm) (hj : L[j]? = some s) (h3 : s.kd = 3) (H : List UInt8) (hH : H.length = 16) (o : Option Addr) (cp : Nat) (l : List UInt8) (hS : Sl w o l) :
    Calls Try.prog 21 #[.pointer (some ⟨V, 0, none⟩), hv (nameL j), .slice o l.length cp, hv H] w fun e w' => VerP L ⟨5, s.of', 0, ⟨#[]⟩, ⟨l.toArray⟩⟩ H e ∧ Below w.heap.size w w' := by
  obtain ⟨b1, b2, b3⟩ := box2' w (nameL j) H
  have h1 := h.bel b3
  have hs := nameL_len j
  have HSO : Aside _ := secretOf_yes h1 hle j s hj h3
  obtain ⟨S, hSS⟩ : ∃ S : ByteArray, (⟨l.toArray⟩ : ByteArray) = S := ⟨_, rfl⟩
  have HK : Aside (∀ W, Below ((w.alloc (.cells (hl (nameL j)).toArray 28)).alloc (.cells (hl H).toArray 28)).heap.size ((w.alloc (.cells (hl (nameL j)).toArray 28)).alloc (.cells (hl H).toArray 28)) W → W.heap[w.heap.size + 1]? = some (.cells (hl H).toArray 28 (0, 0)) ∧ W.cell? ⟨V, 1, none⟩ = some (.map (some M)) ∧ (convert 38 9 (.slice o l.length cp)).run Try.prog W = .ok (.string S) W ∧ Va n₀ W V G c M L) := fun W hW => ⟨heap_bel b2 hW, (h1.bel hW).cV1, by rw [← hSS]; exact conv_bytes ((hS.bel b3).bel hW) cp, h1.bel hW⟩
  have HB3 : Aside _ := b3
  rw [hSS]
  have hmu := hu28
  have hmi : (Try.prog.info? 28).map (·.size) = some (hl H).length := hi28.trans (by rw [hl_len, hH])
  clear h1 h b2 b3 hS hSS hj h3
  generalize l.length = N at *
  generalize ho : (s.of' : Int) = oi at *
  go_enter Try.func21, Try.ntmps21
  go_wp2_with (refine ld28 rfl (.tmp 5) rfl w.heap.size rfl (nameL j) b1 hs ?_)
  generalize (w.alloc (.cells (hl (nameL j)).toArray 28)).alloc (.cells (hl H).toArray 28) = W1 at *
  refine Calls.mono HSO.out ?_
  rintro e W2 ⟨rfl, hb⟩
  obtain ⟨k1, k2, k3, k4⟩ := HK.out W2 hb
  obtain ⟨d1, d2, d3, d4⟩ := HK.out W2.drew (hb.trans ((bel_drew W2).mono hb.size))
  have HB : Aside _ := HB3.out.trans (hb.mono HB3.out.size)
  have HX : Aside _ := d1
  have HD : Aside _ := And.intro d2 d3
  obtain ⟨es, ck, hm, hmo⟩ := d4.hM
  clear HSO HK HB3 hb k1 k2 k3 k4 d1 d2 d3
  by_cases hmem : (⟨5, s.of', 0, ⟨#[]⟩, S⟩ : Tm) ∈ L
  · obtain ⟨i, hi⟩ := List.mem_iff_getElem?.1 hmem
    have hlk := look_yes _ hm hmo hi (by simp)
    rw [tv_sig, ho] at hlk
    have hil := (List.getElem?_eq_some_iff.1 hi).1
    have HNM : Aside _ := name_c i (by omega)
    have HF1 : Aside (H = nameL i → VerP L ⟨5, s.of', 0, ⟨#[]⟩, S⟩ H (.returned (.int .i64 0))) := fun he => .inl ⟨i, hi, he, rfl⟩
    have HF2 : Aside (H ≠ nameL i → VerP L ⟨5, s.of', 0, ⟨#[]⟩, S⟩ H (.returned (.int .i64 21))) := fun he => .inr ⟨fun i' hi' => by rw [hmo.once i' i _ hi' hi (by simp)]; exact he, rfl⟩
    have HL : Aside _ := And.intro HD.out.1 (And.intro HD.out.2 hlk)
    have hnq := fun X => neq28 (nameL i) H (nameL_len i) hH X
    unfold hv at hnq
    clear hmo hm d4 hi hmem hlk HD hil
    go_wp2_with fail
    go_region_held3 (fun w' => w'.cell? ⟨V, 1, none⟩ = some (.map (some M)) ∧ (convert 38 9 (.slice o N cp)).run Try.prog w' = .ok (.string S) w' ∧ (Instr.lookup 43 (.map (some M)) (.agg #[.int .i64 5, .int .i64 oi, .int .i64 0, .string ⟨#[]⟩, .string S]) true).run Try.prog w' = .ok (.tuple #[.int .i64 (i : Int), .bool true]) w') (exact HL.out) (fail)
    clear HL
    go_wp2_with fail
    have HX2 : Aside (∀ X, Below W2.heap.size W2 X → X.rangeAt (w.heap.size + 1) 0 (hl H)) := fun X hX => range_of (heap_bel (show W2.heap[w.heap.size + 1]? = _ from HX.out) hX)
    have hbd : Below W2.heap.size W2 W2.drew.drew := ⟨rfl, rfl, rfl, Nat.le_refl _, fun _ _ => rfl⟩
    refine wp_region_held_drew (S := fun w' => w'.rangeAt (w.heap.size + 1) 0 (hl H)) (by kernel_rfl) (HX2.out _ hbd) (fun hHeld => ?_)
    refine wpAnyH_take (i := 0) (v := .bool true) rfl (by kernel_rfl) (by kernel_rfl) (by kernel_rfl) (fun _ _ _ h => h) (Or.inl ⟨by rfl, by intro w _; go_simp⟩) hHeld ?_
    refine norm_any' (fun K hK => ?_)
    go_simp
    refine hK _ _ ?_
    clear hK K
    refine wpAnyH_take (i := 1) (v := .bool false) rfl (by kernel_rfl) (by kernel_rfl) (by kernel_rfl) (fun _ _ _ h => h) (Or.inl ⟨by rfl, by intro w _; go_simp⟩) hHeld ?_
    refine norm_any' (fun K hK => ?_)
    go_simp
    refine hK _ _ ?_
    clear hK K
    refine wpAnyH_take (i := 2) (v := .bool false) rfl (by kernel_rfl) (by kernel_rfl) (by kernel_rfl) (fun _ _ _ h => h) (Or.inl ⟨by rfl, by intro w _; go_simp⟩) hHeld ?_
    refine norm_any' (fun K hK => ?_)
    go_simp
    refine hK _ _ ?_
    clear hK K
    refine wpAnyH_take (i := 3) (v := .int .i64 (i : Int)) rfl (by kernel_rfl) (by kernel_rfl) (by kernel_rfl) (fun _ _ _ h => h) (Or.inl ⟨by rfl, by intro w _; go_simp⟩) hHeld ?_
    refine norm_any' (fun K hK => ?_)
    go_simp
    refine hK _ _ ?_
    clear hK K
    refine wpAnyH_take (i := 5) (v := .agg (hl H).toArray) rfl (by kernel_rfl) (by kernel_rfl) (by kernel_rfl) (fun _ _ _ h => h) (yieldsIf_load_mid (by rfl) 28 _ rfl (w.heap.size + 1) 0 rfl (hl H) _ (fun _ h => h) hmu rfl hmi) hHeld ?_
    refine norm_any' (fun K hK => ?_)
    go_simp
    refine hK _ _ ?_
    clear hK K
    refine wpAnyH_ready (rs := [4]) (by kernel_rfl) (by simp) (AllReadyH.cons rfl (fun K hK => ?_) AllReadyH.nil)
    go_simp
    refine Calls.mono (HNM.out _) ?_
    rintro e W3 ⟨rfl, hb⟩
    have hb' : Below W2.heap.size W2 W3 := hbd.trans hb
    refine hK.out _ _ (HX2.out _ hb') (fun hHeld => ?_)
    clear hK K
    refine norm_any' (fun K hK => ?_)
    go_simp
    refine hK _ _ ?_
    clear hK K
    have HBE : Aside _ := HB.out.trans (hb'.mono HB.out.size)
    clear HX2 HX HNM hb hb' hbd HB
    by_cases he : H = nameL i
    · have hq : (nameL i == H) = true := by simp [he]
      have HF : Aside (VerP L ⟨5, s.of', 0, ⟨#[]⟩, S⟩ H (.returned (.int .i64 0))) := HF1.out he
      rw [hq] at hnq
      clear HF1 HF2 he hq
      refine wpAnyH_take (i := 6) (v := .bool false) rfl (by kernel_rfl) (by kernel_rfl) (by kernel_rfl) (fun _ _ _ h => h) (Or.inl ⟨by rfl, by intro w _; go_simp⟩) hHeld ?_
      refine norm_any' (fun K hK => ?_)
      go_simp
      refine hK _ _ ?_
      clear hK K
      refine wpAnyH_take (i := 7) (v := .bool false) rfl (by kernel_rfl) (by kernel_rfl) (by kernel_rfl) (fun _ _ _ h => h) (Or.inl ⟨by rfl, by intro w _; go_simp⟩) hHeld ?_
      refine norm_any' (fun K hK => ?_)
      go_simp
      refine hK _ _ ?_
      clear hK K
      refine wpAnyH_done (by kernel_rfl) ?_ _
      go_wp2
      go_ret
      exact ⟨HF.out, HBE.out⟩
    · have hq : (nameL i == H) = false := by simpa using fun e => he e.symm
      have HF : Aside (VerP L ⟨5, s.of', 0, ⟨#[]⟩, S⟩ H (.returned (.int .i64 21))) := HF2.out he
      rw [hq] at hnq
      clear HF1 HF2 he hq
      refine wpAnyH_take (i := 6) (v := .bool true) rfl (by kernel_rfl) (by kernel_rfl) (by kernel_rfl) (fun _ _ _ h => h) (Or.inl ⟨by rfl, by intro w _; go_simp⟩) hHeld ?_
      refine norm_any' (fun K hK => ?_)
      go_simp
      refine hK _ _ ?_
      clear hK K
      refine wpAnyH_take (i := 7) (v := .bool true) rfl (by kernel_rfl) (by kernel_rfl) (by kernel_rfl) (fun _ _ _ h => h) (Or.inl ⟨by rfl, by intro w _; go_simp⟩) hHeld ?_
      refine norm_any' (fun K hK => ?_)
      go_simp
      refine hK _ _ ?_
      clear hK K
      refine wpAnyH_done (by kernel_rfl) ?_ _
      go_wp2
      go_ret
      exact ⟨HF.out, HBE.out⟩
  · have hlk := look_no _ hm hmo (fun _ => hmem) (by simp)
    rw [tv_sig, ho] at hlk
    have HF : Aside (VerP L ⟨5, s.of', 0, ⟨#[]⟩, S⟩ H (.returned (.int .i64 21))) := .inr ⟨fun i hi => absurd (List.mem_of_getElem? hi) hmem, rfl⟩
    have HL : Aside _ := And.intro HD.out.1 (And.intro HD.out.2 hlk)
    clear hmo hm d4 hmem hlk HD
    go_wp2_with fail
    go_region_held3 (fun w' => w'.cell? ⟨V, 1, none⟩ = some (.map (some M)) ∧ (convert 38 9 (.slice o N cp)).run Try.prog w' = .ok (.string S) w' ∧ (Instr.lookup 43 (.map (some M)) (.agg #[.int .i64 5, .int .i64 oi, .int .i64 0, .string ⟨#[]⟩, .string S]) true).run Try.prog w' = .ok (.tuple #[.int .i64 0, .bool false]) w') (exact HL.out) (fail)
    clear HL
    go_wp2_with fail
    refine wp_region_held_drew (S := fun _ => True) (by kernel_rfl) trivial (fun hHeld => ?_)
    refine wpAnyH_take (i := 0) (v := .bool false) rfl (by kernel_rfl) (by kernel_rfl) (by kernel_rfl) (fun _ _ _ h => h) (Or.inl ⟨by rfl, by intro w _; go_simp⟩) hHeld ?_
    refine norm_any' (fun K hK => ?_)
    go_simp
    refine hK _ _ ?_
    clear hK K
    refine wpAnyH_take (i := 1) (v := .bool true) rfl (by kernel_rfl) (by kernel_rfl) (by kernel_rfl) (fun _ _ _ h => h) (Or.inl ⟨by rfl, by intro w _; go_simp⟩) hHeld ?_
    refine norm_any' (fun K hK => ?_)
    go_simp
    refine hK _ _ ?_
    clear hK K
    refine wpAnyH_take (i := 2) (v := .bool true) rfl (by kernel_rfl) (by kernel_rfl) (by kernel_rfl) (fun _ _ _ h => h) (Or.inl ⟨by rfl, by intro w _; go_simp⟩) hHeld ?_
    refine norm_any' (fun K hK => ?_)
    go_simp
    refine hK _ _ ?_
    clear hK K
    refine wpAnyH_take (i := 3) (v := undef) rfl (by kernel_rfl) (by kernel_rfl) (by kernel_rfl) (fun _ _ _ h => h) (Or.inr ⟨by rfl, rfl⟩) hHeld ?_
    refine norm_any' (fun K hK => ?_)
    go_simp
    refine hK _ _ ?_
    clear hK K
    refine wpAnyH_take (i := 4) (v := undef) rfl (by kernel_rfl) (by kernel_rfl) (by kernel_rfl) (fun _ _ _ h => h) (Or.inr ⟨by rfl, rfl⟩) hHeld ?_
    refine norm_any' (fun K hK => ?_)
    go_simp
    refine hK _ _ ?_
    clear hK K
    refine wpAnyH_take (i := 5) (v := undef) rfl (by kernel_rfl) (by kernel_rfl) (by kernel_rfl) (fun _ _ _ h => h) (Or.inr ⟨by rfl, rfl⟩) hHeld ?_
    refine norm_any' (fun K hK => ?_)
    go_simp
    refine hK _ _ ?_
    clear hK K
    refine wpAnyH_take (i := 6) (v := undef) rfl (by kernel_rfl) (by kernel_rfl) (by kernel_rfl) (fun _ _ _ h => h) (Or.inr ⟨by rfl, rfl⟩) hHeld ?_
    refine norm_any' (fun K hK => ?_)
    go_simp
    refine hK _ _ ?_
    clear hK K
    refine wpAnyH_take (i := 7) (v := .bool true) rfl (by kernel_rfl) (by kernel_rfl) (by kernel_rfl) (fun _ _ _ h => h) (Or.inl ⟨by rfl, by intro w _; go_simp⟩) hHeld ?_
    refine norm_any' (fun K hK => ?_)
    go_simp
    refine hK _ _ ?_
    clear hK K
    refine wpAnyH_done (by kernel_rfl) ?_ _
    have HBE : Aside (Below w.heap.size w W2.drew.drew) := ⟨HB.out.os, HB.out.tape, HB.out.output, HB.out.size, HB.out.block⟩
    go_wp2
    go_ret
    exact ⟨HF.out, HBE.out⟩
end
end Go.Proofs.Ythhoknkdmmldbaa
