/- vault: none, number, secretOf, sealer, Root, Fresh, Known. -/
import Derived.Test.YthdenbclfogojaaGreatDoorMd
namespace Go.Proofs.YthdenbclfogojaaGreatDoor
open Go.RowKit Go.Shelf Go.Lib
set_option linter.unusedVariables false

section
variable {n₀ V G c M : Nat} {L : List Tm} {w : World}
theorem some_none (h : Va n₀ w V G c M L) (hle : L.length ≤ 1000000) : Calls Tryz.prog 31 #[.pointer (some ⟨V, 0, none⟩)] w fun e w' => e = .returned (.bool false) ∧ w' = w := by
  have c0 := h.cV0
  have hp : ¬ ((L.length : Int) = 0) := by have := h.pos; omega
  have hp2 : ((L.length : Int) == 0) = false := by simpa using hp
  generalize L.length = N at *
  clear h
  go_enter Tryz.func31, Tryz.ntmps31
  go_wp2
  go_ret
  exact ⟨rfl, rfl⟩
/-- number's answer. -/
def NumP (L : List Tm) (H : List UInt8) (e : Ending) : Prop :=
  (∃ k : Nat, k < L.length ∧ H = nameL k ∧ e = .returned (.tuple #[.int .i64 (k : Int), .int .i64 0])) ∨ ((∀ k, k < L.length → H ≠ nameL k) ∧ e = .returned (.tuple #[.int .i64 0, .int .i64 15]))
set_option maxRecDepth 100000 in
set_option maxHeartbeats 1000000 in
theorem number_c (h : Va n₀ w V G c M L) (hle : L.length ≤ 1000000) (H : List UInt8) (hs : H.length = 16) : Calls Tryz.prog 37 #[.pointer (some ⟨V, 0, none⟩), hv H] w fun e w' => NumP L H e ∧ Below w.heap.size w w' := by
  obtain ⟨b1, b3⟩ := box1 w H
  have h1 := h.bel b3
  have HNO : Aside _ := some_none h1 hle
  have HNB : Aside _ := numbered_c H hs (w.alloc (.cells (hl H).toArray 29))
  have HV : Aside (∀ W, Below (w.alloc (.cells (hl H).toArray 29)).heap.size (w.alloc (.cells (hl H).toArray 29)) W → W.cell? ⟨V, 0, none⟩ = some (.slice (some ⟨G, 0, none⟩) L.length c)) := fun W hW => (h1.bel hW).cV0
  have HB3 : Aside _ := b3
  clear b3 h1 h
  have hpos : 0 ≤ (L.length : Int) := by omega
  have HN1 : Aside (∀ e, numL H = none → e = .returned (.tuple #[.int .i64 0, .int .i64 15]) → NumP L H e) := fun e hn he => .inr ⟨fun k hk => num_none hs hn (by omega), he⟩
  have HN2 : Aside (∀ e (k : Nat), numL H = some k → k < 9223372036854775808 → ¬ (k < L.length) → e = .returned (.tuple #[.int .i64 0, .int .i64 15]) → NumP L H e) := fun e k hn hk hl he => .inr ⟨fun j hj hc => by rw [hc, num_name (by omega)] at hn; injection hn with hn; omega, he⟩
  have HN3 : Aside (∀ e (k : Nat), numL H = some k → k < L.length → e = .returned (.tuple #[.int .i64 (k : Int), .int .i64 0]) → NumP L H e) := fun e k hn hl he => .inl ⟨k, hl, (name_num hs hn).1, he⟩
  generalize L.length = N at *
  go_enter Tryz.func37, Tryz.ntmps37
  go_wp2_with fail
  generalize w.alloc (.cells (hl H).toArray 29) = W1 at *
  refine Calls.mono HNO.out ?_
  rintro e w' ⟨rfl, rfl⟩
  go_wp2_with (refine ld28 rfl (.tmp 3) rfl w.heap.size rfl H b1 hs ?_)
  refine Calls.mono HNB.out ?_
  rintro e W2 ⟨⟨k, b, rfl, ht, hf⟩, hb⟩
  have c0 := HV.out W2 hb
  have HB : Aside _ := HB3.out.trans (hb.mono HB3.out.size)
  clear HNB HNO HV HB3 hb
  cases b with
  | false =>
    have hn := hf rfl
    have HF : Aside (NumP L H (.returned (.tuple #[.int .i64 0, .int .i64 15]))) := HN1.out _ hn rfl
    clear ht hf HN1 HN2 HN3 hn
    go_wp2
    go_ret2
    exact ⟨HF.out, HB.out⟩
  | true =>
    obtain ⟨hn, hk⟩ := ht rfl
    by_cases hl : k < N
    · have HF : Aside (NumP L H (.returned (.tuple #[.int .i64 (k : Int), .int .i64 0]))) := HN3.out _ k hn hl rfl
      have i1 : (k : Int) < (N : Int) := by omega
      have i2 : ¬ ((N : Int) ≤ (k : Int)) := by omega
      have i3 : decide ((N : Int) ≤ (k : Int)) = false := by simpa using i2
      clear ht hf HN1 HN2 HN3 hn hk hl
      go_wp2
      go_ret2
      exact ⟨HF.out, HB.out⟩
    · have HF : Aside (NumP L H (.returned (.tuple #[.int .i64 0, .int .i64 15]))) := HN2.out _ k hn hk hl rfl
      have i2 : (N : Int) ≤ (k : Int) := by omega
      have i3 : decide ((N : Int) ≤ (k : Int)) = true := by simpa using i2
      clear ht hf HN1 HN2 HN3 hn hk hl
      go_wp2
      go_ret2
      exact ⟨HF.out, HB.out⟩
theorem number_yes (h : Va n₀ w V G c M L) (hle : L.length ≤ 1000000) (k : Nat) (hk : k < L.length) : Calls Tryz.prog 37 #[.pointer (some ⟨V, 0, none⟩), hv (nameL k)] w fun e w' => e = .returned (.tuple #[.int .i64 (k : Int), .int .i64 0]) ∧ Below w.heap.size w w' := by
  refine (number_c h hle (nameL k) (nameL_len k)).mono ?_
  rintro e w' ⟨(⟨j, hj, hn, rfl⟩ | ⟨hn, _⟩), hb⟩
  · rw [name_inj (by omega) (by omega) hn]; exact ⟨rfl, hb⟩
  · exact absurd rfl (hn k hk)
theorem number_no (h : Va n₀ w V G c M L) (hle : L.length ≤ 1000000) (H : List UInt8) (hs : H.length = 16) (hn : ∀ k, k < L.length → H ≠ nameL k) : Calls Tryz.prog 37 #[.pointer (some ⟨V, 0, none⟩), hv H] w fun e w' => e = .returned (.tuple #[.int .i64 0, .int .i64 15]) ∧ Below w.heap.size w w' := by
  refine (number_c h hle H hs).mono ?_
  rintro e w' ⟨(⟨j, hj, hn', rfl⟩ | ⟨_, rfl⟩), hb⟩
  · exact absurd hn' (hn j hj)
  · exact ⟨rfl, hb⟩

/-- secretOf's answer. -/
def SecP (L : List Tm) (H : List UInt8) (e : Ending) : Prop :=
  (∃ (k : Nat) (t : Tm), H = nameL k ∧ L[k]? = some t ∧ t.kd = 3 ∧ e = .returned (.tuple #[.int .i64 (t.of' : Int), .int .i64 0])) ∨ ((∀ (k : Nat) (t : Tm), L[k]? = some t → t.kd = 3 → H ≠ nameL k) ∧ e = .returned (.tuple #[.int .i64 0, .int .i64 15]))
set_option maxRecDepth 100000 in
set_option maxHeartbeats 1000000 in
theorem root_c (h : Va n₀ w V G c M L) (hle : L.length ≤ 1000000) : Calls Tryz.prog 13 #[.pointer (some ⟨V, 0, none⟩)] w fun e w' => e = .returned (hv (nameL 0)) ∧ Below w.heap.size w w' := by
  obtain ⟨b1, b3⟩ := box1 w z16
  have HNO : Aside _ := some_none (h.bel b3) hle
  have HN : Aside (∀ X : World, Calls Tryz.prog 32 #[.int .i64 0] X fun e w' => e = .returned (hv (nameL 0)) ∧ Below X.heap.size X w') := fun X => name_c 0 (by decide) X
  have HB3 : Aside _ := b3
  clear b3 h
  go_enter Tryz.func13, Tryz.ntmps13
  go_wp2_with fail
  rw [hz28]
  generalize w.alloc (.cells (hl z16).toArray 29) = W at *
  refine Calls.mono HNO.out ?_
  rintro e w' ⟨rfl, hw⟩
  subst w'
  go_wp2_with fail
  refine Calls.mono (HN.out _) ?_
  rintro e W2 ⟨rfl, hb⟩
  have h2 := heap_bel b1 hb
  have HB : Aside _ := bel_set (HB3.out.trans (hb.mono HB3.out.size)) (Nat.le_refl _) (hl (nameL 0)).toArray
  have HR : Aside _ := setRow_heap W2 w.heap.size _ (hl (nameL 0)).toArray 29 (0, 0) h2
  clear HB3 hb HN HNO
  go_wp2_with (refine st28 rfl (.tmp 2) (.tmp 6) rfl w.heap.size (nameL 0) rfl rfl z16 h2 (nameL_len 0) rfl ?_)
  refine bodyPost_ret (v := hv (nameL 0)) (res_1 (fn := Tryz.f13) (p := 2) rfl _ _ w.heap.size (nameL 0) rfl HR.out (nameL_len 0)) rfl ?_
  exact ⟨rfl, HB.out⟩
/-- A fresh term. -/
abbrev fr : Tm := ⟨1, 0, 0, ⟨#[]⟩, ⟨#[]⟩⟩
theorem tv_fr : tv fr = .agg #[.int .i64 1, .int .i64 0, .int .i64 0, .string ⟨#[]⟩, .string ⟨#[]⟩] := rfl
theorem Va.setBox {w : World} (h : Va n₀ w V G c M L) {B : Nat} {cs : Array Value} (hB : w.heap[B]? = some (.cells cs 29 (0, 0))) (ds : Array Value) : Va n₀ (w.setRow B ds) V G c M L := by
  have ne : ∀ k o, w.heap[k]? = some o → (∀ cs, o ≠ .cells cs 29 (0, 0)) → k ≠ B := by
    rintro k o hk hne rfl
    exact hne _ (by have := hk.symm.trans hB; simpa using this)
  refine h.keep (setRow_other _ _ _ _ (ne V _ h.hV (by simp))) (setRow_other _ _ _ _ ?_) (setRow_other _ _ _ _ ?_)
  · obtain ⟨R, r1, _⟩ := h.hG
    exact ne G _ r1 (by simp)
  · obtain ⟨es, ck, m1, _⟩ := h.hM
    exact ne M _ m1 (by simp)
set_option maxRecDepth 100000 in
set_option maxHeartbeats 1000000 in
theorem fresh_c (h : Va n₀ w V G c M L) (hle : L.length ≤ 1000000) : Calls Tryz.prog 16 #[.pointer (some ⟨V, 0, none⟩)] w fun e w' => e = .returned (hv (nameL L.length)) ∧ ∃ G' c', Va n₀ w' V G' c' M (L ++ [fr]) ∧ Vc V G M w w' ∧ (G' = G ∨ w.heap.size ≤ G') := by
  obtain ⟨b1, b3⟩ := box1 w z16
  have h1 := h.bel b3
  have HNO : Aside _ := some_none h1 hle
  have HN : Aside _ := name_c L.length (by omega)
  have had := add_c n₀ V G c M L fr _ h1 hle
  rw [tv_fr] at had
  have HAD : Aside _ := had
  clear had
  have HFR : Aside (∀ W' G' c', Ad n₀ (w.alloc (.cells (hl z16).toArray 29)) W' V G G' c' M L fr → Va n₀ W' V G' c' M (L ++ [fr]) ∧ Vc V G M w W' ∧ (G' = G ∨ w.heap.size ≤ G') ∧ W'.heap[w.heap.size]? = some (.cells (hl z16).toArray 29 (0, 0))) := by
    intro W' G' c' hA
    obtain ⟨f1, f2⟩ := hA.fresh h1 ⟨by decide, by decide, fun h => absurd h (by decide), fun h => absurd h (by decide)⟩ (by decide)
    have lV := h.lV
    have lG := h.lG
    refine ⟨f1, Vc.trans (Vc.of_bel b3) f2, ?_, ?_⟩
    · rcases hA.at' with e | e
      · exact .inl e
      · exact .inr (by have := b3.size; omega)
    · exact (hA.chg.2.2.2.2 _ (by simp) (by omega)).trans b1
  have lV := h.lV
  clear h1 h b3
  generalize hN : L.length = N at *
  go_enter Tryz.func16, Tryz.ntmps16
  go_wp2_with fail
  rw [hz28]
  generalize w.alloc (.cells (hl z16).toArray 29) = W1 at *
  refine Calls.mono HNO.out ?_
  rintro e w' ⟨rfl, hw⟩
  subst w'
  go_wp2_with fail
  refine Calls.mono HAD.out ?_
  rintro e W2 ⟨rfl, G', c', hA⟩
  obtain ⟨f1, f2, f3, f4⟩ := HFR.out W2 G' c' hA
  have HF1 : Aside _ := f1
  have HF2 : Aside _ := f2
  have HF3 : Aside _ := f3
  clear f1 f2 f3 hA HFR HAD HNO
  go_wp2_with fail
  refine Calls.mono (HN.out _) ?_
  rintro e W3 ⟨rfl, hb⟩
  have h3 := heap_bel f4 hb
  have HE : Aside (∃ G' c', Va n₀ (W3.setRow w.heap.size (hl (nameL N)).toArray) V G' c' M (L ++ [fr]) ∧ Vc V G M w (W3.setRow w.heap.size (hl (nameL N)).toArray) ∧ (G' = G ∨ w.heap.size ≤ G')) := by
    refine ⟨G', c', (HF1.out.bel hb).setBox h3 _, ?_, HF3.out⟩
    have f2 : Vc V G M w W2 := HF2.out
    have hs := f2.2.2.2.1
    exact ⟨hb.os.trans f2.1, hb.tape.trans f2.2.1, hb.output.trans f2.2.2.1, by have := hb.size; simp; omega, fun k hk hx => (setRow_other _ _ _ _ (by omega)).trans ((hb.block k (by omega)).trans (f2.2.2.2.2 k hk hx))⟩
  have HR : Aside _ := setRow_heap W3 w.heap.size _ (hl (nameL N)).toArray 29 (0, 0) h3
  clear HF1 HF2 HF3 f4 hb HN
  go_wp2_with (refine st28 rfl (.tmp 2) (.tmp 9) rfl w.heap.size (nameL N) rfl rfl z16 h3 (nameL_len N) rfl ?_)
  refine bodyPost_ret (v := hv (nameL N)) (res_1 (fn := Tryz.f16) (p := 2) rfl _ _ w.heap.size (nameL N) rfl HR.out (nameL_len N)) rfl ?_
  exact ⟨rfl, HE.out⟩
end
end Go.Proofs.YthdenbclfogojaaGreatDoor
