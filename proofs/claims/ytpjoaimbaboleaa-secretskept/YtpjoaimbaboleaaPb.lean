/- vault: Public, Agree. -/
import Derived.Test.YtpjoaimbaboleaaPk
namespace Go.Proofs.Ytpjoaimbaboleaa
open Go.RowKit Go.Shelf Go.Lib
set_option linter.unusedVariables false

section
variable {n₀ V G c M : Nat} {L : List Tm} {w : World}
set_option maxRecDepth 100000 in
set_option maxHeartbeats 1000000 in
theorem secretOf_c (h : Va n₀ w V G c M L) (hle : L.length ≤ 1000000) (H : List UInt8) (hs : H.length = 16) : Calls Try.prog 46 #[.pointer (some ⟨V, 0, none⟩), hv H] w fun e w' => SecP L H e ∧ Below w.heap.size w w' := by
  obtain ⟨b1, b3⟩ := box1 w H
  have h1 := h.bel b3
  have HNB : Aside _ := number_c h1 hle H hs
  have HV : Aside (∀ W, Below (w.alloc (.cells (hl H).toArray 29)).heap.size (w.alloc (.cells (hl H).toArray 29)) W → Va n₀ W V G c M L) := fun W hW => h1.bel hW
  have HB3 : Aside _ := b3
  clear b3 h1 h
  go_enter Try.func46, Try.ntmps46
  go_wp2_with (refine ld28 rfl (.tmp 3) rfl w.heap.size rfl H b1 hs ?_)
  generalize w.alloc (.cells (hl H).toArray 29) = W1 at *
  refine Calls.mono HNB.out ?_
  rintro e W2 ⟨hP, hb⟩
  have hv2 := HV.out W2 hb
  have HB : Aside _ := HB3.out.trans (hb.mono HB3.out.size)
  clear HNB HV HB3 hb
  rcases hP with ⟨k, hk, hn, rfl⟩ | ⟨hn, rfl⟩
  · obtain ⟨t, ht⟩ : ∃ t, L[k]? = some t := ⟨L[k], by simp [hk]⟩
    have c0 := hv2.cV0
    have t0 : W2.cell? ⟨G, k * 5, none⟩ = some (.int .i64 (t.kd : Int)) := hv2.cT (j := 0) ht (by decide)
    have t1 : W2.cell? ⟨G, k * 5 + 1, none⟩ = some (.int .i64 (t.of' : Int)) := hv2.cT (j := 1) ht (by decide)
    have i1 : (k : Int) < (L.length : Int) := by omega
    have i0 : (0 : Int) ≤ (k : Int) := by omega
    have HF1 : Aside (t.kd = 3 → SecP L H (.returned (.tuple #[.int .i64 (t.of' : Int), .int .i64 0]))) := fun h3 => .inl ⟨k, t, hn, ht, h3, rfl⟩
    have HF2 : Aside (t.kd ≠ 3 → SecP L H (.returned (.tuple #[.int .i64 0, .int .i64 15]))) := fun h3 => .inr ⟨fun j s hj hs3 he => by
      have : j = k := name_inj (by have := (List.getElem?_eq_some_iff.1 hj).1; omega) (by omega) (he.symm.trans hn)
      subst this
      rw [ht] at hj
      injection hj with hj
      subst hj
      exact h3 hs3, rfl⟩
    clear hv2 ht hn
    generalize L.length = N at *
    by_cases h3 : t.kd = 3
    · have HF : Aside (SecP L H (.returned (.tuple #[.int .i64 (t.of' : Int), .int .i64 0]))) := HF1.out h3
      clear HF1 HF2
      rw [h3] at t0
      generalize (t.of' : Int) = oi at *
      go_wp2
      go_ret2
      exact ⟨HF.out, HB.out⟩
    · have HF : Aside (SecP L H (.returned (.tuple #[.int .i64 0, .int .i64 15]))) := HF2.out h3
      have h4 : ¬ ((t.kd : Int) = 3) := by omega
      have h5 : ((t.kd : Int) == 3) = false := by simpa using h4
      clear HF1 HF2 h3
      generalize (t.kd : Int) = ki at *
      go_wp2
      go_ret2
      exact ⟨HF.out, HB.out⟩
  · have HF : Aside (SecP L H (.returned (.tuple #[.int .i64 0, .int .i64 15]))) := .inr ⟨fun j s hj _ => hn j (List.getElem?_eq_some_iff.1 hj).1, rfl⟩
    clear hv2 hn
    go_wp2
    go_ret2
    exact ⟨HF.out, HB.out⟩
theorem secretOf_yes (h : Va n₀ w V G c M L) (hle : L.length ≤ 1000000) (k : Nat) (t : Tm) (hk : L[k]? = some t) (h3 : t.kd = 3) : Calls Try.prog 46 #[.pointer (some ⟨V, 0, none⟩), hv (nameL k)] w fun e w' => e = .returned (.tuple #[.int .i64 (t.of' : Int), .int .i64 0]) ∧ Below w.heap.size w w' := by
  have hkl := (List.getElem?_eq_some_iff.1 hk).1
  refine (secretOf_c h hle (nameL k) (nameL_len k)).mono ?_
  rintro e w' ⟨(⟨j, s, hn, hj, _, rfl⟩ | ⟨hn, _⟩), hb⟩
  · have hjl := (List.getElem?_eq_some_iff.1 hj).1
    obtain rfl := name_inj (by omega) (by omega) hn
    rw [hk] at hj
    injection hj with hj
    subst hj
    exact ⟨rfl, hb⟩
  · exact absurd rfl (hn k t hk h3)
set_option maxRecDepth 100000 in
set_option maxHeartbeats 1000000 in
theorem public_yes (h : Va n₀ w V G c M L) (hle : L.length ≤ 1000000) (k : Nat) (hk : k < L.length) : Calls Try.prog 24 #[.pointer (some ⟨V, 0, none⟩), hv (nameL k)] w fun e w' => ∃ i, e = .returned (.tuple #[hv (nameL i), .int .i64 0]) ∧ i ≤ L.length ∧ Made n₀ w w' V G M L ⟨3, k, 0, ⟨#[]⟩, ⟨#[]⟩⟩ i := by
  obtain ⟨b1, b2, b3, b4⟩ := box2 w (nameL k)
  have h1 := h.bel b3
  have HNB : Aside _ := number_yes h1 hle k hk
  have HMD : Aside (∀ W, Below ((w.alloc (.cells (hl (nameL k)).toArray 29)).alloc (.cells (hl z16).toArray 29)).heap.size ((w.alloc (.cells (hl (nameL k)).toArray 29)).alloc (.cells (hl z16).toArray 29)) W → Calls Try.prog 45 #[.pointer (some ⟨V, 0, none⟩), tv ⟨3, k, 0, ⟨#[]⟩, ⟨#[]⟩⟩] W fun e w' => ∃ i, e = .returned (hv (nameL i)) ∧ i ≤ L.length ∧ Made n₀ W w' V G M L ⟨3, k, 0, ⟨#[]⟩, ⟨#[]⟩⟩ i) := fun W hW => made_c n₀ V G c M L ⟨3, k, 0, ⟨#[]⟩, ⟨#[]⟩⟩ W (h1.bel hW) hle (by simp) ⟨by simp, by simp, fun _ => hk, fun h => absurd h (by simp)⟩
  rw [tv_pub] at HMD
  have lV := h.lV
  have lG := h.lG
  have lM := h.lM
  have hs := nameL_len k
  have HFN : Aside (∀ W W2 i, Below ((w.alloc (.cells (hl (nameL k)).toArray 29)).alloc (.cells (hl z16).toArray 29)).heap.size ((w.alloc (.cells (hl (nameL k)).toArray 29)).alloc (.cells (hl z16).toArray 29)) W → Made n₀ W W2 V G M L ⟨3, k, 0, ⟨#[]⟩, ⟨#[]⟩⟩ i → W2.heap[w.heap.size + 1]? = some (.cells (hl z16).toArray 29 (0, 0)) ∧ Made n₀ w (W2.setRow (w.heap.size + 1) (hl (nameL i)).toArray) V G M L ⟨3, k, 0, ⟨#[]⟩, ⟨#[]⟩⟩ i) := by
    intro W W2 i hW hm
    have hz := hm.box (w := w) (heap_bel b2 hW) (by omega) (by omega) (by omega)
    exact ⟨hz, hm.fin (b3.trans (hW.mono b3.size)) lV lG lM hz (by omega) _⟩
  clear h1 h b2 b3 b4
  generalize L.length = N at *
  generalize hPm : (fun W W2 i => Made n₀ W W2 V G M L ⟨3, k, 0, ⟨#[]⟩, ⟨#[]⟩⟩ i) = Pm at *
  have ePm : ∀ W W2 i, Made n₀ W W2 V G M L ⟨3, k, 0, ⟨#[]⟩, ⟨#[]⟩⟩ i = Pm W W2 i := fun W W2 i => by rw [← hPm]
  simp only [ePm] at HMD HFN ⊢
  clear hPm ePm
  go_enter Try.func24, Try.ntmps24
  go_wp2_with (refine ld28 rfl (.tmp 3) rfl w.heap.size rfl (nameL k) b1 hs ?_)
  rw [hz28]
  generalize (w.alloc (.cells (hl (nameL k)).toArray 29)).alloc (.cells (hl z16).toArray 29) = W1 at *
  refine Calls.mono HNB.out ?_
  rintro e W2 ⟨rfl, hb⟩
  have HB : Aside _ := hb
  have HM : Aside _ := HMD.out W2 hb
  clear HNB HMD hb
  go_wp2_with fail
  refine Calls.mono HM.out ?_
  rintro e W3 ⟨i, rfl, hi, hm⟩
  obtain ⟨hz, hm2⟩ := HFN.out W2 W3 i HB.out hm
  have HM2 : Aside _ := hm2
  have HR : Aside _ := setRow_heap W3 (w.heap.size + 1) _ (hl (nameL i)).toArray 29 (0, 0) hz
  have HI : Aside _ := hi
  clear hm hm2 hi HFN HM
  go_wp2_with (refine st28 rfl (.tmp 4) (.tmp 21) rfl (w.heap.size + 1) (nameL i) rfl rfl z16 hz (nameL_len i) rfl ?_)
  refine bodyPost_ret (v := .tuple #[hv (nameL i), .int .i64 0]) (res_h (fn := Try.f24) (p := 4) (u := 5) rfl _ _ (w.heap.size + 1) (nameL i) rfl HR.out (nameL_len i)) rfl ?_
  exact ⟨i, rfl, HI.out, HM2.out⟩
set_option maxRecDepth 100000 in
set_option maxHeartbeats 1000000 in
theorem agree_yes (h : Va n₀ w V G c M L) (hle : L.length ≤ 1000000) (k j : Nat) (hk : k < L.length) (s : Tm) (hj : L[j]? = some s) (h3 : s.kd = 3) (a b : Nat) (hab : (a = k ∧ b = s.of' ∧ k ≤ s.of') ∨ (a = s.of' ∧ b = k ∧ s.of' < k)) :
    Calls Try.prog 25 #[.pointer (some ⟨V, 0, none⟩), hv (nameL k), hv (nameL j)] w fun e w' => ∃ i, e = .returned (.tuple #[hv (nameL i), .int .i64 0]) ∧ i ≤ L.length ∧ Made n₀ w w' V G M L ⟨4, a, (b : Int), ⟨#[]⟩, ⟨#[]⟩⟩ i := by
  obtain ⟨b1, b1', b2, b3, b4⟩ := box3 w (nameL k) (nameL j)
  have h1 := h.bel b3
  have hj0 : 0 < j := by
    rcases Nat.eq_zero_or_pos j with e | e
    · subst e
      obtain ⟨r, hr⟩ := h.root
      rw [hr] at hj
      simp at hj
      subst hj
      simp at h3
    · exact e
  have hjl := (List.getElem?_eq_some_iff.1 hj).1
  have hso : s.of' < L.length := by have := (h.good j s hj hj0).2.2.1 (by omega); omega
  have hfit : Fit ⟨4, a, (b : Int), ⟨#[]⟩, ⟨#[]⟩⟩ L.length := ⟨by simp, by simp, fun _ => (by show a < _; omega), fun _ => (by show (0 : Int) ≤ (b : Int) ∧ (b : Int) < _; omega)⟩
  have HNB : Aside _ := number_yes h1 hle k hk
  have HSO : Aside (∀ W, Below (((w.alloc (.cells (hl (nameL k)).toArray 29)).alloc (.cells (hl (nameL j)).toArray 29)).alloc (.cells (hl z16).toArray 29)).heap.size (((w.alloc (.cells (hl (nameL k)).toArray 29)).alloc (.cells (hl (nameL j)).toArray 29)).alloc (.cells (hl z16).toArray 29)) W → W.heap[w.heap.size + 1]? = some (.cells (hl (nameL j)).toArray 29 (0, 0)) ∧ Calls Try.prog 46 #[.pointer (some ⟨V, 0, none⟩), hv (nameL j)] W fun e w' => e = .returned (.tuple #[.int .i64 (s.of' : Int), .int .i64 0]) ∧ Below W.heap.size W w') := fun W hW => ⟨heap_bel b1' hW, secretOf_yes (h1.bel hW) hle j s hj h3⟩
  have HMD : Aside (∀ W, Below (((w.alloc (.cells (hl (nameL k)).toArray 29)).alloc (.cells (hl (nameL j)).toArray 29)).alloc (.cells (hl z16).toArray 29)).heap.size (((w.alloc (.cells (hl (nameL k)).toArray 29)).alloc (.cells (hl (nameL j)).toArray 29)).alloc (.cells (hl z16).toArray 29)) W → Calls Try.prog 45 #[.pointer (some ⟨V, 0, none⟩), tv ⟨4, a, (b : Int), ⟨#[]⟩, ⟨#[]⟩⟩] W fun e w' => ∃ i, e = .returned (hv (nameL i)) ∧ i ≤ L.length ∧ Made n₀ W w' V G M L ⟨4, a, (b : Int), ⟨#[]⟩, ⟨#[]⟩⟩ i) := fun W hW => made_c n₀ V G c M L _ W (h1.bel hW) hle (by simp) hfit
  rw [tv_agr] at HMD
  have lV := h.lV
  have lG := h.lG
  have lM := h.lM
  have hs := nameL_len k
  have HFN : Aside (∀ W W2 i, Below (((w.alloc (.cells (hl (nameL k)).toArray 29)).alloc (.cells (hl (nameL j)).toArray 29)).alloc (.cells (hl z16).toArray 29)).heap.size (((w.alloc (.cells (hl (nameL k)).toArray 29)).alloc (.cells (hl (nameL j)).toArray 29)).alloc (.cells (hl z16).toArray 29)) W → Made n₀ W W2 V G M L ⟨4, a, (b : Int), ⟨#[]⟩, ⟨#[]⟩⟩ i → W2.heap[w.heap.size + 1 + 1]? = some (.cells (hl z16).toArray 29 (0, 0)) ∧ Made n₀ w (W2.setRow (w.heap.size + 1 + 1) (hl (nameL i)).toArray) V G M L ⟨4, a, (b : Int), ⟨#[]⟩, ⟨#[]⟩⟩ i) := by
    intro W W2 i hW hm
    have hz := hm.box (w := w) (heap_bel b2 hW) (by omega) (by omega) (by omega)
    exact ⟨hz, hm.fin (b3.trans (hW.mono b3.size)) lV lG lM hz (by omega) _⟩
  clear h1 h b1' b2 b3 b4 hj h3 hj0 hjl
  have mm : min (k : Int) (s.of' : Int) = (a : Int) ∧ max (k : Int) (s.of' : Int) = (b : Int) := by
    rcases hab with ⟨rfl, rfl, h⟩ | ⟨rfl, rfl, h⟩
    · exact ⟨by omega, by omega⟩
    · exact ⟨by omega, by omega⟩
  obtain ⟨m1, m2⟩ := mm
  have cs : ((k : Int) ≤ (s.of' : Int) ∧ (a : Int) = (k : Int) ∧ (b : Int) = (s.of' : Int)) ∨ (¬ ((k : Int) ≤ (s.of' : Int)) ∧ (s.of' : Int) < (k : Int) ∧ (a : Int) = (s.of' : Int) ∧ (b : Int) = (k : Int)) := by omega
  clear hab hfit hk hso
  generalize L.length = N at *
  generalize hPm : (fun W W2 i => Made n₀ W W2 V G M L ⟨4, a, (b : Int), ⟨#[]⟩, ⟨#[]⟩⟩ i) = Pm at *
  have ePm : ∀ W W2 i, Made n₀ W W2 V G M L ⟨4, a, (b : Int), ⟨#[]⟩, ⟨#[]⟩⟩ i = Pm W W2 i := fun W W2 i => by rw [← hPm]
  simp only [ePm] at HMD HFN ⊢
  clear hPm ePm
  generalize (s.of' : Int) = oi at *
  go_enter Try.func25, Try.ntmps25
  go_wp2_with (refine ld28 rfl (.tmp 4) rfl w.heap.size rfl (nameL k) b1 hs ?_)
  rw [hz28]
  generalize ((w.alloc (.cells (hl (nameL k)).toArray 29)).alloc (.cells (hl (nameL j)).toArray 29)).alloc (.cells (hl z16).toArray 29) = W1 at *
  refine Calls.mono HNB.out ?_
  rintro e W2 ⟨rfl, hb⟩
  have HB : Aside _ := hb
  obtain ⟨hbx, hso⟩ := HSO.out W2 hb
  have HS2 : Aside _ := hso
  clear HNB hb HSO hso
  go_wp2_with (refine ld28 rfl (.tmp 5) rfl (w.heap.size + 1) rfl (nameL j) hbx (nameL_len j) ?_)
  refine Calls.mono HS2.out ?_
  rintro e W3 ⟨rfl, hb⟩
  have HB2 : Aside _ := HB.out.trans (hb.mono HB.out.size)
  have HM : Aside _ := HMD.out W3 HB2.out
  clear HS2 HMD hb HB hbx
  generalize (k : Int) = ki at *
  generalize (a : Int) = ai at *
  generalize (b : Int) = bi at *
  rcases cs with ⟨c1, rfl, rfl⟩ | ⟨c1, c2, rfl, rfl⟩
  all_goals
    go_wp2_with fail
    refine Calls.mono HM.out ?_
    rintro e W4 ⟨i, rfl, hi, hm⟩
    obtain ⟨hz, hm2⟩ := HFN.out W3 W4 i HB2.out hm
    have HM2 : Aside _ := hm2
    have HR : Aside _ := setRow_heap W4 (w.heap.size + 1 + 1) _ (hl (nameL i)).toArray 29 (0, 0) hz
    have HI : Aside _ := hi
    clear hm hm2 hi HFN HM
    go_wp2_with (refine st28 rfl (.tmp 6) (.tmp 39) rfl (w.heap.size + 1 + 1) (nameL i) rfl rfl z16 hz (nameL_len i) rfl ?_)
    refine bodyPost_ret (v := .tuple #[hv (nameL i), .int .i64 0]) (res_h (fn := Try.f25) (p := 6) (u := 7) rfl _ _ (w.heap.size + 1 + 1) (nameL i) rfl HR.out (nameL_len i)) rfl ?_
    exact ⟨i, rfl, HI.out, HM2.out⟩
end
section
variable {W0 w w' : World} {V : Nat} {L : List Tm}
/-- Public of a term that is new. -/
theorem Ag.pub (h : Ag W0 w V L) (hle : L.length ≤ 1000) (k : Nat) (hk : k < L.length) (hn : (⟨3, k, 0, ⟨#[]⟩, ⟨#[]⟩⟩ : Tm) ∉ L) :
    Calls Try.prog 24 #[.pointer (some ⟨V, 0, none⟩), hv (nameL k)] w fun e w' => e = .returned (.tuple #[hv (nameL L.length), .int .i64 0]) ∧ Ag W0 w' V (L ++ [⟨3, k, 0, ⟨#[]⟩, ⟨#[]⟩⟩]) ∧ Kc w w' := by
  obtain ⟨G, c, M, hv⟩ := h.va
  refine (public_yes hv (by omega) k hk).mono ?_
  rintro e w' ⟨i, rfl, _, hm⟩
  have hm' := hm
  obtain ⟨rfl, h1, _⟩ := h.made_new hn hv hm
  obtain ⟨G', c', L', a1, a2, _⟩ := hm'
  exact ⟨rfl, h1, Kc.of_vc a2 hv⟩
end
end Go.Proofs.Ytpjoaimbaboleaa
