/- The reference's vault: Fresh, Derive. -/
import Derived.Test.YtpjoaimbaboleaaRmW
namespace Go.Proofs.Ytpjoaimbaboleaa
open Go.RowKit Go.Shelf Go.Lib
set_option linter.unusedVariables false

/-- Terms that the laws of keys make: no number is wanted, no label but of what is derived. -/
def Cn (t : Tm) : Prop := t.wi = 0 ∧ t.kd ≤ 2 ∧ (t.kd = 2 ∨ t.un = ⟨#[]⟩)
theorem rc_inj {s t : Tm} (hs : Cn s) (ht : Cn t) (h : rc s = rc t) : s = t := by
  obtain ⟨s1, s2, s3, s4, s5⟩ := s
  obtain ⟨t1, t2, t3, t4, t5⟩ := t
  obtain ⟨a1, a2, a3⟩ := hs
  obtain ⟨b1, b2, b3⟩ := ht
  simp only at a1 a2 a3 b1 b2 b3
  simp only [rc, List.cons.injEq, Value.int.injEq, Value.string.injEq, true_and, and_true] at h
  obtain ⟨h1, h2, h3, h4, h5, h6, h7⟩ := h
  have e1 : s1 = t1 := by omega
  have e2 : s2 = t2 := by omega
  subst e1
  subst e2
  subst a1
  subst b1
  subst h7
  have e4 : s4 = t4 := by
    by_cases h : s1 = 2
    · rw [if_pos h, if_pos h] at h4; exact h4
    · rcases a3 with a3 | a3
      · exact absurd a3 h
      · rcases b3 with b3 | b3
        · exact absurd b3 h
        · rw [a3, b3]
  subst e4
  rfl
/-- A block that is none of the reference's. -/
theorem Rv.alloc28 {n₀ R g c : Nat} {w w' : World} {L : List Tm} (h : Rv n₀ w R g c L) {B : Nat} {cs : Array Value} (hB : w.heap[B]? = some (.cells cs 28 (0, 0))) (ds : Array Value) : Rv n₀ (w.setRow B ds) R g c L := h.keep fun b cs' t hb ht => (setRow_other _ _ _ _ (by
  rintro rfl
  rw [hB] at hb
  injection hb with hb
  injection hb with _ hb _
  subst hb
  rcases ht with h | h <;> cases h)).trans hb
theorem bz80 : ∀ X, (Instr.build 64 #[(0, .int .i64 1)]).run Try.prog X = .ok (.agg (rc fr).toArray) X := fun X => run_build X 64 _ _ (by kernel_rfl)
set_option maxRecDepth 100000 in
theorem rfresh_c {n₀ R g c : Nat} {w : World} {L : List Tm} (h : Rv n₀ w R g c L) (hle : L.length ≤ 100000) (hn₀ : n₀ ≤ w.heap.size) : Calls Try.prog 12 #[.pointer (some ⟨R, 0, none⟩)] w fun e w' => e = .returned (hv (nameL L.length)) ∧ (∃ g c, Rv n₀ w' R g c (L ++ [fr])) ∧ Kx w w' ∧ Below n₀ w w' := by
  have HM : Aside _ := rmake_c (h.bel (bel1 w (.cells (hl z16).toArray 28))) hle (by simp; omega) fr
  have HX2 : Aside _ := heap_alloc_new w (.cells (hl z16).toArray 28)
  have HBW : Aside _ := bel1 w (.cells (hl z16).toArray 28)
  have hnl := nameL_len L.length
  have e7 : rc fr = [.int .i64 1, .int .i64 0, .int .i64 0, .string ⟨#[]⟩, .int .i64 0, .string ⟨#[]⟩, .string ⟨#[]⟩] := by kernel_rfl
  clear h
  go_enter Try.func12, Try.ntmps12
  go_wp2_with fail
  rw [hz28r]
  refine Calls.mono (by have := HM.out; rw [e7] at this; exact this) ?_
  rintro e W2 ⟨hP, hK, hB⟩
  have hP' : e = .returned (hv (nameL L.length)) ∧ ∃ g c, Rv n₀ W2 R g c (L ++ [fr]) := by
    rcases hP with ⟨i, s, _, _, _, h1, _⟩ | ⟨_, h1, h2⟩
    · exact absurd rfl h1
    · exact ⟨h1, h2⟩
  obtain ⟨rfl, g', c', hR⟩ := hP'
  have HY2 : Aside (W2.heap[w.heap.size]? = some (.cells (hl z16).toArray 28 (0, 0))) := hK _ _ HX2.out (fun cs e => by injection e with _ e _; cases e) (fun cs e => by injection e with _ e _; cases e)
  have HRF : Aside (Rv n₀ (W2.setRow w.heap.size (hl (nameL L.length)).toArray) R g' c' (L ++ [fr])) := hR.alloc28 (w' := W2) HY2.out _
  have HRS : Aside _ := setRow_heap W2 w.heap.size _ (hl (nameL L.length)).toArray 28 (0, 0) HY2.out
  have HKF : Aside (Kx w (W2.setRow w.heap.size (hl (nameL L.length)).toArray)) := fun b ob hb h1 h2 => (setRow_other _ _ _ _ (by have := (Array.getElem?_eq_some_iff.1 hb).1; omega)).trans (hK b ob (heap_bel hb HBW.out) h1 h2)
  have HBF : Aside (Below n₀ w (W2.setRow w.heap.size (hl (nameL L.length)).toArray)) := bel_set ((HBW.out.mono hn₀).trans hB) hn₀ _
  clear hP hK hB hR HM
  generalize hHn : nameL L.length = Hn at *
  have HHN : Aside _ := hHn
  clear hHn
  go_wp2_with (refine str rfl (.tmp 2) (.tmp 5) rfl w.heap.size Hn rfl rfl z16 HY2.out hnl rfl ?_)
  refine bodyPost_ret (v := hv Hn) (res_r (fn := Try.f12) (p := 2) rfl _ _ w.heap.size Hn rfl HRS.out hnl) rfl ?_
  exact ⟨by rw [HHN.out], ⟨g', c', HRF.out⟩, HKF.out, HBF.out⟩
theorem res_r2 {fn : Func} {p u : Tmp} (h : fn.results = #[.cell p 28, .tmp u]) (tmps : Array Value) (w : World) (g : Nat) (H : List UInt8) (hp : tmps.getD p undef = .pointer (some ⟨g, 0, none⟩))
    (hg : w.heap[g]? = some (.cells (hl H).toArray 28 (0, 0))) (hs : H.length = 16) : (results fn tmps).run Try.prog w = .ok (.tuple #[hv H, tmps.getD u undef]) w := by
  rw [results_cell_tmp h, hp]
  simp only [asAddr, Sem.run_pure, Result.andThen_ok, run_loadVar_row w g 28 28 _ (0, 0) _ hg hu28r rfl (hi28r.trans (by simp [hs]))]
/-- What make leaves. -/
def MkR (n₀ R : Nat) (L : List Tm) (t : Tm) (i : Nat) (w' : World) : Prop :=
  (∃ s : Tm, L[i]? = some s ∧ rc s = rc t ∧ (∀ (j : Nat) (u : Tm), j < i → L[j]? = some u → rc u ≠ rc t) ∧ ∃ g c, Rv n₀ w' R g c L) ∨ ((∀ u ∈ L, rc u ≠ rc t) ∧ i = L.length ∧ ∃ g c, Rv n₀ w' R g c (L ++ [t]))
theorem MkR.set {n₀ R i : Nat} {L : List Tm} {t : Tm} {w : World} (h : MkR n₀ R L t i w) {B : Nat} {cs : Array Value} (hB : w.heap[B]? = some (.cells cs 28 (0, 0))) (ds : Array Value) : MkR n₀ R L t i (w.setRow B ds) := by
  rcases h with ⟨s, h1, h2, h3, g, c, h4⟩ | ⟨h1, h2, g, c, h4⟩
  · exact .inl ⟨s, h1, h2, h3, g, c, h4.alloc28 (w' := w) hB ds⟩
  · exact .inr ⟨h1, h2, g, c, h4.alloc28 (w' := w) hB ds⟩
set_option maxRecDepth 100000 in
set_option maxHeartbeats 1000000 in
theorem rderive_yes {n₀ R g c : Nat} {w : World} {L : List Tm} (h : Rv n₀ w R g c L) (hle : L.length ≤ 100000) (hn₀ : n₀ ≤ w.heap.size) (k : Nat) (hk : k < L.length) (S : ByteArray) (o : Option Addr) (cp : Nat) (l : List UInt8) (hS : Sl w o l) :
    Calls Try.prog 51 #[.pointer (some ⟨R, 0, none⟩), hv (nameL k), .string S, .slice o l.length cp] w fun e w' => ∃ i, e = .returned (.tuple #[hv (nameL i), .int .i64 0]) ∧ MkR n₀ R L ⟨2, k, 0, S, ⟨l.toArray⟩⟩ i w' ∧ Kx w w' ∧ Below n₀ w w' := by
  have hbw : Below w.heap.size w ((w.alloc (.cells (hl (nameL k)).toArray 28)).alloc (.cells (hl z16).toArray 28)) := (bel1 w _).alloc (by simp) _
  have HX5 : Aside (((w.alloc (.cells (hl (nameL k)).toArray 28)).alloc (.cells (hl z16).toArray 28)).heap[w.heap.size]? = some (.cells (hl (nameL k)).toArray 28 (0, 0))) := nth' (new' rfl)
  have HX8 : Aside (((w.alloc (.cells (hl (nameL k)).toArray 28)).alloc (.cells (hl z16).toArray 28)).heap[w.heap.size + 1]? = some (.cells (hl z16).toArray 28 (0, 0))) := new' (by simp)
  have HBW : Aside _ := hbw
  have HOF : Aside (Calls Try.prog 52 #[.pointer (some ⟨R, 0, none⟩), hv (nameL k)] ((w.alloc (.cells (hl (nameL k)).toArray 28)).alloc (.cells (hl z16).toArray 28)) fun e w' => e = .returned (.int .i64 (k : Int)) ∧ Below w.heap.size w w' ∧ w'.heap[w.heap.size + 1]? = some (.cells (hl z16).toArray 28 (0, 0))) := by
    refine (rof_c (h.bel hbw) (by omega) (nameL k) (nameL_len k)).mono ?_
    rintro e w' ⟨⟨j, hj, e1, rfl⟩ | ⟨h1, _⟩, hb⟩
    · obtain rfl := name_inj (by omega) (by omega) e1
      exact ⟨rfl, hbw.trans (hb.mono hbw.size), heap_bel HX8.out hb⟩
    · exact absurd rfl (h1 k hk)
  have HCV : Aside (∀ X, Below w.heap.size w X → (convert 33 9 (.slice o l.length cp)).run Try.prog X = .ok (.string ⟨l.toArray⟩) X) := fun X hX => conv_bytes (hS.bel hX) cp
  have e7 : ∀ B : ByteArray, rc ⟨2, k, 0, S, B⟩ = [.int .i64 2, .int .i64 (k : Int), .int .i64 0, .string S, .int .i64 0, .string ⟨#[]⟩, .string B] := fun B => rfl
  have HMK : Aside (∀ X, Below w.heap.size w X → Calls Try.prog 30 #[.pointer (some ⟨R, 0, none⟩), .agg #[.int .i64 2, .int .i64 (k : Int), .int .i64 0, .string S, .int .i64 0, .string ⟨#[]⟩, .string ⟨l.toArray⟩]] X fun e w' => ∃ i, e = .returned (hv (nameL i)) ∧ MkR n₀ R L ⟨2, k, 0, S, ⟨l.toArray⟩⟩ i w' ∧ Kx X w' ∧ Below n₀ X w') := fun X hX => by
    have := rmake_c (h.bel hX) hle (Nat.le_trans hn₀ hX.size) ⟨2, k, 0, S, ⟨l.toArray⟩⟩
    rw [e7] at this
    refine this.mono ?_
    rintro e w' ⟨⟨i, s, a1, a2, a3, _, rfl, a5⟩ | ⟨a1, rfl, a3⟩, hK, hB⟩
    · exact ⟨i, rfl, .inl ⟨s, a1, a2, a3, a5⟩, hK, hB⟩
    · refine ⟨L.length, rfl, .inr ⟨?_, rfl, a3⟩, hK, hB⟩
      rcases a1 with a1 | a1
      · cases a1
      · exact a1
  have hs := nameL_len k
  have i1 : ¬ ((k : Int) < 0) := by omega
  have i2 : decide ((k : Int) < 0) = false := by simp
  clear h hbw e7 hS
  generalize (⟨l.toArray⟩ : ByteArray) = BL at *
  generalize l.length = NL at *
  go_enter Try.func51, Try.ntmps51
  go_wp2_with (refine ldr rfl (.tmp 5) rfl w.heap.size rfl (nameL k) HX5.out hs ?_)
  rw [hz28r]
  generalize hHk : nameL k = Hk at *
  generalize (w.alloc (.cells (hl Hk).toArray 28)).alloc (.cells (hl z16).toArray 28) = W1 at *
  refine Calls.mono HOF.out ?_
  rintro e W2 ⟨rfl, hb, hx⟩
  have HB2 : Aside (Below w.heap.size w W2) := hb
  have hcv := HCV.out W2 hb
  have HX2 : Aside (W2.heap[w.heap.size + 1]? = some (.cells (hl z16).toArray 28 (0, 0))) := hx
  clear hb HOF hx
  go_wp2_with fail
  refine Calls.mono (HMK.out W2 HB2.out) ?_
  rintro e W3 ⟨i, rfl, hm, hK, hB⟩
  have HX3 : Aside (W3.heap[w.heap.size + 1]? = some (.cells (hl z16).toArray 28 (0, 0))) := hK _ _ HX2.out (fun cs e => by injection e with _ e _; cases e) (fun cs e => by injection e with _ e _; cases e)
  have HRS : Aside _ := setRow_heap W3 (w.heap.size + 1) _ (hl (nameL i)).toArray 28 (0, 0) HX3.out
  have HMF : Aside (MkR n₀ R L ⟨2, k, 0, S, BL⟩ i (W3.setRow (w.heap.size + 1) (hl (nameL i)).toArray)) := hm.set HX3.out _
  have HKF : Aside (Kx w (W3.setRow (w.heap.size + 1) (hl (nameL i)).toArray)) := fun b ob hb h1 h2 => (setRow_other _ _ _ _ (by have := (Array.getElem?_eq_some_iff.1 hb).1; omega)).trans (hK b ob (heap_bel hb HB2.out) h1 h2)
  have HBF : Aside (Below n₀ w (W3.setRow (w.heap.size + 1) (hl (nameL i)).toArray)) := bel_set ((HB2.out.mono hn₀).trans hB) (by omega) _
  have hnl := nameL_len i
  clear hm hK hB hcv HMK HCV
  generalize hHi : nameL i = Hi at *
  have HHI : Aside _ := hHi
  clear hHi
  go_wp2_with (refine str rfl (.tmp 8) (.tmp 23) rfl (w.heap.size + 1) Hi rfl rfl z16 HX3.out hnl rfl ?_)
  refine bodyPost_ret (v := .tuple #[hv Hi, .int .i64 0]) (res_r2 (fn := Try.f51) (p := 8) (u := 9) rfl _ _ (w.heap.size + 1) Hi rfl HRS.out hnl) rfl ?_
  exact ⟨i, by rw [HHI.out], HMF.out, HKF.out, HBF.out⟩
end Go.Proofs.Ytpjoaimbaboleaa
