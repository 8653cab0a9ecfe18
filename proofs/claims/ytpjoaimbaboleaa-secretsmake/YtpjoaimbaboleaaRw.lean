/- The reference of secrets, by what Derive would tell. -/
import Derived.Test.YtpjoaimbaboleaaRq
namespace Go.Proofs.Ytpjoaimbaboleaa
open Go.RowKit Go.Shelf Go.Lib
set_option linter.unusedVariables false

/-- Terms that are made of something stand once. -/
def Onc (L : List Tm) : Prop := ∀ (i j : Nat) (t : Tm), L[i]? = some t → L[j]? = some t → 2 ≤ t.kd → i = j
/-- All terms are of the law's kinds. -/
def Cns (L : List Tm) : Prop := ∀ u ∈ L, Cn u
theorem Onc_ad {L : List Tm} (h : Onc L) (t : Tm) : Onc (ad L t) := by
  by_cases hx : ∃ i : Nat, L[i]? = some t
  · obtain ⟨i, hi⟩ := hx
    rw [ad_old hi]
    exact h
  · have hn : t ∉ L := fun hm => by obtain ⟨i, hi, e⟩ := List.mem_iff_getElem.1 hm; exact hx ⟨i, by rw [List.getElem?_eq_getElem hi, e]⟩
    rw [ad_new hn]
    intro i j u hi hj h2
    have li := (List.getElem?_eq_some_iff.1 hi).1
    have lj := (List.getElem?_eq_some_iff.1 hj).1
    simp only [List.length_append, List.length_singleton] at li lj
    by_cases ci : i < L.length
    · rw [List.getElem?_append_left ci] at hi
      by_cases cj : j < L.length
      · rw [List.getElem?_append_left cj] at hj
        exact h i j u hi hj h2
      · obtain rfl : j = L.length := by omega
        simp at hj
        subst hj
        exact absurd (List.mem_of_getElem? hi) hn
    · obtain rfl : i = L.length := by omega
      simp at hi
      subst hi
      by_cases cj : j < L.length
      · rw [List.getElem?_append_left cj] at hj
        exact absurd (List.mem_of_getElem? hj) hn
      · omega
theorem Cns_ad {L : List Tm} (h : Cns L) {t : Tm} (ht : Cn t) : Cns (ad L t) := by
  unfold ad
  split
  · exact h
  · intro u hu
    simp only [List.mem_append, List.mem_singleton] at hu
    rcases hu with hu | rfl
    · exact h u hu
    · exact ht
theorem Onc_dv {L : List Tm} (h : Onc L) (H : List UInt8) (S : ByteArray) (l : List UInt8) : Onc (dv L H S l).2.2 := by
  unfold dv
  split
  · exact Onc_ad h _
  · exact h
theorem Cns_dv {L : List Tm} (h : Cns L) (H : List UInt8) (S : ByteArray) (l : List UInt8) : Cns (dv L H S l).2.2 := by
  unfold dv
  split
  · exact Cns_ad h ⟨rfl, by simp, .inl rfl⟩
  · exact h
theorem Onc_dv2 {L : List Tm} (h : Onc L) (H : List UInt8) (S : ByteArray) (l : List UInt8) (S' : ByteArray) (l' : List UInt8) : Onc (dv2 L H S l S' l').2.2 := by
  unfold dv2
  split
  · exact Onc_dv (Onc_dv h _ _ _) _ _ _
  · exact Onc_dv h _ _ _
theorem Cns_dv2 {L : List Tm} (h : Cns L) (H : List UInt8) (S : ByteArray) (l : List UInt8) (S' : ByteArray) (l' : List UInt8) : Cns (dv2 L H S l S' l').2.2 := by
  unfold dv2
  split
  · exact Cns_dv (Cns_dv h _ _ _) _ _ _
  · exact Cns_dv h _ _ _
theorem Onc_hand {L : List Tm} (h : Onc L) (E S : List UInt8) : Onc (dvHand L E S).2.2 := by
  unfold dvHand
  split
  · exact Onc_dv2 h _ _ _ _ _
  · exact h
theorem Cns_hand {L : List Tm} (h : Cns L) (E S : List UInt8) : Cns (dvHand L E S).2.2 := by
  unfold dvHand
  split
  · exact Cns_dv2 h _ _ _ _ _
  · exact h
theorem dv_fail {L : List Tm} {H : List UInt8} {S : ByteArray} {l : List UInt8} (h : (dv L H S l).2.1 ≠ 0) : (dv L H S l).1 = z16 := by
  unfold dv at h ⊢
  split at h
  · exact absurd rfl h
  · rename_i hx; rw [dif_neg hx]
section
variable {W0 w w' : World} {V R : Nat} {L0 L : List Tm}
theorem jrA (W0 : World) (V : Nat) (L0 : List Tm) (R : Nat) (L : List Tm) : Jr W0.heap.size fun X => Rs W0 X V L0 R L := ⟨fun X X' h hb => h.go hb, fun X B cs ds h hB hn => h.setAny hB (.inl rfl) hn ds⟩
theorem rcA (W0 : World) (V : Nat) (L0 : List Tm) (R : Nat) {L : List Tm} (hO : Onc L) (hC : Cns L) (hle : L.length ≤ 100000) {H : List UInt8} (hH : H.length = 16) (S : ByteArray) (l : List UInt8) :
    Rc R (fun X => Rs W0 X V L0 R L) H S l (dv L H S l).1 (dv L H S l).2.1 (fun X => Rs W0 X V L0 R (dv L H S l).2.2) := by
  intro X o c hX hSl
  by_cases h : ∃ k : Nat, k < L.length ∧ H = nameL k
  · obtain ⟨k, hk, rfl⟩ := h
    rw [dv_name (by omega) hk]
    obtain ⟨g, d, hv⟩ := hX.rv
    refine (rderive_yes hv hle hX.ag.bel.size k hk S o c l hSl).mono ?_
    rintro e w' ⟨i, rfl, hm, hK, hB⟩
    rcases hm with ⟨s, a1, a2, _, a4⟩ | ⟨a1, rfl, a3⟩
    · have es := rc_inj (hC s (List.mem_of_getElem? a1)) ⟨rfl, by simp, .inl rfl⟩ a2
      rw [es] at a1
      obtain rfl := hO _ _ _ a1 (ix_at a1) (Nat.le_refl _)
      show _ ∧ Rs W0 w' V L0 R (ad L _) ∧ _
      rw [ad_old a1]
      exact ⟨rfl, ⟨hX.ag.kx hB hK, a4⟩, Kz.of_kx hK⟩
    · have hn : (⟨2, k, 0, S, ⟨l.toArray⟩⟩ : Tm) ∉ L := fun hm => a1 _ hm rfl
      show _ = _ ∧ Rs W0 w' V L0 R (ad L _) ∧ _
      rw [ix_new hn, ad_new hn]
      exact ⟨rfl, ⟨hX.ag.kx hB hK, a3⟩, Kz.of_kx hK⟩
  · have hn : ∀ k, k < L.length → H ≠ nameL k := fun k hk e => h ⟨k, hk, e⟩
    rw [dv_no hn]
    refine (rder_no hX hle H hH hn S o l.length c).mono ?_
    rintro e w' ⟨rfl, hb⟩
    exact ⟨rfl, hX.go hb, Kz.of_bel hb⟩
theorem rc2A (W0 : World) (V : Nat) (L0 : List Tm) (R : Nat) {L : List Tm} (hO : Onc L) (hC : Cns L) (hle : L.length ≤ 90000) {H : List UInt8} (S : ByteArray) (l : List UInt8) (S' : ByteArray) (l' : List UInt8) :
    Rc2 R (fun X => Rs W0 X V L0 R (dv L H S l).2.2) (dv L H S l).1 (dv L H S l).2.1 S' l' (dv2 L H S l S' l').1 (dv2 L H S l S' l').2.1 (fun X => Rs W0 X V L0 R (dv2 L H S l S' l').2.2) := by
  have h1 := dv_l L H S l
  unfold dv2
  split
  · rename_i h0
    exact .inl ⟨h0, rcA W0 V L0 R (Onc_dv hO _ _ _) (Cns_dv hC _ _ _) (by omega) (dv_h _ _ _) S' l'⟩
  · rename_i h0
    exact .inr ⟨h0, dv_fail h0, rfl, rfl⟩
abbrev BP (W0 : World) (V : Nat) (L0 : List Tm) (R : Nat) (r : List UInt8 × Int × List Tm) (w : World) : Ending → World → Prop := RqP (fun X => Rs W0 X V L0 R r.2.2) r.1 r.2.1 w
theorem Rs.sl (h : Rs W0 w V L0 R L) {o : Option Addr} {l : List UInt8} (hS : Sl W0 o l) : Sl w o l := hS.bel h.ag.bel
theorem b31 (h : Rs W0 w V L0 R L) (hO : Onc L) (hC : Cns L) (hle : L.length ≤ 90000) : Calls Try.prog 31 #[.pointer (some ⟨R, 0, none⟩)] w (BP W0 V L0 R (dv L (nameL 0) bScript []) w) :=
  r31_g (H2 := z16) (E2 := 0) (J2 := fun X => Rs W0 X V L0 R L) (jrA W0 V L0 R L) (jrA W0 V L0 R _) (jrA W0 V L0 R L) h.ag.bel.size h (dv_h _ _ _) rfl (rcA W0 V L0 R hO hC (by omega) (nameL_len 0) _ [])
theorem b32 (h : Rs W0 w V L0 R L) (hO : Onc L) (hC : Cns L) (hle : L.length ≤ 90000) (H : List UInt8) (hH : H.length = 16) (o : Option Addr) (c : Nat) (l : List UInt8) (hS : Sl W0 o l) : Calls Try.prog 32 #[.pointer (some ⟨R, 0, none⟩), hv H, .slice o l.length c] w (BP W0 V L0 R (dv L H bMessage l) w) :=
  r32_g (H2 := z16) (E2 := 0) (J2 := fun X => Rs W0 X V L0 R L) (jrA W0 V L0 R L) (jrA W0 V L0 R _) (jrA W0 V L0 R L) h.ag.bel.size h (dv_h _ _ _) rfl H hH o c l (h.sl hS) (rcA W0 V L0 R hO hC (by omega) hH _ l)
theorem b33 (h : Rs W0 w V L0 R L) (hO : Onc L) (hC : Cns L) (hle : L.length ≤ 90000) (H : List UInt8) (hH : H.length = 16) : Calls Try.prog 33 #[.pointer (some ⟨R, 0, none⟩), hv H] w (BP W0 V L0 R (dv L (eK H) bEarly []) w) := by
  unfold eK
  cases hz : H == z16 with
  | true => exact r33a_g (H2 := z16) (E2 := 0) (J2 := fun X => Rs W0 X V L0 R L) (jrA W0 V L0 R L) (jrA W0 V L0 R _) (jrA W0 V L0 R L) h.ag.bel.size h (dv_h _ _ _) rfl H hH hz (rcA W0 V L0 R hO hC (by omega) (nameL_len 0) _ [])
  | false => exact r33b_g (H2 := z16) (E2 := 0) (J2 := fun X => Rs W0 X V L0 R L) (jrA W0 V L0 R L) (jrA W0 V L0 R _) (jrA W0 V L0 R L) h.ag.bel.size h (dv_h _ _ _) rfl H hH hz (rcA W0 V L0 R hO hC (by omega) hH _ [])
theorem of_yes (h : Rs W0 w V L0 R L) (hle : L.length ≤ 100000) {H : List UInt8} (hH : H.length = 16) (hk : ∃ k : Nat, k < L.length ∧ H = nameL k) : ∃ n : Nat, Calls Try.prog 52 #[.pointer (some ⟨R, 0, none⟩), hv H] w fun e w' => e = .returned (.int .i64 (n : Int)) ∧ Below w.heap.size w w' := by
  obtain ⟨g, d, hv⟩ := h.rv
  obtain ⟨k, hk, rfl⟩ := hk
  refine ⟨k, (rof_c hv (by omega) (nameL k) (nameL_len k)).mono ?_⟩
  rintro e w' ⟨⟨j, hj, e1, rfl⟩ | ⟨h1, _⟩, hb⟩
  · obtain rfl := name_inj (by omega) (by omega) e1
    exact ⟨rfl, hb⟩
  · exact absurd rfl (h1 k hk)
theorem of_no (h : Rs W0 w V L0 R L) (hle : L.length ≤ 100000) {H : List UInt8} (hH : H.length = 16) (hk : ¬ ∃ k : Nat, k < L.length ∧ H = nameL k) : Calls Try.prog 52 #[.pointer (some ⟨R, 0, none⟩), hv H] w fun e w' => e = .returned (.int .i64 (-1)) ∧ Below w.heap.size w w' := by
  obtain ⟨g, d, hv⟩ := h.rv
  refine (rof_c hv (by omega) H hH).mono ?_
  rintro e w' ⟨⟨j, hj, e1, rfl⟩ | ⟨h1, rfl⟩, hb⟩
  · exact absurd ⟨j, hj, e1⟩ hk
  · exact ⟨rfl, hb⟩
theorem b34 (h : Rs W0 w V L0 R L) (hO : Onc L) (hC : Cns L) (hle : L.length ≤ 90000) (H G : List UInt8) (hH : H.length = 16) (hG : G.length = 16) : Calls Try.prog 34 #[.pointer (some ⟨R, 0, none⟩), hv H, hv G] w (BP W0 V L0 R (dvHand L H G) w) := by
  unfold dvHand
  split
  · rename_i hk
    exact r34_g (jrA W0 V L0 R L) (jrA W0 V L0 R _) (jrA W0 V L0 R _) h.ag.bel.size h (dv_h _ _ _) (dv2_h _ _ _ _ _) H hH G hG (fun X hX => of_yes hX (by omega) hH hk) (rcA W0 V L0 R hO hC (by omega) hG _ H) (rc2A W0 V L0 R hO hC hle _ _ _ H)
  · rename_i hk
    exact r34n (H1 := z16) (E1 := 0) (J1 := fun X => Rs W0 X V L0 R L) (H2 := z16) (E2 := 0) (J2 := fun X => Rs W0 X V L0 R L) (jrA W0 V L0 R L) (jrA W0 V L0 R L) (jrA W0 V L0 R L) h.ag.bel.size h rfl rfl H hH G hG (fun X hX => of_no hX (by omega) hH hk)
theorem b35 (h : Rs W0 w V L0 R L) (hO : Onc L) (hC : Cns L) (hle : L.length ≤ 90000) (H : List UInt8) (hH : H.length = 16) : Calls Try.prog 35 #[.pointer (some ⟨R, 0, none⟩), hv H] w (BP W0 V L0 R (dv L H bMaster []) w) :=
  r35_g (H2 := z16) (E2 := 0) (J2 := fun X => Rs W0 X V L0 R L) (jrA W0 V L0 R L) (jrA W0 V L0 R _) (jrA W0 V L0 R L) h.ag.bel.size h (dv_h _ _ _) rfl H hH (rcA W0 V L0 R hO hC (by omega) hH _ [])
theorem b36 (h : Rs W0 w V L0 R L) (hO : Onc L) (hC : Cns L) (hle : L.length ≤ 90000) (H G : List UInt8) (hH : H.length = 16) (hG : G.length = 16) (S : ByteArray) : Calls Try.prog 36 #[.pointer (some ⟨R, 0, none⟩), hv H, .string S, hv G] w (BP W0 V L0 R (dv L H S G) w) :=
  r36_g (H2 := z16) (E2 := 0) (J2 := fun X => Rs W0 X V L0 R L) (jrA W0 V L0 R L) (jrA W0 V L0 R _) (jrA W0 V L0 R L) h.ag.bel.size h (dv_h _ _ _) rfl H hH G hG S (rcA W0 V L0 R hO hC (by omega) hH S G)
theorem b37 (h : Rs W0 w V L0 R L) (hO : Onc L) (hC : Cns L) (hle : L.length ≤ 90000) (H G : List UInt8) (hH : H.length = 16) (hG : G.length = 16) : Calls Try.prog 37 #[.pointer (some ⟨R, 0, none⟩), hv H, hv G] w (BP W0 V L0 R (dv2 L H bFinished [] bMark G) w) :=
  r37_g (jrA W0 V L0 R L) (jrA W0 V L0 R _) (jrA W0 V L0 R _) h.ag.bel.size h (dv_h _ _ _) (dv2_h _ _ _ _ _) H hH G hG (rcA W0 V L0 R hO hC (by omega) hH _ []) (rc2A W0 V L0 R hO hC hle _ _ _ G)
theorem b38 (h : Rs W0 w V L0 R L) (hO : Onc L) (hC : Cns L) (hle : L.length ≤ 90000) (H : List UInt8) (hH : H.length = 16) (o : Option Addr) (c : Nat) (l : List UInt8) (hS : Sl W0 o l) : Calls Try.prog 38 #[.pointer (some ⟨R, 0, none⟩), hv H, .slice o l.length c] w (BP W0 V L0 R (dv2 L H bBinder [] bMark l) w) :=
  r38_g (jrA W0 V L0 R L) (jrA W0 V L0 R _) (jrA W0 V L0 R _) h.ag.bel.size h (dv_h _ _ _) (dv2_h _ _ _ _ _) H hH o c l (fun X hX => hX.sl hS) (fun X hX => hX.sl hS) (rcA W0 V L0 R hO hC (by omega) hH _ []) (rc2A W0 V L0 R hO hC hle _ _ _ l)
theorem b39 (h : Rs W0 w V L0 R L) (hO : Onc L) (hC : Cns L) (hle : L.length ≤ 90000) (H G : List UInt8) (hH : H.length = 16) (hG : G.length = 16) (o : Option Addr) (c : Nat) (l : List UInt8) (hS : Sl W0 o l) : Calls Try.prog 39 #[.pointer (some ⟨R, 0, none⟩), hv H, hv G, .slice o l.length c] w (BP W0 V L0 R (dv2 L H bResume G bTicket l) w) :=
  r39_g (jrA W0 V L0 R L) (jrA W0 V L0 R _) (jrA W0 V L0 R _) h.ag.bel.size h (dv_h _ _ _) (dv2_h _ _ _ _ _) H hH G hG o c l (fun X hX => hX.sl hS) (fun X hX => hX.sl hS) (rcA W0 V L0 R hO hC (by omega) hH _ G) (rc2A W0 V L0 R hO hC hle _ _ _ l)
end
end Go.Proofs.Ytpjoaimbaboleaa
