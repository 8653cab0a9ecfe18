/- Derive as a function of the terms that are there; the contracts of all calls of secrets over it. -/
import Derived.Test.YtpjoaimbaboleaaDz
import Derived.Test.YtpjoaimbaboleaaNn
import Derived.Test.YtpjoaimbaboleaaSd
namespace Go.Proofs.Ytpjoaimbaboleaa
open Go.RowKit Go.Shelf Go.Lib
set_option linter.unusedVariables false

open Classical in
/-- The place of a term, or of the next one. -/
noncomputable def ix (L : List Tm) (t : Tm) : Nat := if h : ∃ i : Nat, L[i]? = some t then h.choose else L.length
open Classical in
/-- The terms with one more, if it is not there. -/
noncomputable def ad (L : List Tm) (t : Tm) : List Tm := if ∃ i : Nat, L[i]? = some t then L else L ++ [t]
theorem ix_new {L : List Tm} {t : Tm} (h : t ∉ L) : ix L t = L.length := dif_neg fun ⟨i, hi⟩ => h (List.mem_of_getElem? hi)
theorem ad_new {L : List Tm} {t : Tm} (h : t ∉ L) : ad L t = L ++ [t] := if_neg fun ⟨i, hi⟩ => h (List.mem_of_getElem? hi)
theorem ix_at {L : List Tm} {t : Tm} {i : Nat} (h : L[i]? = some t) : L[ix L t]? = some t := by
  have he : ∃ i : Nat, L[i]? = some t := ⟨i, h⟩
  rw [ix, dif_pos he]
  exact he.choose_spec
theorem ad_old {L : List Tm} {t : Tm} {i : Nat} (h : L[i]? = some t) : ad L t = L := if_pos ⟨i, h⟩
theorem ad_len (L : List Tm) (t : Tm) : L.length ≤ (ad L t).length ∧ (ad L t).length ≤ L.length + 1 := by
  unfold ad
  split <;> simp
theorem ix_lt (L : List Tm) (t : Tm) : ix L t < (ad L t).length := by
  by_cases h : ∃ i : Nat, L[i]? = some t
  · obtain ⟨i, hi⟩ := h
    rw [ad_old hi]
    exact (List.getElem?_eq_some_iff.1 (ix_at hi)).1
  · have hn : t ∉ L := fun hm => by obtain ⟨i, hi, e⟩ := List.mem_iff_getElem.1 hm; exact h ⟨i, by rw [List.getElem?_eq_getElem hi, e]⟩
    rw [ix_new hn, ad_new hn]
    simp
open Classical in
/-- What Derive tells: the name, the error, the terms behind it. -/
noncomputable def dv (L : List Tm) (H : List UInt8) (S : ByteArray) (l : List UInt8) : List UInt8 × Int × List Tm :=
  if h : ∃ k : Nat, k < L.length ∧ H = nameL k then (nameL (ix L ⟨2, h.choose, 0, S, ⟨l.toArray⟩⟩), 0, ad L ⟨2, h.choose, 0, S, ⟨l.toArray⟩⟩) else (z16, 15, L)
theorem dv_name {L : List Tm} (hL : L.length ≤ 1000000) {k : Nat} (hk : k < L.length) (S : ByteArray) (l : List UInt8) : dv L (nameL k) S l = (nameL (ix L ⟨2, k, 0, S, ⟨l.toArray⟩⟩), 0, ad L ⟨2, k, 0, S, ⟨l.toArray⟩⟩) := by
  have h : ∃ j : Nat, j < L.length ∧ nameL k = nameL j := ⟨k, hk, rfl⟩
  have e : h.choose = k := (name_inj (by omega) (by have := h.choose_spec.1; omega) h.choose_spec.2).symm
  rw [dv, dif_pos h, e]
theorem dv_no {L : List Tm} {H : List UInt8} (hn : ∀ k, k < L.length → H ≠ nameL k) (S : ByteArray) (l : List UInt8) : dv L H S l = (z16, 15, L) := by
  rw [dv, dif_neg]
  rintro ⟨k, hk, e⟩
  exact hn k hk e
theorem dv_h {L : List Tm} (H : List UInt8) (S : ByteArray) (l : List UInt8) : (dv L H S l).1.length = 16 := by
  unfold dv
  split
  · exact nameL_len _
  · rfl
theorem dv_l (L : List Tm) (H : List UInt8) (S : ByteArray) (l : List UInt8) : L.length ≤ (dv L H S l).2.2.length ∧ (dv L H S l).2.2.length ≤ L.length + 1 := by
  unfold dv
  split
  · exact ad_len _ _
  · exact ⟨Nat.le_refl _, Nat.le_succ _⟩
section
variable {W0 w w' : World} {V : Nat} {L : List Tm}
theorem Ag.once (h : Ag W0 w V L) {i j : Nat} {t : Tm} (hi : L[i]? = some t) (hj : L[j]? = some t) (h2 : 2 ≤ t.kd) : i = j := by
  obtain ⟨G, c, M, hv⟩ := h.va
  obtain ⟨es, ck, _, hm⟩ := hv.hM
  exact hm.once i j t hi hj h2
theorem jkA (W0 : World) (V : Nat) (L : List Tm) : Jk W0.heap.size fun X => Ag W0 X V L := ⟨fun X X' h hb => h.go hb, fun X B t cs ds h hB ht hn => h.setAny hB (by rcases ht with rfl | rfl <;> decide) (by rcases ht with rfl | rfl <;> decide) hn ds⟩
theorem dcA (W0 : World) (V : Nat) {L : List Tm} (hle : L.length ≤ 100000) {H : List UInt8} (hH : H.length = 16) {S : ByteArray} (hS : S.size ≤ 140737488351232) (l : List UInt8) :
    Dc (some ⟨V, 0, none⟩) (fun X => Ag W0 X V L) H S l (dv L H S l).1 (dv L H S l).2.1 (fun X => Ag W0 X V (dv L H S l).2.2) := by
  intro X o c hX hSl
  by_cases h : ∃ k : Nat, k < L.length ∧ H = nameL k
  · obtain ⟨k, hk, rfl⟩ := h
    rw [dv_name (by omega) hk]
    obtain ⟨G, c', M, hv⟩ := hX.va
    refine (derive_any hv (by omega) k hk S hS o c l hSl).mono ?_
    rintro e w' ⟨i, rfl, _, hm⟩
    have hm' := hm
    obtain ⟨G', c', L', a1, a2, _⟩ := hm'
    by_cases hn : (⟨2, k, 0, S, ⟨l.toArray⟩⟩ : Tm) ∈ L
    · obtain ⟨h0, h1, _⟩ := hX.made_old hn hv hm
      obtain rfl := hX.once h0 (ix_at h0) (Nat.le_refl _)
      show _ ∧ Ag W0 w' V (ad L _) ∧ _
      rw [ad_old h0]
      exact ⟨rfl, h1, Kc.of_vc a2 hv⟩
    · obtain ⟨rfl, h1, _⟩ := hX.made_new hn hv hm
      show _ = _ ∧ Ag W0 w' V (ad L _) ∧ _
      rw [ix_new hn, ad_new hn]
      exact ⟨rfl, h1, Kc.of_vc a2 hv⟩
  · have hn : ∀ k, k < L.length → H ≠ nameL k := fun k hk e => h ⟨k, hk, e⟩
    rw [dv_no hn]
    refine (der_no hX hle H hH hn S o l.length c).mono ?_
    rintro e w' ⟨rfl, hb⟩
    exact ⟨rfl, hX.go hb, Kc.of_bel hb⟩
/-- Two steps. -/
noncomputable def dv2 (L : List Tm) (H : List UInt8) (S : ByteArray) (l : List UInt8) (S' : ByteArray) (l' : List UInt8) : List UInt8 × Int × List Tm :=
  if (dv L H S l).2.1 = 0 then dv (dv L H S l).2.2 (dv L H S l).1 S' l' else dv L H S l
theorem dv2_h {L : List Tm} (H : List UInt8) (S : ByteArray) (l : List UInt8) (S' : ByteArray) (l' : List UInt8) : (dv2 L H S l S' l').1.length = 16 := by
  unfold dv2
  split <;> exact dv_h _ _ _
theorem dv2_l (L : List Tm) (H : List UInt8) (S : ByteArray) (l : List UInt8) (S' : ByteArray) (l' : List UInt8) : L.length ≤ (dv2 L H S l S' l').2.2.length ∧ (dv2 L H S l S' l').2.2.length ≤ L.length + 2 := by
  have h1 := dv_l L H S l
  have h2 := dv_l (dv L H S l).2.2 (dv L H S l).1 S' l'
  unfold dv2
  split <;> omega
theorem dc2A (W0 : World) (V : Nat) {L : List Tm} (hle : L.length ≤ 90000) {H : List UInt8} (S : ByteArray) (l : List UInt8) {S' : ByteArray} (hS : S'.size ≤ 140737488351232) (l' : List UInt8) :
    Dc2 (some ⟨V, 0, none⟩) (fun X => Ag W0 X V (dv L H S l).2.2) (dv L H S l).1 (dv L H S l).2.1 S' l' (dv2 L H S l S' l').1 (dv2 L H S l S' l').2.1 (fun X => Ag W0 X V (dv2 L H S l S' l').2.2) := by
  have h1 := dv_l L H S l
  unfold dv2
  split
  · rename_i h0
    exact .inl ⟨h0, dcA W0 V (by omega) (dv_h _ _ _) hS l'⟩
  · rename_i h0
    exact .inr ⟨h0, rfl, rfl, rfl⟩
theorem rtA (W0 : World) (V : Nat) {L : List Tm} (hle : L.length ≤ 100000) : Rt (some ⟨V, 0, none⟩) (fun X => Ag W0 X V L) (nameL 0) := fun X hX => by
  obtain ⟨G, c, M, hv⟩ := hX.va
  exact root_c hv (by omega)
theorem name0_ne : (nameL 0 == z16) = false := by
  have := name_ne_zero 0 (by omega)
  simpa [z16] using this
theorem noA (W0 : World) (V : Nat) {L : List Tm} (hle : L.length ≤ 100000) : ∀ X, Ag W0 X V L → Calls Try.prog 42 #[.pointer (some ⟨V, 0, none⟩)] X fun e w' => e = .returned (.bool false) ∧ Below X.heap.size X w' := fun X hX => none_g (rtA W0 V hle) (nameL_len 0) name0_ne hX
set_option maxRecDepth 100000 in
theorem known_c (h : Ag W0 w V L) (hle : L.length ≤ 100000) (H : List UInt8) (hH : H.length = 16) {b : Bool} (hb : (∃ k : Nat, k < L.length ∧ H = nameL k) ↔ b = true) : Calls Try.prog 43 #[.pointer (some ⟨V, 0, none⟩), hv H] w fun e w' => e = .returned (.bool b) ∧ Below w.heap.size w w' := by
  have hb1 := bel1 w (.cells (hl H).toArray 29)
  have X3 : Aside _ := heap_alloc_new w (.cells (hl H).toArray 29)
  obtain ⟨n, E, hE, HN⟩ : ∃ (n E : Int), (decide (E = 0) = b) ∧ Aside (Calls Try.prog 44 #[.pointer (some ⟨V, 0, none⟩), hv H] (w.alloc (.cells (hl H).toArray 29)) fun e w' => e = .returned (.tuple #[.int .i64 n, .int .i64 E]) ∧ Below (w.alloc (.cells (hl H).toArray 29)).heap.size (w.alloc (.cells (hl H).toArray 29)) w') := by
    obtain ⟨G, c, M, hv⟩ := (h.go hb1).va
    by_cases hk : ∃ k : Nat, k < L.length ∧ H = nameL k
    · have := hb.1 hk
      subst this
      obtain ⟨k, hk, rfl⟩ := hk
      exact ⟨k, 0, by simp, number_yes hv (by omega) k hk⟩
    · have : b = false := by cases b with | false => rfl | true => exact absurd (hb.2 rfl) hk
      subst this
      exact ⟨0, 15, by simp, number_no hv (by omega) H hH fun k hk' e => hk ⟨k, hk', e⟩⟩
  have HB : Aside _ := hb1
  have hE' : (E == 0) = b := by rw [← hE]; rfl
  clear h hb hb1
  go_enter Try.func43, Try.ntmps43
  go_wp2_with (refine ld28 rfl (.tmp 3) rfl w.heap.size rfl H X3.out hH ?_)
  generalize w.alloc (.cells (hl H).toArray 29) = W1 at *
  refine Calls.mono HN.out ?_
  rintro e W2 ⟨rfl, hb⟩
  have HB2 : Aside (Below w.heap.size w W2) := HB.out.trans (hb.mono HB.out.size)
  clear hb HB HN X3
  go_wp2
  go_ret
  exact ⟨rfl, HB2.out⟩
/-- How a call of secrets ends, by what Derive would tell. -/
abbrev AP (W0 : World) (V : Nat) (r : List UInt8 × Int × List Tm) (w : World) : Ending → World → Prop := ScP (fun X => Ag W0 X V r.2.2) r.1 r.2.1 w
abbrev bScript : ByteArray := ⟨#[115, 99, 114, 105, 112, 116]⟩
abbrev bMessage : ByteArray := ⟨#[109, 101, 115, 115, 97, 103, 101]⟩
abbrev bEarly : ByteArray := ⟨#[101, 97, 114, 108, 121]⟩
abbrev bHand : ByteArray := ⟨#[104, 97, 110, 100]⟩
abbrev bBoth : ByteArray := ⟨#[98, 111, 116, 104]⟩
abbrev bMaster : ByteArray := ⟨#[109, 97, 115, 116, 101, 114]⟩
abbrev bFinished : ByteArray := ⟨#[102, 105, 110, 105, 115, 104, 101, 100]⟩
abbrev bMark : ByteArray := ⟨#[109, 97, 114, 107]⟩
abbrev bBinder : ByteArray := ⟨#[98, 105, 110, 100, 101, 114]⟩
abbrev bResume : ByteArray := ⟨#[114, 101, 115, 117, 109, 101]⟩
abbrev bTicket : ByteArray := ⟨#[116, 105, 99, 107, 101, 116]⟩
theorem a15 (h : Ag W0 w V L) (hle : L.length ≤ 90000) : Calls Try.prog 15 #[.pointer (some ⟨V, 0, none⟩)] w (AP W0 V (dv L (nameL 0) bScript []) w) :=
  begin_g (H2 := z16) (E2 := 0) (J2 := fun X => Ag W0 X V L) (jkA W0 V L) (jkA W0 V _) (jkA W0 V L) h.bel.size h (dv_h _ _ _) rfl (nameL 0) (nameL_len 0) (rtA W0 V (by omega)) (dcA W0 V (by omega) (nameL_len 0) (by decide) [])
theorem a16 (h : Ag W0 w V L) (hle : L.length ≤ 90000) (H : List UInt8) (hH : H.length = 16) (o : Option Addr) (c : Nat) (l : List UInt8) (hS : Sl w o l) (hl0 : l.length ≤ 140737488351300) : Calls Try.prog 16 #[.pointer (some ⟨V, 0, none⟩), hv H, .slice o l.length c] w (AP W0 V (dv L H bMessage l) w) :=
  add_g (H2 := z16) (E2 := 0) (J2 := fun X => Ag W0 X V L) (jkA W0 V L) (jkA W0 V _) (jkA W0 V L) h.bel.size h (dv_h _ _ _) rfl H hH o c l hS hl0 (dcA W0 V (by omega) hH (by decide) l)
open Classical in
/-- Whom Early asks. -/
noncomputable def eK (H : List UInt8) : List UInt8 := if H == z16 then nameL 0 else H
theorem a17 (h : Ag W0 w V L) (hle : L.length ≤ 90000) (H : List UInt8) (hH : H.length = 16) : Calls Try.prog 17 #[.pointer (some ⟨V, 0, none⟩), hv H] w (AP W0 V (dv L (eK H) bEarly []) w) := by
  unfold eK
  cases hz : H == z16 with
  | true => exact early0_g (H2 := z16) (E2 := 0) (J2 := fun X => Ag W0 X V L) (jkA W0 V L) (jkA W0 V _) (jkA W0 V L) h.bel.size h (dv_h _ _ _) rfl H hH (nameL 0) (nameL_len 0) (rtA W0 V (by omega)) hz (dcA W0 V (by omega) (nameL_len 0) (by decide) [])
  | false => exact early1_g (H2 := z16) (E2 := 0) (J2 := fun X => Ag W0 X V L) (jkA W0 V L) (jkA W0 V _) (jkA W0 V L) h.bel.size h (dv_h _ _ _) rfl H hH hz (dcA W0 V (by omega) hH (by decide) [])
open Classical in
/-- What Hand tells. -/
noncomputable def dvHand (L : List Tm) (E S : List UInt8) : List UInt8 × Int × List Tm := if ∃ k : Nat, k < L.length ∧ E = nameL k then dv2 L S bHand E bBoth E else (z16, 15, L)
theorem dvHand_h (L : List Tm) (E S : List UInt8) : (dvHand L E S).1.length = 16 := by
  unfold dvHand
  split
  · exact dv2_h _ _ _ _ _
  · rfl
theorem dvHand_l (L : List Tm) (E S : List UInt8) : L.length ≤ (dvHand L E S).2.2.length ∧ (dvHand L E S).2.2.length ≤ L.length + 2 := by
  unfold dvHand
  split
  · exact dv2_l _ _ _ _ _ _
  · exact ⟨Nat.le_refl _, by simp⟩
theorem a18 (h : Ag W0 w V L) (hle : L.length ≤ 90000) (H G : List UInt8) (hH : H.length = 16) (hG : G.length = 16) : Calls Try.prog 18 #[.pointer (some ⟨V, 0, none⟩), hv H, hv G] w (AP W0 V (dvHand L H G) w) := by
  unfold dvHand
  split
  · rename_i hk
    exact hand_g (jkA W0 V L) (jkA W0 V _) (jkA W0 V _) h.bel.size h (dv_h _ _ _) (dv2_h _ _ _ _ _) H hH G hG (noA W0 V (by omega)) (fun X hX => known_c hX (by omega) H hH ⟨fun _ => rfl, fun _ => hk⟩) (dcA W0 V (by omega) hG (by decide) H) (dc2A W0 V hle _ _ (by decide) H)
  · rename_i hk
    exact hand_unk (jkA W0 V L) h.bel.size h H hH G hG (noA W0 V (by omega)) (fun X hX => known_c hX (by omega) H hH ⟨fun x => absurd x hk, fun x => by cases x⟩)
theorem a19 (h : Ag W0 w V L) (hle : L.length ≤ 90000) (H : List UInt8) (hH : H.length = 16) : Calls Try.prog 19 #[.pointer (some ⟨V, 0, none⟩), hv H] w (AP W0 V (dv L H bMaster []) w) :=
  master_g (H2 := z16) (E2 := 0) (J2 := fun X => Ag W0 X V L) (jkA W0 V L) (jkA W0 V _) (jkA W0 V L) h.bel.size h (dv_h _ _ _) rfl H hH (dcA W0 V (by omega) hH (by decide) [])
theorem a20 (h : Ag W0 w V L) (hle : L.length ≤ 90000) (H G : List UInt8) (hH : H.length = 16) (hG : G.length = 16) (S : ByteArray) (hS : S.size ≤ 140737488351232) : Calls Try.prog 20 #[.pointer (some ⟨V, 0, none⟩), hv H, .string S, hv G] w (AP W0 V (dv L H S G) w) :=
  traffic_g (H2 := z16) (E2 := 0) (J2 := fun X => Ag W0 X V L) (jkA W0 V L) (jkA W0 V _) (jkA W0 V L) h.bel.size h (dv_h _ _ _) rfl H hH G hG S (dcA W0 V (by omega) hH hS G)
theorem a21 (h : Ag W0 w V L) (hle : L.length ≤ 90000) (H G : List UInt8) (hH : H.length = 16) (hG : G.length = 16) : Calls Try.prog 21 #[.pointer (some ⟨V, 0, none⟩), hv H, hv G] w (AP W0 V (dv2 L H bFinished [] bMark G) w) :=
  mark_g (jkA W0 V L) (jkA W0 V _) (jkA W0 V _) h.bel.size h (dv_h _ _ _) (dv2_h _ _ _ _ _) H hH G hG (dcA W0 V (by omega) hH (by decide) []) (dc2A W0 V hle _ _ (by decide) G)
theorem a22 (h : Ag W0 w V L) (hle : L.length ≤ 90000) (H : List UInt8) (hH : H.length = 16) (o : Option Addr) (c : Nat) (l : List UInt8) (hS : Sl W0 o l) (hl0 : l.length ≤ 140737488351300) : Calls Try.prog 22 #[.pointer (some ⟨V, 0, none⟩), hv H, .slice o l.length c] w (AP W0 V (dv2 L H bBinder [] bMark l) w) :=
  bind_g (jkA W0 V L) (jkA W0 V _) (jkA W0 V _) h.bel.size h (dv_h _ _ _) (dv2_h _ _ _ _ _) H hH o c l (hS.bel h.bel) hl0 (fun X hX => hS.bel hX.bel) (dcA W0 V (by omega) hH (by decide) []) (dc2A W0 V hle _ _ (by decide) l)
theorem a23 (h : Ag W0 w V L) (hle : L.length ≤ 90000) (H G : List UInt8) (hH : H.length = 16) (hG : G.length = 16) (o : Option Addr) (c : Nat) (l : List UInt8) (hS : Sl W0 o l) (hl0 : l.length ≤ 140737488351300) : Calls Try.prog 23 #[.pointer (some ⟨V, 0, none⟩), hv H, hv G, .slice o l.length c] w (AP W0 V (dv2 L H bResume G bTicket l) w) :=
  resume_g (jkA W0 V L) (jkA W0 V _) (jkA W0 V _) h.bel.size h (dv_h _ _ _) (dv2_h _ _ _ _ _) H hH G hG o c l (hS.bel h.bel) hl0 (fun X hX => hS.bel hX.bel) (dcA W0 V (by omega) hH (by decide) G) (dc2A W0 V hle _ _ (by decide) l)
end
end Go.Proofs.Ytpjoaimbaboleaa
