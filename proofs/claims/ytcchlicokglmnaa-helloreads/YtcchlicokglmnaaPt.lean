/- hello.Put. -/
import Derived.Test.YtcchlicokglmnaaPw
namespace Go.Proofs.Ytcchlicokglmnaa
open Go.ChangeShapes Go.WideShapes Go.ChangeAt Go.RowKit Go.Lib
set_option linter.unusedVariables false

def putE (m : Msg) : Int := if isK m.kind = false then 12 else if (bodyS m).2 = true then 2 else 0
def putB (m : Msg) : List UInt8 := ([UInt8.ofNat m.kind.toNat] ++ be 3 (uN (bodyS m).1.length)) ++ (bodyS m).1
def putL (m : Msg) : List UInt8 := if putE m = 0 then putB m else []
/-- What Put answers. -/
def PutR (m : Msg) (w : World) (e : Ending) (w' : World) : Prop := ∃ v, e = .returned (.tuple #[v, .int .i64 (putE m)]) ∧ By w.heap.size w' v (putL m) ∧ Below w.heap.size w w'
theorem Gr.below {p B n : Nat} {w w' : World} (h : Gr p B w w') (hn : n ≤ w.heap.size) (hp : n ≤ p) (hB : n ≤ B) : Below n w w' :=
  ⟨h.os, h.tape, h.output, h.size, fun k hk => h.block k (by omega) (by omega) (.inl (by omega))⟩
theorem cells_len {m : Msg} (h : m.len) : m.cells.length = 72 := by simp [Msg.cells, bc_length, h.r, h.s, h.b, h.k]
theorem putR_no {m : Msg} {w w' : World} {E : Int} (hE : putE m = E) (h0 : E ≠ 0) (hb : Below w.heap.size w w') : PutR m w (.returned (.tuple #[.slice none 0 0, .int .i64 E])) w' :=
  ⟨_, by rw [hE], by unfold putL By; rw [if_neg (by rw [hE]; exact h0)]; exact World.ownsRow_nil _ _ _ _, hb⟩
theorem isK_vals {k : Int} (h : isK k = true) : 1 ≤ k ∧ k ≤ 20 := by
  have := of_decide_eq_true h
  omega
/-- A row laid anew is one's own. -/
theorem own_of {W : World} {g base : Nat} {X : List UInt8} (h : W.heap[g]? = some (.cells (bc X).toArray 5 (0, 0))) (hb : base ≤ g) (hl : X.length ≤ 1000000) : W.ownsRow base 5 1 (.slice (some ⟨g, 0, none⟩) X.length X.length) X.length (bc X) :=
  ⟨by simp [bc_length], .inr ⟨g, X.length, _, rfl, hb, h, Nat.le_refl _, by unfold maxLen; omega, by simp [bc_length], by rw [Nat.mul_one]; exact List.take_of_length_le (by simp [bc_length])⟩⟩
theorem By.sl {B : Nat} {w : World} {o : Option Addr} {c : Nat} {X : List UInt8} (h : By B w (.slice o X.length c) X) : Sl w o X ∧ (o = none → X.length = 0 ∧ c = 0) := by
  obtain ⟨h0, ⟨h1, h2⟩ | ⟨g, cap, cur, e, h1, h2, h3, h4, h5, h6⟩⟩ := h
  · injection h1 with h1 h1' h1''
    refine ⟨fun j hj => by omega, fun _ => ⟨h2, h1''⟩⟩
  · injection e with e1 e2 e3
    subst e1
    refine ⟨Sl_own h2 (by simpa using h6), fun h => by cases h⟩
theorem bodyS_len (m : Msg) (hln : m.len) : (bodyS m).1.length ≤ 90000 := by
  have hr := hln.r; have hs := hln.s; have hb := hln.b; have hk := hln.k
  have H2 : ∀ a : St, (aH [m.random, m.share] a).1.length = a.1.length + 32 := fun a => by rw [aH_len _ (by intro x hx; simp at hx; rcases hx with rfl | rfl <;> assumption)]; simp
  have Hb : ∀ a : St, (aH [m.binder] a).1.length = a.1.length + 16 := fun a => by rw [aH_len _ (by intro x hx; simp at hx; subst hx; assumption)]; simp
  have Hm : ∀ a : St, (aH [m.mark] a).1.length = a.1.length + 16 := fun a => by rw [aH_len _ (by intro x hx; simp at hx; subst hx; assumption)]; simp
  have F : ∀ n (a : St), (aF n a).1.length = a.1.length + 1 := fun n a => by simp [aF]
  have N : ∀ n x l q (a : St), (aN n x l q a).1.length = a.1.length + n := fun n x l q a => by simp [aN, be_length]
  unfold bodyS
  split
  · have h8 : (aN 1 m.protos.length 1 8 (stp 0 (aH [m.random, m.share] ([], false)) m.name)).2 = false → (m.protos.length : Int) = m.protos.length → m.protos.length ≤ 300 := by
      intro hf _
      simp only [aN, Bool.or_eq_false_iff, Bool.not_eq_false', decide_eq_true_eq] at hf
      omega
    have a1 := aS_len 0 m.name (aH [m.random, m.share] ([], false))
    have a2 := aP_len m.protos m.protos.length _ h8
    have a3 := aL_len m.params 0 4096 (by decide) (aP m.protos m.protos.length (aN 1 m.protos.length 1 8 (stp 0 (aH [m.random, m.share] ([], false)) m.name)))
    have a4 := aL_len m.ticket 1 512 (by decide) (aF (bitN (decide (0 < m.ticket.length)) 1 + bitN m.early 2) (aL m.params 0 4096 (aP m.protos m.protos.length (aN 1 m.protos.length 1 8 (stp 0 (aH [m.random, m.share] ([], false)) m.name)))))
    rw [H2] at a1
    rw [N] at a2
    rw [F] at a4
    simp only [List.length_nil] at a1
    simp only
    split
    · rw [Hb]; omega
    · show (aF _ _).1.length ≤ _
      rw [F]; omega
  split
  · rw [F, H2]; simp
  split
  · have h8 : (([], false) : St).2 = false → (m.protos.length : Int) = 1 → m.protos.length ≤ 300 := fun _ h => by omega
    have l1 := aP_len m.protos 1 ([], false) h8
    have l2 := aL_len m.params 0 4096 (by decide) (aP m.protos 1 ([], false))
    simp only [List.length_nil] at l1
    rw [F]; omega
  split
  · have l1 := aS_len 0 m.name ([], false)
    simp only [List.length_nil] at l1
    rw [Hm]; omega
  split
  · have l2 := aL_len m.ticket 1 512 (by decide) (aN 4 m.life 0 4294967295 ([], false))
    rw [N] at l2
    simp only [List.length_nil] at l2
    rw [F]; omega
  · rw [Hm]; simp
theorem Sl_bel {w w' : World} {ao : Option Addr} {l : List UInt8} (h : Sl w ao l) (hb : Below w.heap.size w w') : Sl w' ao l := fun j hj => by
  obtain ⟨b, off, e, hc⟩ := h j hj
  exact ⟨b, off, e, (hb.cell (p := ⟨b, off + j, none⟩) (World.block_lt_of_cell? w _ hc)).trans hc⟩
theorem Nms_bel {w w' : World} {ao : Option Addr} {l : List ByteArray} (h : Nms w ao l) (hb : Below w.heap.size w w') : Nms w' ao l := fun j hj => by
  obtain ⟨b, off, e, hc⟩ := h j hj
  exact ⟨b, off, e, (hb.cell (p := ⟨b, off + j, none⟩) (World.block_lt_of_cell? w _ hc)).trans hc⟩
theorem Msg.ok.bel {m : Msg} {w w' : World} (h : m.ok w) (hb : Below w.heap.size w w') : m.ok w' :=
  ⟨h.ln, Nms_bel h.nm hb, Sl_bel h.pa hb, Sl_bel h.ti hb, h.pn, h.tn, h.n63, h.p63, h.s63, h.a63, h.t63⟩
theorem Sl_lt {w : World} {a : Addr} {l : List UInt8} (h : Sl w (some a) l) (hl : l ≠ []) : a.block < w.heap.size := by
  obtain ⟨b, off, e, hc⟩ := h 0 (List.length_pos_iff.2 hl)
  cases e
  exact World.block_lt_of_cell? w _ hc
theorem Nms_lt {w : World} {a : Addr} {l : List ByteArray} (h : Nms w (some a) l) (hl : l ≠ []) : a.block < w.heap.size := by
  obtain ⟨b, off, e, hc⟩ := h 0 (List.length_pos_iff.2 hl)
  cases e
  exact World.block_lt_of_cell? w _ hc
theorem cx_of {m : Msg} {w w2 : World} (hok : m.ok w) (hb : Below w.heap.size w w2) (hrow : w2.heap[w.heap.size]? = some (.cells m.cells.toArray 27 (0, 0))) :
    Cx (w2.alloc (.cells #[.bool false, .slice none 0 0] 52)) w2.heap.size (w2.heap.size + 1) w.heap.size m ∧ Ip (w2.alloc (.cells #[.bool false, .slice none 0 0] 52)) w2.heap.size (w2.heap.size + 1) ([], false) (w2.alloc (.cells #[.bool false, .slice none 0 0] 52)) := by
  have hb3 := bl1 w2 (.cells #[.bool false, .slice none 0 0] 52)
  have hlt := lt_block hrow
  refine ⟨⟨(hb3.block _ hlt).trans hrow, by omega, by omega, hok.bel (hb.trans (hb3.mono hb.size)), ?_, ?_, ?_⟩, ⟨⟨.slice none 0 0, heap_alloc_new w2 _, World.ownsRow_nil _ _ _ _, by omega⟩, Gr.refl _ _ _, by simp⟩⟩
  · intro a e hn
    have h1 := hok.nm
    rw [e] at h1
    have := Nms_lt h1 hn
    omega
  · intro a e hn
    have h1 := hok.pa
    rw [e] at h1
    have := Sl_lt h1 hn
    omega
  · intro a e hn
    have h1 := hok.ti
    rw [e] at h1
    have := Sl_lt h1 hn
    omega
theorem uN_nat (n : Nat) (h : n < 18446744073709551616) : uN (n : Int) = n := by
  have := uN_cast (n : Int)
  rw [IntKind.wrap_u64] at this
  omega
set_option maxRecDepth 100000 in
set_option maxHeartbeats 1000000 in
theorem put_c (m : Msg) (w : World) (hok : m.ok w) : Calls Try.prog 7 #[.agg m.cells.toArray] w (PutR m w) := by
  obtain ⟨i0, hi, hz0, hz1, hz2⟩ := info_parts info5
  have hb1 : Below w.heap.size w (w.alloc (.cells m.cells.toArray 27)) := bl1 w _
  have hrow := heap_alloc_new w (.cells m.cells.toArray 27)
  have HRW : Hid _ := hrow
  have k0 : (w.alloc (.cells m.cells.toArray 27)).cell? ⟨w.heap.size, 0, none⟩ = some (.int .i64 m.kind) := by
    unfold World.cell?; rw [hrow]; simpa using (Msg.get hok.ln).1
  have HB1 : Hid _ := hb1
  have HOK : Hid _ := hok
  have HL : Hid _ := bodyS_len m hok.ln
  have HK : Hid (Calls Try.prog 16 #[.int .i64 m.kind] (w.alloc (.cells m.cells.toArray 27)) (KdP m.kind (w.alloc (.cells m.cells.toArray 27)))) := isKind_c m.kind _
  clear hb1 hrow hok
  obtain ⟨A, hA⟩ : ∃ A, m.cells.toArray = A := ⟨_, rfl⟩
  rw [hA] at k0 HB1 HK HRW ⊢
  have HAC : Hid _ := hA
  clear hA
  go_enter Try.func7, Try.ntmps7
  go_wp2_with fail
  generalize w.alloc (.cells A 27) = w1 at *
  refine Calls.mono HK.out ?_
  rintro e w2 ⟨rfl, hb2⟩
  have HB2 : Hid (Below w.heap.size w w2) := HB1.out.trans (hb2.mono HB1.out.size)
  have HRW2 : Hid (w2.heap[w.heap.size]? = some (.cells A 27 (0, 0))) := (hb2.block _ (lt_block HRW.out)).trans HRW.out
  have h12 : Hid (w1.heap.size ≤ w2.heap.size ∧ w.heap.size < w1.heap.size) := ⟨hb2.size, lt_block HRW.out⟩
  clear hb2 HK HRW HB1 k0
  as_aux_lemma =>
  cases hk : isK m.kind
  · as_aux_lemma =>
    have HF : Hid (PutR m w (.returned (.tuple #[.slice none 0 0, .int .i64 12])) w2) := putR_no (by simp [putE, hk]) (by decide) HB2.out
    clear hk
    go_wp2_with fail
    go_ret2
    exact HF.out
  · have hkv := isK_vals hk
    obtain ⟨hcx, hip⟩ := cx_of HOK.out HB2.out (m := m) (by rw [HAC.out]; exact HRW2.out)
    have HW : Hid _ := pwalk hcx hk hip
    have HCX : Hid (Cx (w2.alloc (.cells #[.bool false, .slice none 0 0] 52)) w2.heap.size (w2.heap.size + 1) w.heap.size m) := hcx
    have HE : Hid (putE m = if (bodyS m).2 = true then 2 else 0) := by show _ = _; simp [putE, hk]
    clear hk hcx hip HRW2 HAC
    as_aux_lemma =>
    go_wp2_with fail
    refine Calls.mono HW.out ?_
    rintro e w4 ⟨rfl, h4⟩
    have S4 : Hid (Ip (w2.alloc (.cells #[.bool false, .slice none 0 0] 52)) w2.heap.size (w2.heap.size + 1) (bodyS m) w4) := h4
    obtain ⟨v, hv⟩ := h4.pu
    have kc := HCX.out.cell h4 (Msg.get HOK.out.ln).1
    have hb34 : Below w.heap.size w w4 := (HB2.out.trans ((bl1 w2 _).mono HB2.out.size)).trans (h4.gr.below (by simp; have := HB2.out.size; omega) HB2.out.size (by have := HB2.out.size; omega))
    have HB4 : Hid _ := hb34
    clear h4 HW hb34 HCX S4
    obtain ⟨o, c, rfl⟩ := own_val hv.own
    have c0 := hv.c0
    have c1 := hv.c1
    have HPU : Hid _ := hv
    have HPB : Hid (putE m = 0 → putL m = ([UInt8.ofNat m.kind.toNat] ++ be 3 (uN (bodyS m).1.length)) ++ (bodyS m).1) := fun h => by unfold putL putB; rw [if_pos h]
    clear hv
    generalize w2.heap.size = p at *
    generalize bodyS m = a at *
    obtain ⟨Y, bad⟩ := a
    try simp only at c0
    try simp only at c1
    try simp only at HPU
    try simp only at HE
    try simp only at HPB
    try simp only at HL
    as_aux_lemma =>
    cases bad
    · have hE0 : putE m = 0 := HE.out
      have hyl := HL.out
      obtain ⟨kb, hkb⟩ : ∃ kb : UInt8, kb = UInt8.ofNat m.kind.toNat := ⟨_, rfl⟩
      have hkn : (kb.toNat : Int) = m.kind := by rw [hkb]; simp; omega
      have hw8 : IntKind.u8.wrap m.kind = m.kind := by rw [IntKind.wrap_u8]; omega
      have hw64 : IntKind.u64.wrap (Y.length : Int) = (Y.length : Int) := by rw [IntKind.wrap_u64]; omega
      have hb5 : Below w4.heap.size w4 (w4.alloc (.cells #[.int .u8 m.kind] 5)) := bl1 w4 _
      have hs5 : Sl (w4.alloc (.cells #[.int .u8 m.kind] 5)) (some ⟨w4.heap.size, 0, none⟩) [kb] := by rw [← hkn]; exact Sl_new w4 kb
      have HO : Hid (Calls Try.prog 18 #[.slice (some ⟨w4.heap.size, 0, none⟩) 1 1, .int .u64 (Y.length : Nat), .int .i64 3] (w4.alloc (.cells #[.int .u8 m.kind] 5)) (OpP (w4.alloc (.cells #[.int .u8 m.kind] 5)) ([kb] ++ be 3 Y.length))) :=
        oput_c (some ⟨w4.heap.size, 0, none⟩) [kb] 1 Y.length 3 _ hs5 (by simp) (by omega) (by omega) (by omega)
      have HB5 : Hid (Below w.heap.size w (w4.alloc (.cells #[.int .u8 m.kind] 5))) := HB4.out.trans (hb5.mono HB4.out.size)
      have HP5 : Hid (Pu (w4.alloc (.cells #[.int .u8 m.kind] 5)) p (p + 1) (.slice o Y.length c) Y false) := HPU.out.below hb5
      have c05 := HP5.out.c0
      have HLN : Hid (putL m = ([kb] ++ be 3 Y.length) ++ Y) := by show _ = _; rw [HPB.out hE0, uN_nat _ (by omega), ← hkb]
      clear hb5 hs5 hkb hkn HPB HE
      as_aux_lemma =>
      go_wp2_with fail
      generalize w4.alloc (.cells #[.int .u8 m.kind] 5) = w5 at *
      refine Calls.mono HO.out ?_
      rintro e w6 ⟨rfl, hrow, hb6⟩
      have hlen : ([kb] ++ be 3 Y.length).length = 4 := by simp [be_length]
      have hown := own_of hrow (show w.heap.size ≤ w5.heap.size from HB5.out.size) (by rw [hlen]; omega)
      have HOW : Hid (w6.ownsRow w.heap.size 5 1 (.slice (some ⟨w5.heap.size, 0, none⟩) 4 4) 4 (bc ([kb] ++ be 3 Y.length))) := by rw [hlen] at hown; exact hown
      have HP6 := mkHid (HP5.out.below hb6)
      have HB6 : Hid (Below w.heap.size w w6) := HB5.out.trans (hb6.mono HB5.out.size)
      have c06 := HP6.out.c0
      have HSL : Hid _ := HP6.out.own.sl
      have HG : Hid (w.heap.size ≤ w5.heap.size) := HB5.out.size
      rw [hlen]
      clear hrow hb6 hown hlen HO HB5 HP5 c05 c0
      as_aux_lemma =>
      go_wp2_with ((at_builtin; refine wpList_append_bytes rfl (.tmp 28) (.tmp 30) rfl w.heap.size i0 Try.underlying25 hi hz0 hz1 hz2 (.slice (some ⟨w5.heap.size, 0, none⟩) 4 4) 4 (bc ([kb] ++ be 3 Y.length)) rfl HOW.out o Y.length c Y rfl rfl HSL.out.2 HSL.out.1 (by omega) HB6.out.size ?_; intro v' w7 hown hgrow; have HF : Hid (PutR m w (.returned (.tuple #[v', .int .i64 0])) w7) := ⟨v', by rw [hE0], by unfold By; rw [HLN.out, bc_append, List.length_append, show ([kb] ++ be 3 Y.length).length = 4 by simp [be_length]]; exact hown, HB6.out.grown hgrow HB6.out.size (by intro k hk; simp [Value.ownBlock] at hk; have := HG.out; omega)⟩; clear hown hgrow))
      go_ret2
      exact HF.out
    · have HF : Hid (PutR m w (.returned (.tuple #[.slice none 0 0, .int .i64 2])) w4) := putR_no HE.out (by decide) HB4.out
      clear HE HPB HPU
      go_wp2_with fail
      go_ret2
      exact HF.out
end Go.Proofs.Ytcchlicokglmnaa
