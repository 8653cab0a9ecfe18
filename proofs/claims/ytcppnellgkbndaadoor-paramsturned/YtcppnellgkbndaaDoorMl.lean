/- params: lay: a number, a length and bytes behind bytes. -/
import Derived.Test.YtcppnellgkbndaaDoorMw
namespace Go.Proofs.YtcppnellgkbndaaDoor
open Go.ChangeShapes Go.WideShapes Go.ChangeAt Go.RowKit
set_option linter.unusedVariables false
set_option maxRecDepth 100000

theorem own_sl {B n : Nat} {w : World} {v : Value} {l : List UInt8} (h : w.ownsRow B 5 1 v n (bc l)) (hl : l.length = n) (hn : 0 < n) : ∃ g cap, v = .slice (some ⟨g, 0, none⟩) n cap ∧ Sl w (some ⟨g, 0, none⟩) l ∧ B ≤ g ∧ g < w.heap.size ∧ n ≤ cap := by
  obtain ⟨_, ⟨_, h0⟩ | ⟨g, cap, cur, rfl, k1, k2, k3, k4, k5, k6⟩⟩ := h
  · omega
  · exact ⟨g, cap, rfl, Sl_own k2 (by rw [hl]; rw [Nat.mul_one] at k6; exact k6), k1, lt_block k2, k3⟩
theorem own_mono {B B' n : Nat} {w : World} {v : Value} {xs : List Value} (h : w.ownsRow B 5 1 v n xs) (hB : B' ≤ B) : w.ownsRow B' 5 1 v n xs := by
  obtain ⟨a1, a2 | ⟨g, cap, cur, rfl, k1, k2⟩⟩ := h
  · exact ⟨a1, .inl a2⟩
  · exact ⟨a1, .inr ⟨g, cap, cur, rfl, Nat.le_trans hB k1, k2⟩⟩
theorem own_bel {B n : Nat} {w X : World} {v : Value} {xs : List Value} (h : w.ownsRow B 5 1 v n xs) (hb : Below w.heap.size w X) : X.ownsRow B 5 1 v n xs := by
  obtain ⟨a1, a2 | ⟨g, cap, cur, rfl, k1, k2, k3⟩⟩ := h
  · exact ⟨a1, .inl a2⟩
  · exact ⟨a1, .inr ⟨g, cap, cur, rfl, k1, (hb.block g (lt_block k2)).trans k2, k3⟩⟩
theorem bc_app (a b : List UInt8) : bc (a ++ b) = bc a ++ bc b := by simp [bc]
theorem res_ok {B : Nat} {w : World} {x : Value} {A : List UInt8} (h : Res B w x 0 A) : 0 < A.length ∧ w.ownsRow B 5 1 x A.length (bc A) := by
  rcases h with h | ⟨h, _⟩
  · exact h.2
  · exact absurd rfl h
set_option maxHeartbeats 1000000 in
theorem lay_core (ao : Option Addr) (LN cap : Nat) (num : Int) (vo : Option Addr) (vl A C : List UInt8) (VN AN CN vc : Nat) (w : World)
    (hp1 : Calls Tryd.prog 37 #[.slice ao LN cap, .int .i64 num] w fun e w' => ∃ x, e = .returned (.tuple #[x, .int .i64 0]) ∧ Res w.heap.size w' x 0 A ∧ Below w.heap.size w w')
    (HP2 : Aside (∀ (g cap1 : Nat) (X : World), Tb X → Sl X (some ⟨g, 0, none⟩) A → Calls Tryd.prog 37 #[.slice (some ⟨g, 0, none⟩) AN cap1, .int .i64 VN] X fun e w' => ∃ x, e = .returned (.tuple #[x, .int .i64 0]) ∧ Res X.heap.size w' x 0 C ∧ Below X.heap.size X w'))
    (HT : Aside (Tb w)) (HV : Aside (Sl w vo vl)) (HVN : Aside (vl.length = VN)) (HAN : Aside (A.length = AN)) (HCN : Aside (C.length = CN)) (HNIL : Aside (vo = none → VN = 0 ∧ vc = 0)) (HSZ : Aside (CN + VN ≤ 140737488355328)) :
    Calls Tryd.prog 21 #[.slice ao LN cap, .int .i64 num, .slice vo VN vc] w fun e w' => ∃ x, e = .returned x ∧ w'.ownsRow w.heap.size 5 1 x (CN + VN) (bc C ++ bc vl) ∧ 0 < CN ∧ Below w.heap.size w w' := by
  obtain ⟨i0, hi, hz0, hz1, hz2⟩ := info_parts info5
  go_enter Tryd.func21, Tryd.ntmps21
  go_wp2_with fail
  refine hp1.mono ?_
  rintro e W1 ⟨x, rfl, hres, hb1⟩
  obtain ⟨hA0, hown⟩ := res_ok hres
  obtain ⟨g, cap1, rfl, hsl, hg1, hg2, hg3⟩ := own_sl hown rfl hA0
  have hp2 := HP2.out g cap1 W1 (Tb_below HT.out hb1 (Tb_pos HT.out)) hsl
  have HB1 : Aside (Below w.heap.size w W1) := hb1
  rw [HAN.out]
  clear hres hown hb1 hsl hp1 HP2 hA0 hg1 hg2 hg3
  go_wp2_with fail
  refine hp2.mono ?_
  rintro e W2 ⟨x, rfl, hres, hb2⟩
  obtain ⟨hC0, hown⟩ := res_ok hres
  rw [HCN.out] at hown hC0
  obtain ⟨g2, cap2, rfl, hsl, hh1, hh2, hh3⟩ := own_sl hown HCN.out hC0
  have HO : Aside (W2.ownsRow W1.heap.size 5 1 (.slice (some ⟨g2, 0, none⟩) CN cap2) CN (bc C)) := hown
  have HB2 : Aside (Below W1.heap.size W1 W2) := hb2
  have HV2 : Aside (Sl W2 vo vl) := Sl_below (Sl_below HV.out HB1.out) hb2
  have HH : Aside (W1.heap.size ≤ g2) := hh1
  clear hres hown hb2 hsl hp2 hh1 hh2 hh3
  go_wp2_with ((at_builtin; refine wpList_append_bytes rfl (.tmp 20) (.tmp 21) rfl W1.heap.size i0 Tryd.underlying22 hi hz0 hz1 hz2 (.slice (some ⟨g2, 0, none⟩) CN cap2) CN (bc C) rfl HO.out vo VN vc vl rfl HVN.out HNIL.out HV2.out HSZ.out HB2.out.size ?_; intro v' w2 hown hgrow; have HO3 : Aside (w2.ownsRow W1.heap.size 5 1 v' (CN + VN) (bc C ++ bc vl)) := hown; have HG3 : Aside (W2.grownBy w2 (Value.slice (some ⟨g2, 0, none⟩) CN cap2).ownBlock) := hgrow; clear hown hgrow))
  go_ret
  refine ⟨v', rfl, own_mono HO3.out HB1.out.size, hC0, ?_⟩
  have h12 : Below w.heap.size w W2 := HB1.out.trans (HB2.out.mono HB1.out.size)
  refine h12.grown HG3.out h12.size ?_
  intro k hk
  have h1 := HB1.out.size
  have h2 := HH.out
  simp only [Value.ownBlock, Option.some.injEq] at hk
  omega
/-- What lay puts behind bytes. -/
def layB (num : Int) (v : List UInt8) : List UInt8 := enc (szN num) num ++ (enc (szN v.length) v.length ++ v)
theorem lay_c (ao : Option Addr) (l : List UInt8) (cap : Nat) (num : Int) (vo : Option Addr) (vl : List UInt8) (vc : Nat) (w : World) (ht : Tb w) (hs : Sl w ao l) (hv : Sl w vo vl) (hnil : vo = none → vl.length = 0 ∧ vc = 0) (hl : l.length ≤ 100000) (hvl : vl.length ≤ 1000) (n0 : 0 ≤ num) (n1 : num ≤ 1000) :
    Calls Tryd.prog 21 #[.slice ao l.length cap, .int .i64 num, .slice vo vl.length vc] w fun e w' => ∃ x, e = .returned x ∧ w'.ownsRow w.heap.size 5 1 x (l ++ layB num vl).length (bc (l ++ layB num vl)) ∧ 0 < (l ++ layB num vl).length ∧ Below w.heap.size w w' := by
  have hp1 := putv_any ao l cap num w ht hs (by omega)
  rw [vaE_ok (v := num) (by omega)] at hp1
  have a := szN_le num
  have b := szN_le vl.length
  have e1 : (l ++ enc (szN num) num).length = l.length + (szN num).toNat := by rw [List.length_append, enc_length]
  have e2 : ((l ++ enc (szN num) num) ++ enc (szN vl.length) vl.length).length = l.length + (szN num).toNat + (szN vl.length).toNat := by rw [List.length_append, e1, enc_length]
  have hX : ((l ++ enc (szN num) num) ++ enc (szN vl.length) vl.length) ++ vl = l ++ layB num vl := by simp [layB]
  refine (lay_core ao l.length cap num vo vl (l ++ enc (szN num) num) ((l ++ enc (szN num) num) ++ enc (szN vl.length) vl.length) vl.length _ _ vc w hp1 (fun g cap1 X h1 h2 => ?_) ht hv rfl rfl rfl hnil (by show _ ≤ _; omega)).mono ?_
  · have := putv_any (some ⟨g, 0, none⟩) (l ++ enc (szN num) num) cap1 vl.length X h1 h2 (by omega)
    rw [vaE_ok (v := (vl.length : Int)) (by omega)] at this
    exact this
  · rintro e w' ⟨x, rfl, h1, h2, h3⟩
    refine ⟨x, rfl, ?_, ?_, h3⟩
    · rw [← hX, bc_app _ vl, List.length_append (bs := vl)]; exact h1
    · rw [← hX, List.length_append (bs := vl)]; omega
end Go.Proofs.YtcppnellgkbndaaDoor
