/- inbox: advance. -/
import Derived.Test.YtijndpjdmiljkaaGreatDoorIFil
namespace Go.Proofs.YtijndpjdmiljkaaGreatDoor
open Go.RowKit Go.Maps
set_option linter.unusedVariables false

theorem field70 (f : Nat → Option UInt8) (w : World) : (Instr.field 267 (.agg (cellL f).toArray) 0).run Tryz.prog w = .ok (.int .u64 (wdN (fun j => (f j).isSome) 64 : Nat)) w := by
  obtain ⟨cs, hcs⟩ : ∃ cs, (List.range 64).map (fun j => Value.int .u8 ((((f j).getD 0).toNat : Nat) : Int)) = cs := ⟨_, rfl⟩
  unfold cellL
  rw [hcs]
  generalize wdN (fun j => (f j).isSome) 64 = wk
  kernel_rfl
theorem bits_not (a : Nat) (ha : a < 18446744073709551616) : bits .xor .u64 (if IntKind.u64.signed = true then -1 else IntKind.u64.max) (a : Int) = ((18446744073709551615 - a : Nat) : Int) := by
  have e : (if IntKind.u64.signed = true then -1 else IntKind.u64.max) = ((18446744073709551615 : Nat) : Int) := by decide
  rw [e]
  have ha' : a % 2 ^ 64 = a := Nat.mod_eq_of_lt (by rw [two64]; exact ha)
  have hx : 18446744073709551615 ^^^ a = 18446744073709551615 - a := by
    apply Nat.eq_of_testBit_eq
    intro i
    rw [show 18446744073709551615 - a = 2 ^ 64 - (a + 1) by rw [two64]; omega, Nat.testBit_two_pow_sub_succ (by rw [two64]; exact ha), Nat.testBit_xor, show (18446744073709551615 : Nat) = 2 ^ 64 - 1 by decide, Nat.testBit_two_pow_sub_one]
    by_cases hi : i < 64
    · simp [hi]
    · simp [hi]
      exact Nat.testBit_lt_two_pow (Nat.lt_of_lt_of_le (by rw [two64]; exact ha) (Nat.pow_le_pow_right (by decide) (by omega : 64 ≤ i)))
  simp only [bits, BitVec.ofInt_natCast, BitVec.toNat_xor, BitVec.toNat_ofNat]
  rw [show IntKind.u64.bits = 64 from rfl, ha', show 18446744073709551615 % 2 ^ 64 = 18446744073709551615 by decide, hx]
  exact u64_wrap _ (by omega)
/-- E is where the bytes end that stand one behind the other from r on. -/
def Stop (V : Nat → Option UInt8) (r E : Nat) : Prop := r ≤ E ∧ (∀ p, r ≤ p → p < E → V p ≠ none) ∧ V E = none
theorem run_bits {V : Nat → Option UInt8} {r E q fr t wk : Nat} (hr : r = 64 * q + fr) (hfr : fr < 64) (hs : Stop V r E) (ht : t = min (E - r) (64 - fr)) (hw : wdN (fun j => (V (64 * q + j)).isSome) 64 = wk) :
    wk < 18446744073709551616 ∧ wk / 2 ^ fr < 18446744073709551616 ∧ t ≤ 64 ∧ (∀ i, i < t → (18446744073709551615 - wk / 2 ^ fr).testBit i = false) ∧ (t < 64 → (18446744073709551615 - wk / 2 ^ fr).testBit t = true) := by
  have h1 : wk < 18446744073709551616 := by rw [← hw]; exact wd_lt _
  have h2 : wk / 2 ^ fr < 18446744073709551616 := Nat.lt_of_le_of_lt (Nat.div_le_self _ _) h1
  have hb : ∀ i, (18446744073709551615 - wk / 2 ^ fr).testBit i = (decide (i < 64) && !(decide (fr + i < 64) && (V (64 * q + (fr + i))).isSome)) := by
    intro i
    rw [show 18446744073709551615 - wk / 2 ^ fr = 2 ^ 64 - (wk / 2 ^ fr + 1) by rw [two64]; omega, Nat.testBit_two_pow_sub_succ (by rw [two64]; exact h2), Nat.testBit_div_two_pow, Nat.add_comm i fr, ← hw, wdN_bit]
  obtain ⟨s1, s2, s3⟩ := hs
  refine ⟨h1, h2, by omega, fun i hi => ?_, fun h => ?_⟩
  · have := s2 (64 * q + (fr + i)) (by omega) (by omega)
    rw [hb, Option.isSome_iff_ne_none.2 this]
    simp
    omega
  · rw [hb]
    by_cases h3 : fr + t < 64
    · rw [show 64 * q + (fr + t) = E by omega, s3]
      simp [h]
    · simp [h, h3]

set_option maxRecDepth 100000 in
set_option maxHeartbeats 400000 in
theorem adv_c (b mb n R E : Nat) (V : Nat → Option UInt8) (pl hd rm lm rc : Int) (kn : Bool) (W : World) (hT : TbI W) (hS : Stop V R E) (hE : E ≤ 5000000000000000000)
    (hb : W.heap[b]? = some (.cells #[.map (some mb), .int .i64 pl, .int .i64 R, .int .i64 hd, .int .i64 rm, .int .i64 lm, .int .i64 rc, .bool kn] 201 (0, 0))) (hm : Mp W mb n V) :
    Calls Tryz.prog 218 #[.pointer (some ⟨b, 0, none⟩)] W fun e w' => e = .returned (.tuple #[]) ∧
      w'.heap[b]? = some (.cells #[.map (some mb), .int .i64 pl, .int .i64 E, .int .i64 hd, .int .i64 rm, .int .i64 lm, .int .i64 rc, .bool kn] 201 (0, 0)) ∧ Chg (fun j => j = b) W w' := by
  have hmb : mb ≠ b := by
    rintro rfl
    obtain ⟨D, ⟨es, ck, h1, _⟩, _⟩ := hm
    rw [hb] at h1
    simp at h1
  have hb0 : b ≠ 2 := by
    rintro rfl
    have := hT 0 (by decide)
    simp [World.cell?, hb] at this
  have HT : Aside _ := hT
  have HM : Aside (Mp W mb n V) := hm
  have HS : Aside _ := hS
  have HB : Aside _ := hb
  clear hT hm hS hb
  go_enter Tryz.func218, Tryz.ntmps218
  go_wp2
  go_loopg [] (E - R + 1) (fun kx wr => ∃ r : Nat, R ≤ r ∧ r ≤ E ∧ E - r + 1 ≤ kx ∧ Aside (wr.heap[b]? = some (.cells #[.map (some mb), .int .i64 pl, .int .i64 r, .int .i64 hd, .int .i64 rm, .int .i64 lm, .int .i64 rc, .bool kn] 201 (0, 0))) ∧ Aside (Chg (fun j => j = b) W wr))
  case atStart => exact ⟨R, Nat.le_refl _, HS.out.1, Nat.le_refl _, HB.out, Chg.refl _ _⟩
  case round =>
    obtain ⟨r, hRr, hrE, hkx, HBr, HGr⟩ := hrel
    obtain ⟨q, fr, hr, hfr⟩ : ∃ q fr, r = 64 * q + fr ∧ fr < 64 := ⟨r / 64, r % 64, by omega, by omega⟩
    obtain ⟨t, ht⟩ : ∃ t, t = min (E - r) (64 - fr) := ⟨_, rfl⟩
    obtain ⟨wk, hw⟩ : ∃ wk, wdN (fun j => (V (64 * q + j)).isSome) 64 = wk := ⟨_, rfl⟩
    obtain ⟨k1, k2, k3, k4, k5⟩ := run_bits hr hfr ⟨hrE, fun p h1 h2 => HS.out.2.1 p (by omega) h2, HS.out.2.2⟩ ht hw
    have hTr : TbI wr.drew := fun i hi => by
      have h0 := HT.out i hi
      exact (World.cell?_of_block (w := W) (a := ⟨2, i, none⟩) (HGr.out.2.2.2.2 2 (World.block_lt_of_cell? _ _ h0) (fun e => hb0 e.symm))).trans h0
    have HZ : Aside _ := tz_c _ t wr.drew hTr (Nat.lt_of_le_of_lt (Nat.sub_le _ _) (by decide)) k3 k4 k5
    have hMM : Mp W mb n V := HM.out
    have hl := ((hMM.kept (W' := wr.drew) (HGr.out.2.2.2.2 mb hMM.lt hmb)).look q (by omega))
    clear hMM
    have hfd : ∀ w, (Instr.field 267 (.agg (cellA V q).toArray) 0).run Tryz.prog w = .ok (.int .u64 wk) w := fun w => by rw [← hw]; exact field70 _ w
    generalize (cellA V q).toArray = cs at hl hfd
    have e1 : (r : Int).tmod 64 = (fr : Int) := by rw [Int.tmod_eq_emod_of_nonneg (by omega)]; omega
    have e2 : IntKind.i64.wrap ((r : Int) - (fr : Int)) = ((64 * q : Nat) : Int) := by rw [IntKind.wrap_i64]; omega
    have HX : Aside (bits .xor .u64 (if IntKind.u64.signed = true then -1 else IntKind.u64.max) ((wk : Int) / 2 ^ fr) = ((18446744073709551615 - wk / 2 ^ fr : Nat) : Int)) := by
      show _ = _
      rw [← bits_not _ k2]
      congr 1
    have c0 : wr.cell? ⟨b, 0, none⟩ = some (.map (some mb)) := by simp [World.cell?, HBr.out]
    have c2 : wr.cell? ⟨b, 2, none⟩ = some (.int .i64 r) := by simp [World.cell?, HBr.out]
    have f2 : wr.frozen? ⟨b, 2, none⟩ = false := by simp [World.frozen?, HBr.out]
    have HSS : Aside (wr.drew.cell? ⟨b, 0, none⟩ = some (.map (some mb)) ∧ wr.drew.cell? ⟨b, 2, none⟩ = some (.int .i64 r) ∧ (Instr.lookup 199 (.map (some mb)) (.int .i64 ((64 * q : Nat) : Int)) false).run Tryz.prog wr.drew = .ok (.agg cs) wr.drew) := ⟨c0, c2, hl⟩
    have i1 : IntKind.i64.wrap ((r : Int) + (t : Int)) = ((r + t : Nat) : Int) := by rw [IntKind.wrap_i64]; omega
    have HW : Aside ((wr.drew.setCell ⟨b, 2, none⟩ (.int .i64 ((r + t : Nat) : Int))).heap[b]? = some (.cells #[.map (some mb), .int .i64 pl, .int .i64 ((r + t : Nat) : Int), .int .i64 hd, .int .i64 rm, .int .i64 lm, .int .i64 rc, .bool kn] 201 (0, 0)) ∧ Chg (fun j => j = b) W (wr.drew.setCell ⟨b, 2, none⟩ (.int .i64 ((r + t : Nat) : Int)))) := by
      have hbd : wr.drew.heap[b]? = _ := HBr.out
      rw [setCell_eq_setRow wr.drew b 2 _ 201 (0, 0) _ hbd]
      refine ⟨?_, HGr.out.trans ⟨rfl, rfl, rfl, by simp, fun k hk hx => ?_⟩⟩
      · rw [setRow_heap _ b _ _ 201 (0, 0) hbd]
        simp
      · rw [setRow_other _ b k _ hx]
        rfl
    generalize ((64 * q : Nat) : Int) = ky at e2 hl HSS
    obtain ⟨rt, hrt⟩ : ∃ rt : Nat, rt = r + t := ⟨_, rfl⟩
    rw [← hrt] at i1 HW
    have HRT : Aside _ := hrt
    have HTT : Aside _ := ht
    have HRR : Aside _ := hr
    have HK5 : Aside _ := k5
    have HK4 : Aside _ := k4
    clear hl k4 k5 hTr HBr HGr hw hrt ht hr
    go_wp2_with fail
    go_region_held3 (fun w' => w'.cell? ⟨b, 0, none⟩ = some (.map (some mb)) ∧ w'.cell? ⟨b, 2, none⟩ = some (.int .i64 r) ∧ (Instr.lookup 199 (.map (some mb)) (.int .i64 ky) false).run Tryz.prog w' = .ok (.agg cs) w') (exact HSS.out) (first
      | (go_at_call 227; rw [HX.out]; refine Calls.mono HZ.out ?_; rintro e w3 ⟨rfl, rfl⟩))
    have d2 : wr.drew.cell? ⟨b, 2, none⟩ = some (.int .i64 r) := HSS.out.2.1
    have i2 : IntKind.i64.wrap ((fr : Int) + (t : Int)) = (fr : Int) + (t : Int) := by rw [IntKind.wrap_i64]; omega
    by_cases hc : fr + t < 64
    · have i3 : (fr : Int) + (t : Int) < 64 := by omega
      go_wp2
      have : rt = E := by have := HRT.out; have := HTT.out; have := HRR.out; omega
      subst this
      exact bodyPost_ret (results_none rfl _ _ _) rfl ⟨rfl, HW.out.1, HW.out.2⟩
    · have i3 : ¬ (fr : Int) + (t : Int) < 64 := by omega
      go_wp2
      have h1 := HRT.out
      have h2 := HTT.out
      have h3 := HRR.out
      go_roundg (E - rt + 1)
      case measure => omega
      case rel => exact ⟨rt, by omega, by omega, Nat.le_refl _, HW.out.1, HW.out.2⟩
end Go.Proofs.YtijndpjdmiljkaaGreatDoor
