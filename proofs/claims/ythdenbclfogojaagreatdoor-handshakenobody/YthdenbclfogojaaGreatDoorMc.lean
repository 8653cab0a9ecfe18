/- vault: mix, unmix, put, read. -/
import Derived.Test.YthdenbclfogojaaGreatDoorNob
import Derived.Laws.Bits64
import Derived.Laws.BitsLemmas
import Derived.Deep.RegionHeld3
namespace Go.Proofs.YthdenbclfogojaaGreatDoor
open Go.RowKit
set_option linter.unusedVariables false

theorem wrap_u64 (n : Int) : IntKind.u64.wrap n = n % 18446744073709551616 := by simp [IntKind.wrap, IntKind.bits, IntKind.signed]
theorem wrap_u8 (n : Int) : IntKind.u8.wrap n = n % 256 := by simp [IntKind.wrap, IntKind.bits, IntKind.signed]
theorem wraps_u64 (n : Int) (h₀ : 0 ≤ n) (h₁ : n < 2 ^ 64) : IntKind.u64.wrap n = n := by
  have : (2 : Int) ^ 64 = 18446744073709551616 := by decide
  rw [wrap_u64]
  omega
theorem two64 : (2 : Nat) ^ 64 = 18446744073709551616 := by decide
theorem bits_or (a b : Nat) (ha : a < 18446744073709551616) (hb : b < 18446744073709551616) : bits .or .u64 (a : Int) (b : Int) = ((a ||| b : Nat) : Int) :=
  (bits_nat .u64 64 (by decide) wraps_u64 a b (by rw [two64]; exact ha) (by rw [two64]; exact hb)).2
/-- xor, with a shift. -/
theorem xor_sh {z y k : Nat} (hz : z < M64) (hy : y < M64) : bits .xor .u64 (y : Int) ((z >>> k : Nat) : Int) = ((y ^^^ (z >>> k) : Nat) : Int) :=
  bits_xor_u64_nat y _ hy (Nat.lt_of_le_of_lt (Nat.shiftRight_le _ _) hz)
theorem mulw (z c : Nat) : IntKind.u64.wrap ((z : Int) * (c : Int)) = ((z * c % M64 : Nat) : Int) := by
  rw [wrap_u64, ← Int.natCast_mul]
  unfold M64
  omega
theorem sub1 {y : Nat} (h : y < M64) : IntKind.u64.wrap ((y : Int) - 1) = (((y + (M64 - 1)) % M64 : Nat) : Int) := by
  rw [wrap_u64]
  unfold M64 at *
  omega
theorem shr_nat (z k p : Nat) (hp : 2 ^ k = p) : ((z : Int) / (p : Int)) = ((z >>> k : Nat) : Int) := by
  rw [Nat.shiftRight_eq_div_pow, hp]
  exact (Int.natCast_ediv z p).symm

theorem mix_w (x x1 z1 s1 y1 z2 s2 y2 z3 s3 r : Int) (e1 : IntKind.u64.wrap (x + 1) = x1) (e2 : IntKind.u64.wrap (x1 * 11400714819323198485) = z1) (q1 : z1 / 1073741824 = s1) (e3 : bits .xor .u64 z1 s1 = y1) (e4 : IntKind.u64.wrap (y1 * 13787848793156543929) = z2)
    (q2 : z2 / 134217728 = s2) (e5 : bits .xor .u64 z2 s2 = y2) (e6 : IntKind.u64.wrap (y2 * 10723151780598845931) = z3) (q3 : z3 / 2147483648 = s3) (e7 : bits .xor .u64 z3 s3 = r) (w : World) : Calls Tryz.prog 51 #[.int .u64 x] w fun e w' => e = .returned (.int .u64 r) ∧ w' = w := by
  go_enter Tryz.func51, Tryz.ntmps51
  go_wp2
  go_ret
  exact ⟨rfl, rfl⟩
theorem mix_c (x : Nat) (w : World) : Calls Tryz.prog 51 #[.int .u64 (x : Int)] w fun e w' => e = .returned (.int .u64 (mixN x : Nat)) ∧ w' = w := by
  have a1 := mod_lt64 (x + 1)
  have a2 := mod_lt64 ((x + 1) % M64 * spread)
  have a3 := mod_lt64 (xs 30 ((x + 1) % M64 * spread % M64) * stir)
  have a4 := mod_lt64 (xs 27 (xs 30 ((x + 1) % M64 * spread % M64) * stir % M64) * blend)
  refine (mix_w (x : Int) (((x + 1) % M64 : Nat) : Int) (((x + 1) % M64 * spread % M64 : Nat) : Int) _ ((xs 30 ((x + 1) % M64 * spread % M64) : Nat) : Int) ((xs 30 ((x + 1) % M64 * spread % M64) * stir % M64 : Nat) : Int) _ ((xs 27 (xs 30 ((x + 1) % M64 * spread % M64) * stir % M64) : Nat) : Int) ((xs 27 (xs 30 ((x + 1) % M64 * spread % M64) * stir % M64) * blend % M64 : Nat) : Int) _ ((xs 31 (xs 27 (xs 30 ((x + 1) % M64 * spread % M64) * stir % M64) * blend % M64) : Nat) : Int)
    ?_ (mulw _ spread) (shr_nat _ 30 1073741824 rfl) (xor_sh a2 a2) (mulw _ stir) (shr_nat _ 27 134217728 rfl) (xor_sh a3 a3) (mulw _ blend) (shr_nat _ 31 2147483648 rfl) (xor_sh a4 a4) w).mono ?_
  · rw [wrap_u64]; unfold M64; omega
  · rintro e w' ⟨rfl, rfl⟩
    refine ⟨?_, rfl⟩
    rw [Nat.mod_mul_mod]
    rfl

theorem unmix_w (z s1 t1 a1 b1 z2 s2 t2 a2 b2 z3 s3 t3 a3 b3 p r : Int) (q1 : z / 2147483648 = s1) (e1 : bits .xor .u64 z s1 = a1) (q2 : z / 4611686018427387904 = t1) (e2 : bits .xor .u64 a1 t1 = b1) (e3 : IntKind.u64.wrap (b1 * 3573116690164977347) = z2)
    (q3 : z2 / 134217728 = s2) (e4 : bits .xor .u64 z2 s2 = a2) (q4 : z2 / 18014398509481984 = t2) (e5 : bits .xor .u64 a2 t2 = b2) (e6 : IntKind.u64.wrap (b2 * 10871156337175269513) = z3)
    (q5 : z3 / 1073741824 = s3) (e7 : bits .xor .u64 z3 s3 = a3) (q6 : z3 / 1152921504606846976 = t3) (e8 : bits .xor .u64 a3 t3 = b3) (e9 : IntKind.u64.wrap (b3 * 17428512612931826493) = p) (e10 : IntKind.u64.wrap (p - 1) = r) (w : World) : Calls Tryz.prog 86 #[.int .u64 z] w fun e w' => e = .returned (.int .u64 r) ∧ w' = w := by
  go_enter Tryz.func86, Tryz.ntmps86
  go_wp2
  go_ret
  exact ⟨rfl, rfl⟩
theorem unmix_c (z : Nat) (hz : z < M64) (w : World) : Calls Tryz.prog 86 #[.int .u64 (z : Int)] w fun e w' => e = .returned (.int .u64 (unmixN z : Nat)) ∧ w' = w := by
  have a2 := mod_lt64 (ux 31 z * unblend)
  have a3 := mod_lt64 (ux 27 (ux 31 z * unblend % M64) * unstir)
  have a4 := mod_lt64 (ux 30 (ux 27 (ux 31 z * unblend % M64) * unstir % M64) * gather)
  refine (unmix_w (z : Int) _ _ ((xs 31 z : Nat) : Int) ((ux 31 z : Nat) : Int) ((ux 31 z * unblend % M64 : Nat) : Int) _ _ ((xs 27 (ux 31 z * unblend % M64) : Nat) : Int) ((ux 27 (ux 31 z * unblend % M64) : Nat) : Int) ((ux 27 (ux 31 z * unblend % M64) * unstir % M64 : Nat) : Int) _ _ ((xs 30 (ux 27 (ux 31 z * unblend % M64) * unstir % M64) : Nat) : Int) ((ux 30 (ux 27 (ux 31 z * unblend % M64) * unstir % M64) : Nat) : Int) ((ux 30 (ux 27 (ux 31 z * unblend % M64) * unstir % M64) * gather % M64 : Nat) : Int) ((unmixN z : Nat) : Int)
    (shr_nat _ 31 2147483648 rfl) (xor_sh hz hz) (shr_nat _ 62 4611686018427387904 rfl) (xor_sh hz (xs_lt hz)) (mulw _ unblend) (shr_nat _ 27 134217728 rfl) (xor_sh a2 a2) (shr_nat _ 54 18014398509481984 rfl) (xor_sh a2 (xs_lt a2)) (mulw _ unstir) (shr_nat _ 30 1073741824 rfl) (xor_sh a3 a3) (shr_nat _ 60 1152921504606846976 rfl) (xor_sh a3 (xs_lt a3)) (mulw _ gather) ?_ w)
  exact sub1 a4

theorem or_add (a x : Nat) (hx : x < 256) : a * 256 ||| x = a * 256 + x := by
  have := Nat.two_pow_add_eq_or_of_lt (i := 8) (b := x) (by simpa using hx) a
  rw [Nat.mul_comm a 256]
  exact this.symm
theorem val_snoc (b : List UInt8) (x : UInt8) : val (b ++ [x]) = val b * 256 + x.toNat := by simp [val]
set_option maxHeartbeats 400000 in
theorem read_c (b off cap : Nat) (L : List UInt8) (hL : L.length = 8) (w : World) (hc : ∀ j (h : j < L.length), w.cell? ⟨b, off + j, none⟩ = some (.int .u8 (L[j].toNat : Int))) :
    Calls Tryz.prog 87 #[.slice (some ⟨b, off, none⟩) 8 cap] w fun e w' => e = .returned (.int .u64 (val L : Nat)) ∧ w' = w := by
  have HC : Aside _ := hc
  have HL : Aside _ := hL
  clear hc hL
  go_enter Tryz.func87, Tryz.ntmps87
  go_wp2
  go_loopg [2, 7] 9 (fun kx s2 s7 wr => ∃ k : Nat, s7 = .int .i64 k ∧ s2 = .int .u64 (val (L.take k) : Nat) ∧ k ≤ 8 ∧ 8 - k ≤ kx ∧ wr = w)
  case atStart => exact ⟨0, rfl, rfl, by omega, by omega, rfl⟩
  case round =>
    obtain ⟨k, rfl, rfl, hk, hg, rfl⟩ := hrel
    by_cases hlt : k < 8
    · have hx := HC.out k (by have := HL.out; omega)
      have hv1 : val (L.take k) < 72057594037927936 := by
        have := val_lt_aux (L.take k) 0
        have hl : (L.take k).length = k := by have := HL.out; simp; omega
        rw [hl] at this
        have h2 : 256 ^ k ≤ 256 ^ 7 := Nat.pow_le_pow_right (by decide) (by omega)
        simp only [Nat.zero_add, Nat.one_mul] at this
        exact Nat.lt_of_lt_of_le this h2
      have HS : Aside _ := val_snoc (L.take k) (L[k]'(by have := HL.out; omega))
      rw [(List.take_succ_eq_append_getElem (by have := HL.out; omega)).symm] at HS
      have hb := (L[k]'(by have := HL.out; omega)).toNat_lt
      generalize hz : val (L.take k) = z at *
      generalize (L[k]'(by have := HL.out; omega)).toNat = x at *
      have HS' : Aside _ := HS.out.symm
      have e1 : IntKind.u64.wrap ((z : Int) * 256) = ((z * 256 : Nat) : Int) := by rw [wrap_u64]; omega
      have e2 := bits_or (z * 256) x (by omega) (by omega)
      rw [or_add z x hb] at e2
      obtain ⟨z', hz'⟩ : ∃ z' : Int, ((z * 256 : Nat) : Int) = z' := ⟨_, rfl⟩
      obtain ⟨r', hr'⟩ : ∃ r' : Int, ((z * 256 + x : Nat) : Int) = r' := ⟨_, rfl⟩
      rw [hz'] at e1 e2
      rw [hr'] at e2
      have HR : Aside _ := hr'
      have e3 : IntKind.u64.wrap (x : Int) = (x : Int) := by rw [wrap_u64]; omega
      have i1 : (k : Int) < 8 := by omega
      have e4 : IntKind.i64.wrap ((k : Int) + 1) = (k : Int) + 1 := by rw [IntKind.wrap_i64]; omega
      clear hz' hr' hv1 hb HC HL
      go_wp2
      go_roundg (8 - (k + 1))
      case measure => omega
      case rel => exact ⟨k + 1, by simp, by rw [← HR.out, HS'.out], by omega, Nat.le_refl _, rfl⟩
    · obtain rfl : k = 8 := by omega
      have hq : L.take 8 = L := by rw [← HL.out]; exact List.take_length
      go_wp2
      go_ret
      exact ⟨by rw [hq]; rfl, rfl⟩

/-- Row H with k bytes of be8 z put from o on. -/
def putL (H : List UInt8) (o z k : Nat) : List UInt8 := H.take o ++ (be8 z).take k ++ H.drop (o + k)
theorem putL_len {H : List UInt8} {o z k : Nat} (hH : H.length = 16) (ho : o ≤ 8) (hk : k ≤ 8) : (putL H o z k).length = 16 := by
  simp [putL, be8_len, hH]; omega
theorem putL_set {H : List UInt8} {o z k : Nat} (hH : H.length = 16) (ho : o ≤ 8) (hk : k < 8) : putL H o z (k + 1) = (putL H o z k).set (o + k) ((be8 z)[k]'(by rw [be8_len]; exact hk)) := by
  have hl : (H.take o ++ (be8 z).take k).length = o + k := by simp [be8_len, hH]; omega
  have e := List.take_succ_eq_append_getElem (l := be8 z) (i := k) (by rw [be8_len]; exact hk)
  unfold putL
  rw [List.set_append_right _ _ (by omega), hl, Nat.sub_self, List.drop_eq_getElem_cons (by omega : o + k < H.length), List.set_cons_zero, e]
  simp only [List.append_assoc, List.cons_append, List.nil_append, Nat.add_assoc]
theorem hl_set (H : List UInt8) (i : Nat) (x : UInt8) : hl (H.set i x) = (hl H).set i (.int .u8 (x.toNat : Int)) := by simp [hl, List.map_set]
theorem be8_at (z k : Nat) (hk : k < 8) : (((be8 z)[k]'(by rw [be8_len]; exact hk)).toNat : Int) = IntKind.u8.wrap ((z : Int) / ((2 ^ (8 * (7 - k)) : Nat) : Int)) := by
  rw [wrap_u8]
  simp only [be8, List.getElem_map, List.getElem_range, UInt8.toNat_ofNat', Nat.shiftRight_eq_div_pow]
  rw [← Int.natCast_ediv]
  generalize z / 2 ^ (8 * (7 - k)) = q
  omega
/-- Only block b has turned. -/
def Chg (X : Nat → Prop) (w w' : World) : Prop := w'.os = w.os ∧ w'.tape = w.tape ∧ w'.output = w.output ∧ w.heap.size ≤ w'.heap.size ∧ ∀ k, k < w.heap.size → ¬ X k → w'.heap[k]? = w.heap[k]?
theorem Chg.refl (X : Nat → Prop) (w : World) : Chg X w w := ⟨rfl, rfl, rfl, Nat.le_refl _, fun _ _ _ => rfl⟩
theorem Chg.trans {X : Nat → Prop} {a b c : World} (h : Chg X a b) (k : Chg X b c) : Chg X a c :=
  ⟨k.1.trans h.1, k.2.1.trans h.2.1, k.2.2.1.trans h.2.2.1, Nat.le_trans h.2.2.2.1 k.2.2.2.1, fun j hj hx => (k.2.2.2.2 j (Nat.lt_of_lt_of_le hj h.2.2.2.1) hx).trans (h.2.2.2.2 j hj hx)⟩
theorem Chg.below {X : Nat → Prop} {n : Nat} {a b c : World} (h : Below n a b) (hn : n ≤ b.heap.size) (k : Chg X b c) (hX : ∀ j, X j → n ≤ j) : Below n a c :=
  ⟨k.1.trans h.os, k.2.1.trans h.tape, k.2.2.1.trans h.output, Nat.le_trans h.size k.2.2.2.1, fun j hj => (k.2.2.2.2 j (by omega) (fun hx => by have := hX j hx; omega)).trans (h.block j hj)⟩

set_option maxRecDepth 100000 in
set_option maxHeartbeats 1000000 in
theorem put0_c (b cap z : Nat) (H : List UInt8) (hH : H.length = 16) (hz : z < M64) (w : World) (hb : w.heap[b]? = some (.cells (hl H).toArray 29 (0, 0))) :
    Calls Tryz.prog 50 #[.slice (some ⟨b, 0, none⟩) 8 cap, .int .u64 (z : Int)] w fun e w' => e = .returned (.tuple #[]) ∧ w'.heap[b]? = some (.cells (hl (putL H 0 z 8)).toArray 29 (0, 0)) ∧ Chg (fun j => j = b) w w' := by
  have HB : Aside _ := hb
  have HH : Aside _ := hH
  clear hb hH
  have HA : Aside _ := be8_at z
  obtain ⟨zi, hzi⟩ : ∃ zi : Int, (z : Int) = zi := ⟨_, rfl⟩
  have hz0 : 0 ≤ zi := by omega
  have hz1 : zi < 18446744073709551616 := by unfold M64 at hz; omega
  rw [hzi] at HA ⊢
  clear hz hzi
  go_enter Tryz.func50, Tryz.ntmps50
  go_wp2
  go_loopg [7] 9 (fun kx s7 wr => ∃ k : Nat, s7 = .int .i64 k ∧ k ≤ 8 ∧ 8 - k ≤ kx ∧ Aside (wr.heap[b]? = some (.cells (hl (putL H 0 z k)).toArray 29 (0, 0))) ∧ Aside (Chg (fun j => j = b) w wr))
  case atStart => exact ⟨0, rfl, by omega, by omega, by have := HB.out; show _ = _; simpa [putL] using this, Chg.refl _ _⟩
  case round =>
    obtain ⟨k, rfl, hk, hg, HK, HG⟩ := hrel
    by_cases hlt : k < 8
    · have HL : Aside _ := putL_len (z := z) HH.out (show 0 ≤ 8 by omega) hk
      have HV : Aside _ := HA.out k hlt
      have HS : Aside _ := putL_set (z := z) HH.out (show 0 ≤ 8 by omega) hlt
      have hc : ∃ v, wr.cell? ⟨b, 0 + k, none⟩ = some v := by
        have h1 : 0 + k < (hl (putL H 0 z k)).length := by rw [hl_len, HL.out]; omega
        refine ⟨(hl (putL H 0 z k))[0 + k], ?_⟩
        simp [World.cell?, HK.out]
      obtain ⟨v, hc⟩ := hc
      have hf : wr.frozen? ⟨b, 0 + k, none⟩ = false := by simp [World.frozen?, HK.out]
      have HN : Aside (∀ x : Int, x = (((be8 z)[k]'(by rw [be8_len]; exact hlt)).toNat : Int) → (wr.setCell ⟨b, 0 + k, none⟩ (.int .u8 x)).heap[b]? = some (.cells (hl (putL H 0 z (k + 1))).toArray 29 (0, 0)) ∧ Chg (fun j => j = b) w (wr.setCell ⟨b, 0 + k, none⟩ (.int .u8 x))) := by
        rintro x rfl
        rw [setCell_eq_setRow wr b (0 + k) _ 29 (0, 0) _ HK.out]
        refine ⟨?_, HG.out.trans ⟨rfl, rfl, rfl, by simp, fun j hj hx => setRow_other _ _ _ _ (fun e => hx e)⟩⟩
        rw [setRow_heap _ _ _ _ 29 (0, 0) HK.out, HS.out, hl_set]
        simp
      rcases (show k = 0 ∨ k = 1 ∨ k = 2 ∨ k = 3 ∨ k = 4 ∨ k = 5 ∨ k = 6 ∨ k = 7 by omega) with rfl | rfl | rfl | rfl | rfl | rfl | rfl | rfl
      · obtain ⟨xv, hxv, HX⟩ : ∃ xv : Int, zi / 72057594037927936 = xv ∧ Aside (xv = (((be8 z)[0]'(by rw [be8_len]; omega)).toNat : Int)) := ⟨_, rfl, by have := HV.out; rw [wrap_u8] at this; show _ = _; rw [this]; simp; try omega⟩
        have HM : Aside _ := HN.out xv HX.out
        have hc' : wr.cell? ⟨b, 0, none⟩ = some v := hc
        have hf' : wr.frozen? ⟨b, 0, none⟩ = false := hf
        clear hc hf
        clear HS HL HN HV HX
        go_wp2
        go_roundg (8 - 1)
        case measure => omega
        case rel => exact ⟨1, rfl, by omega, by omega, HM.out.1, HM.out.2⟩
      · obtain ⟨xv, hxv, HX⟩ : ∃ xv : Int, zi / 281474976710656 % 256 = xv ∧ Aside (xv = (((be8 z)[1]'(by rw [be8_len]; omega)).toNat : Int)) := ⟨_, rfl, by have := HV.out; rw [wrap_u8] at this; show _ = _; rw [this]; simp; try omega⟩
        have HM : Aside _ := HN.out xv HX.out
        have hc' : wr.cell? ⟨b, 1, none⟩ = some v := hc
        have hf' : wr.frozen? ⟨b, 1, none⟩ = false := hf
        clear hc hf
        clear HS HL HN HV HX
        go_wp2
        go_roundg (8 - 2)
        case measure => omega
        case rel => exact ⟨2, rfl, by omega, by omega, HM.out.1, HM.out.2⟩
      · obtain ⟨xv, hxv, HX⟩ : ∃ xv : Int, zi / 1099511627776 % 256 = xv ∧ Aside (xv = (((be8 z)[2]'(by rw [be8_len]; omega)).toNat : Int)) := ⟨_, rfl, by have := HV.out; rw [wrap_u8] at this; show _ = _; rw [this]; simp; try omega⟩
        have HM : Aside _ := HN.out xv HX.out
        have hc' : wr.cell? ⟨b, 2, none⟩ = some v := hc
        have hf' : wr.frozen? ⟨b, 2, none⟩ = false := hf
        clear hc hf
        clear HS HL HN HV HX
        go_wp2
        go_roundg (8 - 3)
        case measure => omega
        case rel => exact ⟨3, rfl, by omega, by omega, HM.out.1, HM.out.2⟩
      · obtain ⟨xv, hxv, HX⟩ : ∃ xv : Int, zi / 4294967296 % 256 = xv ∧ Aside (xv = (((be8 z)[3]'(by rw [be8_len]; omega)).toNat : Int)) := ⟨_, rfl, by have := HV.out; rw [wrap_u8] at this; show _ = _; rw [this]; simp; try omega⟩
        have HM : Aside _ := HN.out xv HX.out
        have hc' : wr.cell? ⟨b, 3, none⟩ = some v := hc
        have hf' : wr.frozen? ⟨b, 3, none⟩ = false := hf
        clear hc hf
        clear HS HL HN HV HX
        go_wp2
        go_roundg (8 - 4)
        case measure => omega
        case rel => exact ⟨4, rfl, by omega, by omega, HM.out.1, HM.out.2⟩
      · obtain ⟨xv, hxv, HX⟩ : ∃ xv : Int, zi / 16777216 % 256 = xv ∧ Aside (xv = (((be8 z)[4]'(by rw [be8_len]; omega)).toNat : Int)) := ⟨_, rfl, by have := HV.out; rw [wrap_u8] at this; show _ = _; rw [this]; simp; try omega⟩
        have HM : Aside _ := HN.out xv HX.out
        have hc' : wr.cell? ⟨b, 4, none⟩ = some v := hc
        have hf' : wr.frozen? ⟨b, 4, none⟩ = false := hf
        clear hc hf
        clear HS HL HN HV HX
        go_wp2
        go_roundg (8 - 5)
        case measure => omega
        case rel => exact ⟨5, rfl, by omega, by omega, HM.out.1, HM.out.2⟩
      · obtain ⟨xv, hxv, HX⟩ : ∃ xv : Int, zi / 65536 % 256 = xv ∧ Aside (xv = (((be8 z)[5]'(by rw [be8_len]; omega)).toNat : Int)) := ⟨_, rfl, by have := HV.out; rw [wrap_u8] at this; show _ = _; rw [this]; simp; try omega⟩
        have HM : Aside _ := HN.out xv HX.out
        have hc' : wr.cell? ⟨b, 5, none⟩ = some v := hc
        have hf' : wr.frozen? ⟨b, 5, none⟩ = false := hf
        clear hc hf
        clear HS HL HN HV HX
        go_wp2
        go_roundg (8 - 6)
        case measure => omega
        case rel => exact ⟨6, rfl, by omega, by omega, HM.out.1, HM.out.2⟩
      · obtain ⟨xv, hxv, HX⟩ : ∃ xv : Int, zi / 256 % 256 = xv ∧ Aside (xv = (((be8 z)[6]'(by rw [be8_len]; omega)).toNat : Int)) := ⟨_, rfl, by have := HV.out; rw [wrap_u8] at this; show _ = _; rw [this]; simp; try omega⟩
        have HM : Aside _ := HN.out xv HX.out
        have hc' : wr.cell? ⟨b, 6, none⟩ = some v := hc
        have hf' : wr.frozen? ⟨b, 6, none⟩ = false := hf
        clear hc hf
        clear HS HL HN HV HX
        go_wp2
        go_roundg (8 - 7)
        case measure => omega
        case rel => exact ⟨7, rfl, by omega, by omega, HM.out.1, HM.out.2⟩
      · obtain ⟨xv, hxv, HX⟩ : ∃ xv : Int, zi % 256 = xv ∧ Aside (xv = (((be8 z)[7]'(by rw [be8_len]; omega)).toNat : Int)) := ⟨_, rfl, by have := HV.out; rw [wrap_u8] at this; show _ = _; rw [this]; simp; try omega⟩
        have HM : Aside _ := HN.out xv HX.out
        have hc' : wr.cell? ⟨b, 7, none⟩ = some v := hc
        have hf' : wr.frozen? ⟨b, 7, none⟩ = false := hf
        clear hc hf
        clear HS HL HN HV HX
        go_wp2
        go_roundg (8 - 8)
        case measure => omega
        case rel => exact ⟨8, rfl, by omega, by omega, HM.out.1, HM.out.2⟩
    · obtain rfl : k = 8 := by omega
      go_wp2
      exact bodyPost_end (results_none rfl _ _ _) rfl ⟨rfl, HK.out, HG.out⟩

set_option maxRecDepth 100000 in
set_option maxHeartbeats 1000000 in
theorem put8_c (b cap z : Nat) (H : List UInt8) (hH : H.length = 16) (hz : z < M64) (w : World) (hb : w.heap[b]? = some (.cells (hl H).toArray 29 (0, 0))) :
    Calls Tryz.prog 50 #[.slice (some ⟨b, 8, none⟩) 8 cap, .int .u64 (z : Int)] w fun e w' => e = .returned (.tuple #[]) ∧ w'.heap[b]? = some (.cells (hl (putL H 8 z 8)).toArray 29 (0, 0)) ∧ Chg (fun j => j = b) w w' := by
  have HB : Aside _ := hb
  have HH : Aside _ := hH
  clear hb hH
  have HA : Aside _ := be8_at z
  obtain ⟨zi, hzi⟩ : ∃ zi : Int, (z : Int) = zi := ⟨_, rfl⟩
  have hz0 : 0 ≤ zi := by omega
  have hz1 : zi < 18446744073709551616 := by unfold M64 at hz; omega
  rw [hzi] at HA ⊢
  clear hz hzi
  go_enter Tryz.func50, Tryz.ntmps50
  go_wp2
  go_loopg [7] 9 (fun kx s7 wr => ∃ k : Nat, s7 = .int .i64 k ∧ k ≤ 8 ∧ 8 - k ≤ kx ∧ Aside (wr.heap[b]? = some (.cells (hl (putL H 8 z k)).toArray 29 (0, 0))) ∧ Aside (Chg (fun j => j = b) w wr))
  case atStart => exact ⟨0, rfl, by omega, by omega, by have := HB.out; show _ = _; simpa [putL] using this, Chg.refl _ _⟩
  case round =>
    obtain ⟨k, rfl, hk, hg, HK, HG⟩ := hrel
    by_cases hlt : k < 8
    · have HL : Aside _ := putL_len (z := z) HH.out (show 8 ≤ 8 by omega) hk
      have HV : Aside _ := HA.out k hlt
      have HS : Aside _ := putL_set (z := z) HH.out (show 8 ≤ 8 by omega) hlt
      have hc : ∃ v, wr.cell? ⟨b, 8 + k, none⟩ = some v := by
        have h1 : 8 + k < (hl (putL H 8 z k)).length := by rw [hl_len, HL.out]; omega
        refine ⟨(hl (putL H 8 z k))[8 + k], ?_⟩
        simp [World.cell?, HK.out]
      obtain ⟨v, hc⟩ := hc
      have hf : wr.frozen? ⟨b, 8 + k, none⟩ = false := by simp [World.frozen?, HK.out]
      have HN : Aside (∀ x : Int, x = (((be8 z)[k]'(by rw [be8_len]; exact hlt)).toNat : Int) → (wr.setCell ⟨b, 8 + k, none⟩ (.int .u8 x)).heap[b]? = some (.cells (hl (putL H 8 z (k + 1))).toArray 29 (0, 0)) ∧ Chg (fun j => j = b) w (wr.setCell ⟨b, 8 + k, none⟩ (.int .u8 x))) := by
        rintro x rfl
        rw [setCell_eq_setRow wr b (8 + k) _ 29 (0, 0) _ HK.out]
        refine ⟨?_, HG.out.trans ⟨rfl, rfl, rfl, by simp, fun j hj hx => setRow_other _ _ _ _ (fun e => hx e)⟩⟩
        rw [setRow_heap _ _ _ _ 29 (0, 0) HK.out, HS.out, hl_set]
        simp
      rcases (show k = 0 ∨ k = 1 ∨ k = 2 ∨ k = 3 ∨ k = 4 ∨ k = 5 ∨ k = 6 ∨ k = 7 by omega) with rfl | rfl | rfl | rfl | rfl | rfl | rfl | rfl
      · obtain ⟨xv, hxv, HX⟩ : ∃ xv : Int, zi / 72057594037927936 = xv ∧ Aside (xv = (((be8 z)[0]'(by rw [be8_len]; omega)).toNat : Int)) := ⟨_, rfl, by have := HV.out; rw [wrap_u8] at this; show _ = _; rw [this]; simp; try omega⟩
        have HM : Aside _ := HN.out xv HX.out
        have hc' : wr.cell? ⟨b, 8, none⟩ = some v := hc
        have hf' : wr.frozen? ⟨b, 8, none⟩ = false := hf
        clear hc hf
        clear HS HL HN HV HX
        go_wp2
        go_roundg (8 - 1)
        case measure => omega
        case rel => exact ⟨1, rfl, by omega, by omega, HM.out.1, HM.out.2⟩
      · obtain ⟨xv, hxv, HX⟩ : ∃ xv : Int, zi / 281474976710656 % 256 = xv ∧ Aside (xv = (((be8 z)[1]'(by rw [be8_len]; omega)).toNat : Int)) := ⟨_, rfl, by have := HV.out; rw [wrap_u8] at this; show _ = _; rw [this]; simp; try omega⟩
        have HM : Aside _ := HN.out xv HX.out
        have hc' : wr.cell? ⟨b, 9, none⟩ = some v := hc
        have hf' : wr.frozen? ⟨b, 9, none⟩ = false := hf
        clear hc hf
        clear HS HL HN HV HX
        go_wp2
        go_roundg (8 - 2)
        case measure => omega
        case rel => exact ⟨2, rfl, by omega, by omega, HM.out.1, HM.out.2⟩
      · obtain ⟨xv, hxv, HX⟩ : ∃ xv : Int, zi / 1099511627776 % 256 = xv ∧ Aside (xv = (((be8 z)[2]'(by rw [be8_len]; omega)).toNat : Int)) := ⟨_, rfl, by have := HV.out; rw [wrap_u8] at this; show _ = _; rw [this]; simp; try omega⟩
        have HM : Aside _ := HN.out xv HX.out
        have hc' : wr.cell? ⟨b, 10, none⟩ = some v := hc
        have hf' : wr.frozen? ⟨b, 10, none⟩ = false := hf
        clear hc hf
        clear HS HL HN HV HX
        go_wp2
        go_roundg (8 - 3)
        case measure => omega
        case rel => exact ⟨3, rfl, by omega, by omega, HM.out.1, HM.out.2⟩
      · obtain ⟨xv, hxv, HX⟩ : ∃ xv : Int, zi / 4294967296 % 256 = xv ∧ Aside (xv = (((be8 z)[3]'(by rw [be8_len]; omega)).toNat : Int)) := ⟨_, rfl, by have := HV.out; rw [wrap_u8] at this; show _ = _; rw [this]; simp; try omega⟩
        have HM : Aside _ := HN.out xv HX.out
        have hc' : wr.cell? ⟨b, 11, none⟩ = some v := hc
        have hf' : wr.frozen? ⟨b, 11, none⟩ = false := hf
        clear hc hf
        clear HS HL HN HV HX
        go_wp2
        go_roundg (8 - 4)
        case measure => omega
        case rel => exact ⟨4, rfl, by omega, by omega, HM.out.1, HM.out.2⟩
      · obtain ⟨xv, hxv, HX⟩ : ∃ xv : Int, zi / 16777216 % 256 = xv ∧ Aside (xv = (((be8 z)[4]'(by rw [be8_len]; omega)).toNat : Int)) := ⟨_, rfl, by have := HV.out; rw [wrap_u8] at this; show _ = _; rw [this]; simp; try omega⟩
        have HM : Aside _ := HN.out xv HX.out
        have hc' : wr.cell? ⟨b, 12, none⟩ = some v := hc
        have hf' : wr.frozen? ⟨b, 12, none⟩ = false := hf
        clear hc hf
        clear HS HL HN HV HX
        go_wp2
        go_roundg (8 - 5)
        case measure => omega
        case rel => exact ⟨5, rfl, by omega, by omega, HM.out.1, HM.out.2⟩
      · obtain ⟨xv, hxv, HX⟩ : ∃ xv : Int, zi / 65536 % 256 = xv ∧ Aside (xv = (((be8 z)[5]'(by rw [be8_len]; omega)).toNat : Int)) := ⟨_, rfl, by have := HV.out; rw [wrap_u8] at this; show _ = _; rw [this]; simp; try omega⟩
        have HM : Aside _ := HN.out xv HX.out
        have hc' : wr.cell? ⟨b, 13, none⟩ = some v := hc
        have hf' : wr.frozen? ⟨b, 13, none⟩ = false := hf
        clear hc hf
        clear HS HL HN HV HX
        go_wp2
        go_roundg (8 - 6)
        case measure => omega
        case rel => exact ⟨6, rfl, by omega, by omega, HM.out.1, HM.out.2⟩
      · obtain ⟨xv, hxv, HX⟩ : ∃ xv : Int, zi / 256 % 256 = xv ∧ Aside (xv = (((be8 z)[6]'(by rw [be8_len]; omega)).toNat : Int)) := ⟨_, rfl, by have := HV.out; rw [wrap_u8] at this; show _ = _; rw [this]; simp; try omega⟩
        have HM : Aside _ := HN.out xv HX.out
        have hc' : wr.cell? ⟨b, 14, none⟩ = some v := hc
        have hf' : wr.frozen? ⟨b, 14, none⟩ = false := hf
        clear hc hf
        clear HS HL HN HV HX
        go_wp2
        go_roundg (8 - 7)
        case measure => omega
        case rel => exact ⟨7, rfl, by omega, by omega, HM.out.1, HM.out.2⟩
      · obtain ⟨xv, hxv, HX⟩ : ∃ xv : Int, zi % 256 = xv ∧ Aside (xv = (((be8 z)[7]'(by rw [be8_len]; omega)).toNat : Int)) := ⟨_, rfl, by have := HV.out; rw [wrap_u8] at this; show _ = _; rw [this]; simp; try omega⟩
        have HM : Aside _ := HN.out xv HX.out
        have hc' : wr.cell? ⟨b, 15, none⟩ = some v := hc
        have hf' : wr.frozen? ⟨b, 15, none⟩ = false := hf
        clear hc hf
        clear HS HL HN HV HX
        go_wp2
        go_roundg (8 - 8)
        case measure => omega
        case rel => exact ⟨8, rfl, by omega, by omega, HM.out.1, HM.out.2⟩
    · obtain rfl : k = 8 := by omega
      go_wp2
      exact bodyPost_end (results_none rfl _ _ _) rfl ⟨rfl, HK.out, HG.out⟩
end Go.Proofs.YthdenbclfogojaaGreatDoor
