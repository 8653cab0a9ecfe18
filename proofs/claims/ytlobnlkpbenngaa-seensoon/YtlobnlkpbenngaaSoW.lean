/- SeenSoon, the walk. -/
import Derived.Test.YtlobnlkpbenngaaNew
import Derived.Laws.Bits128
namespace Go.Proofs.YtlobnlkpbenngaaR
open Go.RowKit Go.Shelf Go.Lib
set_option linter.unusedVariables false

theorem i64_and16 (n : Int) : bits .and .i64 n 65535 = n % 65536 := by
  have h127 : (BitVec.ofInt 64 65535).toNat = 2 ^ 16 - 1 := by decide
  have key : (BitVec.ofInt 64 n &&& BitVec.ofInt 64 65535).toNat = (n % ((2 ^ 64 : Nat) : Int)).toNat % 2 ^ 16 := by
    rw [BitVec.toNat_and, BitVec.toNat_ofInt, h127, Nat.and_two_pow_sub_one_eq_mod]
  show IntKind.i64.wrap ((BitVec.ofInt 64 n &&& BitVec.ofInt 64 65535).toNat : Nat) = n % 65536
  rw [key, IntKind.wrap_i64]
  omega
theorem i64_and20 (n : Int) : bits .and .i64 n 1048575 = n % 1048576 := by
  have h127 : (BitVec.ofInt 64 1048575).toNat = 2 ^ 20 - 1 := by decide
  have key : (BitVec.ofInt 64 n &&& BitVec.ofInt 64 1048575).toNat = (n % ((2 ^ 64 : Nat) : Int)).toNat % 2 ^ 20 := by
    rw [BitVec.toNat_and, BitVec.toNat_ofInt, h127, Nat.and_two_pow_sub_one_eq_mod]
  show IntKind.i64.wrap ((BitVec.ofInt 64 n &&& BitVec.ofInt 64 1048575).toNat : Nat) = n % 1048576
  rw [key, IntKind.wrap_i64]
  omega

/-- What is due, by when the first came that waits. -/
def Tm (dl f T : Int) : Prop := (f = -1 ∧ T = -1) ∨ (0 ≤ f ∧ f ≤ T ∧ T ≤ f + dl ∧ T ≤ 1125899906842624)

/-- What stands between the rounds of SeenSoon. -/
def SoI (w : World) (s M : Nat) (dl : Int) (i : Nat) (f : Int) (wr : World) : Prop :=
  ∃ G c a v, Sc wr s M v ∧ Nu w.heap.size wr M G c [a] ∧ a.f = 0 ∧ a.L.length ≤ i ∧ v.d = dl ∧ v.n ≤ 10 * i ∧ -1 ≤ v.g ∧ v.g ≤ 65535 ∧ Tm dl f v.t ∧ f ≤ 10 * i ∧ Below w.heap.size w wr ∧ w.heap.size ≤ s

/-- .. and behind Take and what follows it. -/
def SoJ (w : World) (s M : Nat) (dl : Int) (i : Nat) (f : Int) (wr : World) : Prop :=
  ∃ v, Sc wr s M v ∧ Tm dl f v.t ∧ SoI w s M dl i f wr

set_option maxRecDepth 100000 in
theorem soon_take (w : World) (s M : Nat) (dl : Int) (i : Nat) (f : Int) (wr : World) (n : Int) (el : Bool) (h : SoI w s M dl i f wr) (hi : i < 1000) (hdl0 : 0 ≤ dl) (hdl1 : dl ≤ 1048575) (hn0 : 0 ≤ n) (hn1 : n ≤ 65535) :
    Calls Try.prog 10 #[.pointer (some ⟨s, 0, none⟩), .int .i64 n, .bool el, .int .i64 (10 * i)] wr fun e w' => ∃ b : Bool, e = .returned (.tuple #[.bool b, .int .i64 0]) ∧ SoJ w s M dl (i + 1) (if b = true ∧ el = true ∧ f < 0 then 10 * i else f) w' := by
  obtain ⟨G, c, a, v, hs, hu, ha, hl, hd, hn, hg0, hg1, ht, hf, hb, hs0⟩ := h
  refine (take_one w.heap.size s M G c v a n (10 * i) el wr hs hu hb.size ha (by omega) hn0 (by omega) (by omega) (by omega) hn hg0 (by omega) (by omega) (by omega)).mono ?_
  rintro e w' (⟨rfl, _, q1, q2, q3⟩ | ⟨rfl, _, _, ⟨G', c', Q', q1, a', rfl, q2, q3, q4⟩, q5, q6⟩)
  · refine ⟨false, rfl, _, q1, by simpa using ht, G, c, a, _, q1, q2, ha, by omega, hd, by show (10 * i : Int) ≤ _; omega, hg0, hg1, by simpa using ht, by simp; omega, ?_, hs0⟩
    exact hb.trans ⟨q3.1, q3.2.1, q3.2.2.1, q3.2.2.2.1, fun k hk => q3.2.2.2.2 k (by have := hb.size; omega) (by omega)⟩
  · have hT : Tm dl (if True ∧ el = true ∧ f < 0 then 10 * i else f) (if el = true then dueAt v n (10 * i) else v.t) := by
      unfold dueAt
      cases el with
      | false => simpa using ht
      | true =>
        rcases ht with ⟨h1, h2⟩ | ⟨h1, h2, h3, h4⟩
        · subst h1
          rw [if_pos (by simp), if_pos rfl, if_pos h2]
          right
          split <;> omega
        · rw [if_neg (by omega), if_pos rfl, if_neg (by omega)]
          right
          omega
    refine ⟨true, rfl, _, q6, by simpa using hT, G', c', a', _, q6, q1, q2, by omega, hd, by show (10 * i : Int) ≤ _; omega, ?_, ?_, by simpa using hT, ?_, hb.trans (Ks.toBelow q5 hb.size hs0), hs0⟩
    · show -1 ≤ (if v.g < n then n else v.g); split <;> omega
    · show (if v.g < n then n else v.g) ≤ 65535; split <;> omega
    · split <;> omega

theorem SoJ.due {w : World} {s M : Nat} {dl : Int} {i : Nat} {f : Int} {wr : World} (h : SoJ w s M dl i f wr) : ∃ T, Tm dl f T ∧ Calls Try.prog 17 #[.pointer (some ⟨s, 0, none⟩)] wr fun e w' => e = .returned (.tuple #[.int .i64 (if T = -1 then 0 else T), .bool (decide (T ≠ -1))]) ∧ w' = wr := by
  obtain ⟨v, h1, h2, _⟩ := h
  exact ⟨v.t, h2, due_sc s M v wr h1⟩
end Go.Proofs.YtlobnlkpbenngaaR
