/- What the reference's Wide answers, for every input: contracts. -/
import Derived.Test.YtfejhlfcabbkcaaDoorRef
namespace Go.Proofs.YtfejhlfcabbkcaaDoor
open Go.ChangeShapes Go.WideShapes Go.ChangeAt Go.RowKit
set_option linter.unusedVariables false

theorem be_add (c v : Nat) : ∀ k d, k ≤ d → be k (c * 256 ^ d + v) = be k v
  | 0, _, _ => rfl
  | k + 1, d, h => by
    rw [be_head, be_head, be_add c v k d (by omega)]
    have e : (c * 256 ^ d + v) / 256 ^ k = c * 256 ^ (d - k) + v / 256 ^ k := by
      have : 256 ^ d = 256 ^ (d - k) * 256 ^ k := by rw [← Nat.pow_add]; congr 1; omega
      rw [this, ← Nat.mul_assoc, Nat.add_comm, Nat.add_mul_div_right _ _ (Nat.pow_pos (by decide)), Nat.add_comm]
    have e2 : c * 256 ^ (d - k) = (c * 256 ^ (d - k - 1)) * 256 := by
      have : d - k = (d - k - 1) + 1 := by omega
      conv => lhs; rw [this, Nat.pow_succ]
      rw [Nat.mul_assoc]
    rw [e, e2]
    congr 1
    rw [← UInt8.toNat_inj, UInt8.toNat_ofNat', UInt8.toNat_ofNat']
    generalize c * 256 ^ (d - k - 1) = A
    generalize v / 256 ^ k = Z
    omega

def lim (n : Int) : Int := if n = 1 then 64 else if n = 2 then 16384 else if n = 4 then 1073741824 else 4611686018427387904
/-- a number in n bytes -/
def enc (n v : Int) : List UInt8 := be n.toNat (mV n * lim n + v).toNat
def wiE (v n : Int) : Int := if v < 0 ∨ 4611686018427387903 < v ∨ mB n = false then 2 else if lim n ≤ v then 3 else 0
/-- a slice that a call has made, with these bytes, or nil and an error -/
def Res (B : Nat) (w : World) (v : Value) (E : Int) (X : List UInt8) : Prop := (E = 0 ∧ 0 < X.length ∧ w.ownsRow B 5 1 v X.length (bc X)) ∨ (E ≠ 0 ∧ v = .slice none 0 0)

theorem own_of_block {w : World} {B g : Nat} {l : List UInt8} (hb : w.heap[g]? = some (.cells (bc l).toArray 5 (0, 0))) (hB : B ≤ g) (hl : l.length ≤ 9223372036854775807) : w.ownsRow B 5 1 (.slice (some ⟨g, 0, none⟩) l.length l.length) l.length (bc l) :=
  ⟨by rw [bc_length]; omega, .inr ⟨g, l.length, (bc l).toArray, rfl, hB, hb, Nat.le_refl _, hl, by simp [bc_length], by simp [bc_length, List.take_of_length_le]⟩⟩

theorem enc_length (n v : Int) : (enc n v).length = n.toNat := be_length _ _

theorem own_cell0 {w : World} {g n : Nat} {cur : Array Value} {b : UInt8} {t : List UInt8} (hb : w.heap[g]? = some (.cells cur 5 (0, 0))) (hl : (b :: t).length = n) (ht : cur.toList.take n = bc (b :: t)) : w.cell? ⟨g, 0, none⟩ = some (.int .u8 b.toNat) := by
  have hs : Sl w (some ⟨g, 0, none⟩) (b :: t) := Sl_own hb (by rw [hl]; exact ht)
  obtain ⟨b', off, he, hc⟩ := hs 0 (by simp)
  simp only [Option.some.injEq, Addr.mk.injEq] at he
  obtain ⟨rfl, rfl, _⟩ := he
  simpa using hc

theorem own_put0 {w : World} {B g n cap : Nat} {cur : Array Value} {b b' : UInt8} {t : List UInt8} {x : Value} (hB : B ≤ g) (hc : n ≤ cap) (hm : cap ≤ maxLen) (hz : cur.size = cap) (hb : w.heap[g]? = some (.cells cur 5 (0, 0))) (hl : (b :: t).length = n) (ht : cur.toList.take n = bc (b :: t)) (hx : x = .int .u8 b'.toNat) :
    (w.setCell ⟨g, 0, none⟩ x).ownsRow B 5 1 (.slice (some ⟨g, 0, none⟩) n cap) n (bc (b' :: t)) := by
  refine ⟨by rw [bc_length]; simp at hl ⊢; omega, .inr ⟨g, cap, _, rfl, hB, heap_setCell_same w g 0 cur 5 _ hb, hc, hm, by simp [hz], ?_⟩⟩
  rw [Nat.mul_one, Array.toList_setIfInBounds, List.take_set, ht, hx]
  rfl

theorem top_1 (v : Nat) (h : v < 64) : Value.int .u8 (((UInt8.ofNat (v / 256 ^ 0)).toNat : Int) + 0) = .int .u8 ((UInt8.ofNat ((0 + v) / 256 ^ 0)).toNat : Int) := by
  have e : (256 : Nat) ^ 0 = 1 := by decide
  rw [e, UInt8.toNat_ofNat', UInt8.toNat_ofNat']
  congr 1
  omega
theorem low_1 (v : Nat) : be 0 (0 + v) = be 0 v := by
  have := be_add 0 v 0 0 (Nat.le_refl _)
  have e : (256 : Nat) ^ 0 = 1 := by decide
  rw [e] at this
  exact this

theorem top_2 (v : Nat) (h : v < 16384) : Value.int .u8 (((UInt8.ofNat (v / 256 ^ 1)).toNat : Int) + 64) = .int .u8 ((UInt8.ofNat ((16384 + v) / 256 ^ 1)).toNat : Int) := by
  have e : (256 : Nat) ^ 1 = 256 := by decide
  rw [e, UInt8.toNat_ofNat', UInt8.toNat_ofNat']
  congr 1
  omega
theorem low_2 (v : Nat) : be 1 (16384 + v) = be 1 v := by
  have := be_add 64 v 1 1 (Nat.le_refl _)
  have e : (256 : Nat) ^ 1 = 256 := by decide
  rw [e] at this
  exact this

theorem top_4 (v : Nat) (h : v < 1073741824) : Value.int .u8 (((UInt8.ofNat (v / 256 ^ 3)).toNat : Int) + 128) = .int .u8 ((UInt8.ofNat ((2147483648 + v) / 256 ^ 3)).toNat : Int) := by
  have e : (256 : Nat) ^ 3 = 16777216 := by decide
  rw [e, UInt8.toNat_ofNat', UInt8.toNat_ofNat']
  congr 1
  omega
theorem low_4 (v : Nat) : be 3 (2147483648 + v) = be 3 v := by
  have := be_add 128 v 3 3 (Nat.le_refl _)
  have e : (256 : Nat) ^ 3 = 16777216 := by decide
  rw [e] at this
  exact this

theorem top_8 (v : Nat) (h : v < 4611686018427387904) : Value.int .u8 (((UInt8.ofNat (v / 256 ^ 7)).toNat : Int) + 192) = .int .u8 ((UInt8.ofNat ((13835058055282163712 + v) / 256 ^ 7)).toNat : Int) := by
  have e : (256 : Nat) ^ 7 = 72057594037927936 := by decide
  rw [e, UInt8.toNat_ofNat', UInt8.toNat_ofNat']
  congr 1
  omega
theorem low_8 (v : Nat) : be 7 (13835058055282163712 + v) = be 7 v := by
  have := be_add 192 v 7 7 (Nat.le_refl _)
  have e : (256 : Nat) ^ 7 = 72057594037927936 := by decide
  rw [e] at this
  exact this

end Go.Proofs.YtfejhlfcabbkcaaDoor
