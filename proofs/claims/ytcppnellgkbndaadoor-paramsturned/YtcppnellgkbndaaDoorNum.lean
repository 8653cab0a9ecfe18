/- Plain facts on the number of bytes. -/
import Derived.Test.YtcppnellgkbndaaDoorArith
import Derived.Laws.Bits64
namespace Go.Proofs.YtcppnellgkbndaaDoor

/-- the number of bytes, the highest first -/
def num (l : List UInt8) : Nat := l.foldl (fun a b => a * 256 + b.toNat) 0
theorem num_snoc (l : List UInt8) (b : UInt8) : num (l ++ [b]) = num l * 256 + b.toNat := by simp [num, List.foldl_append]
theorem num_lt (l : List UInt8) : num l < 256 ^ l.length := by
  suffices h : ∀ (m : List UInt8), num m.reverse < 256 ^ m.length by
    have := h l.reverse; simpa using this
  intro m
  induction m with
  | nil => simp [num]
  | cons b m ih =>
    rw [List.reverse_cons, num_snoc, List.length_cons, Nat.pow_succ]
    have := b.toNat_lt
    omega
/-- the n bytes from a place -/
def sub (l : List UInt8) (a n : Nat) : List UInt8 := (l.drop a).take n
theorem sub_length (l : List UInt8) (a n : Nat) (h : a + n ≤ l.length) : (sub l a n).length = n := by simp [sub]; omega
theorem sub_snoc (l : List UInt8) (a k : Nat) (h : a + k < l.length) : sub l a (k + 1) = sub l a k ++ [l[a + k]] := by
  unfold sub
  rw [List.take_add_one, List.getElem?_drop, List.getElem?_eq_getElem h]
  rfl
theorem num_sub_lt (l : List UInt8) (a k : Nat) (h : a + k ≤ l.length) : num (sub l a k) < 256 ^ k := by
  have := num_lt (sub l a k)
  rwa [sub_length l a k h] at this
theorem num_sub_56 (l : List UInt8) (a k : Nat) (h : a + k ≤ l.length) (hk : k ≤ 7) : num (sub l a k) < 72057594037927936 := by
  have h1 := num_sub_lt l a k h
  have h2 : 256 ^ k ≤ 256 ^ 7 := Nat.pow_le_pow_right (by decide) hk
  have h3 : 256 ^ 7 = 72057594037927936 := by decide
  omega
theorem num_sub_64 (l : List UInt8) (a k : Nat) (h : a + k ≤ l.length) (hk : k ≤ 8) : num (sub l a k) < 18446744073709551616 := by
  have h1 := num_sub_lt l a k h
  have h2 : 256 ^ k ≤ 256 ^ 8 := Nat.pow_le_pow_right (by decide) hk
  have h3 : 256 ^ 8 = 18446744073709551616 := by decide
  omega
theorem num_step (l : List UInt8) (a k : Nat) (h : a + k < l.length) : num (sub l a (k + 1)) = num (sub l a k) * 256 + l[a + k].toNat := by
  rw [sub_snoc l a k h, num_snoc]

theorem num_append (a b : List UInt8) : num (a ++ b) = num a * 256 ^ b.length + num b := by
  suffices h : ∀ (m : List UInt8), num (a ++ m.reverse) = num a * 256 ^ m.length + num m.reverse by
    have := h b.reverse; simpa using this
  intro m
  induction m with
  | nil => simp [num]
  | cons c m ih =>
    rw [List.reverse_cons, ← List.append_assoc, num_snoc, ih, num_snoc, List.length_cons, Nat.pow_succ, Nat.add_mul, Nat.mul_assoc]
    omega
/-- what the k lowest bytes of v say -/
theorem num_be (v : Nat) : ∀ k, num (be k v) = v % 256 ^ k
  | 0 => by simp [be, num, Nat.mod_one]
  | k + 1 => by
    have e : be (k + 1) v = [UInt8.ofNat (v / 256 ^ k)] ++ be k v := rfl
    rw [e, num_append, num_be v k, be_length]
    have e2 : num [UInt8.ofNat (v / 256 ^ k)] = v / 256 ^ k % 256 := by simp [num, UInt8.toNat_ofNat']
    rw [e2, Nat.pow_succ, Nat.mod_mul, Nat.mul_comm, Nat.add_comm]
theorem sub_behind (l m : List UInt8) (n : Nat) (h : m.length = n) : sub (l ++ m) l.length n = m := by
  simp [sub, ← h]
theorem wrap_u64_id (n : Int) (h₀ : 0 ≤ n) (h₁ : n < 2 ^ 64) : IntKind.u64.wrap n = n := by rw [IntKind.wrap_u64]; omega
theorem or_byte (x c : Int) (h0 : 0 ≤ x) (h1 : x < 72057594037927936) (h2 : 0 ≤ c) (h3 : c ≤ 255) : bits .or .u64 (x * 256) c = x * 256 + c :=
  bits_join .u64 64 (by decide) wrap_u64_id 8 (x * 256) c (by omega) (by omega) (by omega) h2 (by omega) (by omega)
end Go.Proofs.YtcppnellgkbndaaDoor
