/- What the reference's Wide answers, for every input: contracts. -/
import Derived.Test.YtcppnellgkbndaaDoorRef
namespace Go.Proofs.YtcppnellgkbndaaDoor
open Go.ChangeShapes Go.WideShapes Go.ChangeAt Go.RowKit
set_option linter.unusedVariables false

theorem be_add (c v : Nat) : ∀ k d, k ≤ d → be k (c * 256 ^ d + v) = be k v
  | 0, _, _ => rfl
  | k + 1, d, h => by
    rw [be_head, be_head, be_add c v k d (by omega)]
    have e : (c * 256 ^ d + v) / 256 ^ k = c * 256 ^ (d - k) + v / 256 ^ k := by
      have : 256 ^ d = 256 ^ (d - k) * 256 ^ k := by rw [← Nat.pow_add]; congr 1; omega
      rw [this, ← Nat.mul_assoc, Nat.add_comm, Nat.add_mul_div_right _ _ (Nat.pow_pos (by decide)), Nat.add_comm]
    have e2 : c * 256 ^ (d - k) = (c * 256 ^ (d - k - 1)) * 256 := by
      have : d - k = (d - k - 1) + 1 := by omega
      conv => lhs; rw [this, Nat.pow_succ]
      rw [Nat.mul_assoc]
    rw [e, e2]
    congr 1
    rw [← UInt8.toNat_inj, UInt8.toNat_ofNat', UInt8.toNat_ofNat']
    generalize c * 256 ^ (d - k - 1) = A
    generalize v / 256 ^ k = Z
    omega

def lim (n : Int) : Int := if n = 1 then 64 else if n = 2 then 16384 else if n = 4 then 1073741824 else 4611686018427387904
/-- a number in n bytes -/
def enc (n v : Int) : List UInt8 := be n.toNat (mV n * lim n + v).toNat
def wiE (v n : Int) : Int := if v < 0 ∨ 4611686018427387903 < v ∨ mB n = false then 2 else if lim n ≤ v then 3 else 0
/-- a slice that a call has made, with these bytes, or nil and an error -/
def Res (B : Nat) (w : World) (v : Value) (E : Int) (X : List UInt8) : Prop := (E = 0 ∧ 0 < X.length ∧ w.ownsRow B 5 1 v X.length (bc X)) ∨ (E ≠ 0 ∧ v = .slice none 0 0)

theorem own_of_block {w : World} {B g : Nat} {l : List UInt8} (hb : w.heap[g]? = some (.cells (bc l).toArray 5 (0, 0))) (hB : B ≤ g) (hl : l.length ≤ 9223372036854775807) : w.ownsRow B 5 1 (.slice (some ⟨g, 0, none⟩) l.length l.length) l.length (bc l) :=
  ⟨by rw [bc_length]; omega, .inr ⟨g, l.length, (bc l).toArray, rfl, hB, hb, Nat.le_refl _, hl, by simp [bc_length], by simp [bc_length, List.take_of_length_le]⟩⟩

theorem enc_length (n v : Int) : (enc n v).length = n.toNat := be_length _ _

theorem own_cell0 {w : World} {g n : Nat} {cur : Array Value} {b : UInt8} {t : List UInt8} (hb : w.heap[g]? = some (.cells cur 5 (0, 0))) (hl : (b :: t).length = n) (ht : cur.toList.take n = bc (b :: t)) : w.cell? ⟨g, 0, none⟩ = some (.int .u8 b.toNat) := by
  have hs : Sl w (some ⟨g, 0, none⟩) (b :: t) := Sl_own hb (by rw [hl]; exact ht)
  obtain ⟨b', off, he, hc⟩ := hs 0 (by simp)
  simp only [Option.some.injEq, Addr.mk.injEq] at he
  obtain ⟨rfl, rfl, _⟩ := he
  simpa using hc

theorem own_put0 {w : World} {B g n cap : Nat} {cur : Array Value} {b b' : UInt8} {t : List UInt8} {x : Value} (hB : B ≤ g) (hc : n ≤ cap) (hm : cap ≤ maxLen) (hz : cur.size = cap) (hb : w.heap[g]? = some (.cells cur 5 (0, 0))) (hl : (b :: t).length = n) (ht : cur.toList.take n = bc (b :: t)) (hx : x = .int .u8 b'.toNat) :
    (w.setCell ⟨g, 0, none⟩ x).ownsRow B 5 1 (.slice (some ⟨g, 0, none⟩) n cap) n (bc (b' :: t)) := by
  refine ⟨by rw [bc_length]; simp at hl ⊢; omega, .inr ⟨g, cap, _, rfl, hB, heap_setCell_same w g 0 cur 5 _ hb, hc, hm, by simp [hz], ?_⟩⟩
  rw [Nat.mul_one, Array.toList_setIfInBounds, List.take_set, ht, hx]
  rfl

theorem rwide_arg (v n : Int) (w : World) (h : v < 0 ∨ 4611686018427387903 < v ∨ mB n = false) :
    Calls Tryd.prog 39 #[.int .i64 v, .int .i64 n] w fun e w' => e = .returned (.tuple #[.slice none 0 0, .int .i64 2]) ∧ w' = w := by
  by_cases hv : v < 0 ∨ 4611686018427387903 < v
  · clear h
    go_enter Tryd.func39, Tryd.ntmps39
    go_wp2_with fail
    refine (rsize_no _ _ hv).mono ?_
    rintro e w' ⟨rfl, rfl⟩
    clear hv
    go_wp2
    go_ret2
    exact ⟨rfl, rfl⟩
  · have hm : mB n = false := by rcases h with h | h | h <;> first | exact h | omega
    have hm' : ¬ (n = 1 ∨ n = 2 ∨ n = 4 ∨ n = 8) := of_decide_eq_false hm
    have h1 : (n != 1) = true := by rw [bne_iff_ne]; omega
    have h2 : (n != 2) = true := by rw [bne_iff_ne]; omega
    have h4 : (n != 4) = true := by rw [bne_iff_ne]; omega
    have h8 : (n != 8) = true := by rw [bne_iff_ne]; omega
    clear h hm hm'
    go_enter Tryd.func39, Tryd.ntmps39
    go_wp2_with fail
    refine (rsize_yes _ _ (by omega) (by omega)).mono ?_
    rintro e w' ⟨rfl, rfl⟩
    clear hv
    go_wp2
    go_ret2
    exact ⟨rfl, rfl⟩

theorem top_1 (v : Nat) (h : v < 64) : Value.int .u8 (((UInt8.ofNat (v / 256 ^ 0)).toNat : Int) + 0) = .int .u8 ((UInt8.ofNat ((0 + v) / 256 ^ 0)).toNat : Int) := by
  have e : (256 : Nat) ^ 0 = 1 := by decide
  rw [e, UInt8.toNat_ofNat', UInt8.toNat_ofNat']
  congr 1
  omega
theorem low_1 (v : Nat) : be 0 (0 + v) = be 0 v := by
  have := be_add 0 v 0 0 (Nat.le_refl _)
  have e : (256 : Nat) ^ 0 = 1 := by decide
  rw [e] at this
  exact this

theorem rwide_big_1 (v : Int) (w : World) (h0 : 64 ≤ v) (h1 : v ≤ 4611686018427387903) :
    Calls Tryd.prog 39 #[.int .i64 v, .int .i64 1] w fun e w' => e = .returned (.tuple #[.slice none 0 0, .int .i64 3]) ∧ w' = w := by
  have ew : wrap64 (2 ^ 6) = 64 := by kernel_rfl
  go_enter Tryd.func39, Tryd.ntmps39
  go_wp2_with fail
  refine (rsize_yes _ _ (by omega) (by omega)).mono ?_
  rintro e w' ⟨rfl, rfl⟩
  go_wp2
  go_ret2
  exact ⟨rfl, rfl⟩

set_option maxRecDepth 10000 in
theorem rwide_1 (v : Int) (w : World) (h0 : 0 ≤ v) (h1 : v < 64) :
    Calls Tryd.prog 39 #[.int .i64 v, .int .i64 1] w fun e w' => ∃ x, e = .returned (.tuple #[x, .int .i64 0]) ∧ w'.ownsRow w.heap.size 5 1 x 1 (bc (be 1 (0 + v.toNat))) ∧ Below w.heap.size w w' := by
  have ew : wrap64 (2 ^ 6) = 64 := by kernel_rfl
  have HTOP := mkHid (top_1 v.toNat (by omega))
  have hfirst : (UInt8.ofNat (v.toNat / 256 ^ 0)).toNat < 64 := by
    have e : (256 : Nat) ^ 0 = 1 := by decide
    rw [e, UInt8.toNat_ofNat']; omega
  obtain ⟨c, hc⟩ : ∃ c : Nat, c = (UInt8.ofNat (v.toNat / 256 ^ 0)).toNat := ⟨_, rfl⟩
  rw [← hc] at hfirst HTOP
  have HC := mkHid hc
  clear hc
  go_enter Tryd.func39, Tryd.ntmps39
  go_wp2_with fail
  refine (rsize_yes _ _ (by omega) (by omega)).mono ?_
  rintro e w' ⟨rfl, rfl⟩
  go_wp2
  go_loop [8, 9] (fun kd k => (kd = .int .i64 0 ∧ k = .int .i64 1)) (fun _ k => 8 - (intOf k).toNat)
  case atStart => exact ⟨rfl, rfl⟩
  case round =>
    rcases hrel with ⟨rfl, rfl⟩
    go_wp2_with fail
    refine (bytes_int v 1 _ (by omega) (by omega) (by decide) (by decide)).mono ?_
    rintro e w1 ⟨vb, rfl, hown, hB⟩
    have HL := mkHid hB
    obtain ⟨g, cp, cur, hv, hg, hblk, hle, hmx, hsz, htk⟩ := own_shape hown (by decide)
    have HBK := mkHid hblk
    have HTK := mkHid htk
    clear hB hown hblk htk
    subst hv
    have hc0 := own_cell0 HBK.out (be_length 1 v.toNat) HTK.out
    rw [← HC.out] at hc0
    have hfr : w1.frozen? ⟨g, 0, none⟩ = false := by unfold World.frozen?; rw [HBK.out]; simp
    go_wp2
    go_ret2
    refine ⟨_, rfl, ?_, HL.out.setCell hg _⟩
    have e1 : be 1 (0 + v.toNat) = UInt8.ofNat ((0 + v.toNat) / 256 ^ 0) :: be 0 v.toNat := by rw [be_head, low_1]
    rw [e1]
    exact own_put0 hg hle hmx hsz HBK.out (be_length 1 v.toNat) HTK.out (by have := HTOP.out; simpa using this)

theorem top_2 (v : Nat) (h : v < 16384) : Value.int .u8 (((UInt8.ofNat (v / 256 ^ 1)).toNat : Int) + 64) = .int .u8 ((UInt8.ofNat ((16384 + v) / 256 ^ 1)).toNat : Int) := by
  have e : (256 : Nat) ^ 1 = 256 := by decide
  rw [e, UInt8.toNat_ofNat', UInt8.toNat_ofNat']
  congr 1
  omega
theorem low_2 (v : Nat) : be 1 (16384 + v) = be 1 v := by
  have := be_add 64 v 1 1 (Nat.le_refl _)
  have e : (256 : Nat) ^ 1 = 256 := by decide
  rw [e] at this
  exact this

theorem rwide_big_2 (v : Int) (w : World) (h0 : 16384 ≤ v) (h1 : v ≤ 4611686018427387903) :
    Calls Tryd.prog 39 #[.int .i64 v, .int .i64 2] w fun e w' => e = .returned (.tuple #[.slice none 0 0, .int .i64 3]) ∧ w' = w := by
  have ew : wrap64 (2 ^ 14) = 16384 := by kernel_rfl
  go_enter Tryd.func39, Tryd.ntmps39
  go_wp2_with fail
  refine (rsize_yes _ _ (by omega) (by omega)).mono ?_
  rintro e w' ⟨rfl, rfl⟩
  go_wp2
  go_ret2
  exact ⟨rfl, rfl⟩

set_option maxRecDepth 10000 in
theorem rwide_2 (v : Int) (w : World) (h0 : 0 ≤ v) (h1 : v < 16384) :
    Calls Tryd.prog 39 #[.int .i64 v, .int .i64 2] w fun e w' => ∃ x, e = .returned (.tuple #[x, .int .i64 0]) ∧ w'.ownsRow w.heap.size 5 1 x 2 (bc (be 2 (16384 + v.toNat))) ∧ Below w.heap.size w w' := by
  have ew : wrap64 (2 ^ 14) = 16384 := by kernel_rfl
  have HTOP := mkHid (top_2 v.toNat (by omega))
  have hfirst : (UInt8.ofNat (v.toNat / 256 ^ 1)).toNat < 64 := by
    have e : (256 : Nat) ^ 1 = 256 := by decide
    rw [e, UInt8.toNat_ofNat']; omega
  obtain ⟨c, hc⟩ : ∃ c : Nat, c = (UInt8.ofNat (v.toNat / 256 ^ 1)).toNat := ⟨_, rfl⟩
  rw [← hc] at hfirst HTOP
  have HC := mkHid hc
  clear hc
  go_enter Tryd.func39, Tryd.ntmps39
  go_wp2_with fail
  refine (rsize_yes _ _ (by omega) (by omega)).mono ?_
  rintro e w' ⟨rfl, rfl⟩
  go_wp2
  go_loop [8, 9] (fun kd k => (kd = .int .i64 0 ∧ k = .int .i64 1) ∨ (kd = .int .i64 1 ∧ k = .int .i64 2)) (fun _ k => 8 - (intOf k).toNat)
  case atStart => exact Or.inl ⟨rfl, rfl⟩
  case round =>
    rcases hrel with ⟨rfl, rfl⟩ | ⟨rfl, rfl⟩
    · go_wp2
      go_round
      case rel => exact Or.inr (⟨rfl, rfl⟩)
      case measure => simp [intOf]
    · go_wp2_with fail
      refine (bytes_int v 2 _ (by omega) (by omega) (by decide) (by decide)).mono ?_
      rintro e w1 ⟨vb, rfl, hown, hB⟩
      have HL := mkHid hB
      obtain ⟨g, cp, cur, hv, hg, hblk, hle, hmx, hsz, htk⟩ := own_shape hown (by decide)
      have HBK := mkHid hblk
      have HTK := mkHid htk
      clear hB hown hblk htk
      subst hv
      have hc0 := own_cell0 HBK.out (be_length 2 v.toNat) HTK.out
      rw [← HC.out] at hc0
      have hfr : w1.frozen? ⟨g, 0, none⟩ = false := by unfold World.frozen?; rw [HBK.out]; simp
      go_wp2
      go_ret2
      refine ⟨_, rfl, ?_, HL.out.setCell hg _⟩
      have e1 : be 2 (16384 + v.toNat) = UInt8.ofNat ((16384 + v.toNat) / 256 ^ 1) :: be 1 v.toNat := by rw [be_head, low_2]
      rw [e1]
      exact own_put0 hg hle hmx hsz HBK.out (be_length 2 v.toNat) HTK.out HTOP.out

theorem top_4 (v : Nat) (h : v < 1073741824) : Value.int .u8 (((UInt8.ofNat (v / 256 ^ 3)).toNat : Int) + 128) = .int .u8 ((UInt8.ofNat ((2147483648 + v) / 256 ^ 3)).toNat : Int) := by
  have e : (256 : Nat) ^ 3 = 16777216 := by decide
  rw [e, UInt8.toNat_ofNat', UInt8.toNat_ofNat']
  congr 1
  omega
theorem low_4 (v : Nat) : be 3 (2147483648 + v) = be 3 v := by
  have := be_add 128 v 3 3 (Nat.le_refl _)
  have e : (256 : Nat) ^ 3 = 16777216 := by decide
  rw [e] at this
  exact this

theorem rwide_big_4 (v : Int) (w : World) (h0 : 1073741824 ≤ v) (h1 : v ≤ 4611686018427387903) :
    Calls Tryd.prog 39 #[.int .i64 v, .int .i64 4] w fun e w' => e = .returned (.tuple #[.slice none 0 0, .int .i64 3]) ∧ w' = w := by
  have ew : wrap64 (2 ^ 30) = 1073741824 := by kernel_rfl
  go_enter Tryd.func39, Tryd.ntmps39
  go_wp2_with fail
  refine (rsize_yes _ _ (by omega) (by omega)).mono ?_
  rintro e w' ⟨rfl, rfl⟩
  go_wp2
  go_ret2
  exact ⟨rfl, rfl⟩

set_option maxRecDepth 10000 in
theorem rwide_4 (v : Int) (w : World) (h0 : 0 ≤ v) (h1 : v < 1073741824) :
    Calls Tryd.prog 39 #[.int .i64 v, .int .i64 4] w fun e w' => ∃ x, e = .returned (.tuple #[x, .int .i64 0]) ∧ w'.ownsRow w.heap.size 5 1 x 4 (bc (be 4 (2147483648 + v.toNat))) ∧ Below w.heap.size w w' := by
  have ew : wrap64 (2 ^ 30) = 1073741824 := by kernel_rfl
  have HTOP := mkHid (top_4 v.toNat (by omega))
  have hfirst : (UInt8.ofNat (v.toNat / 256 ^ 3)).toNat < 64 := by
    have e : (256 : Nat) ^ 3 = 16777216 := by decide
    rw [e, UInt8.toNat_ofNat']; omega
  obtain ⟨c, hc⟩ : ∃ c : Nat, c = (UInt8.ofNat (v.toNat / 256 ^ 3)).toNat := ⟨_, rfl⟩
  rw [← hc] at hfirst HTOP
  have HC := mkHid hc
  clear hc
  go_enter Tryd.func39, Tryd.ntmps39
  go_wp2_with fail
  refine (rsize_yes _ _ (by omega) (by omega)).mono ?_
  rintro e w' ⟨rfl, rfl⟩
  go_wp2
  go_loop [8, 9] (fun kd k => (kd = .int .i64 0 ∧ k = .int .i64 1) ∨ (kd = .int .i64 1 ∧ k = .int .i64 2) ∨ (kd = .int .i64 2 ∧ k = .int .i64 4)) (fun _ k => 8 - (intOf k).toNat)
  case atStart => exact Or.inl ⟨rfl, rfl⟩
  case round =>
    rcases hrel with ⟨rfl, rfl⟩ | ⟨rfl, rfl⟩ | ⟨rfl, rfl⟩
    · go_wp2
      go_round
      case rel => exact Or.inr (Or.inl ⟨rfl, rfl⟩)
      case measure => simp [intOf]
    · go_wp2
      go_round
      case rel => exact Or.inr (Or.inr (⟨rfl, rfl⟩))
      case measure => simp [intOf]
    · go_wp2_with fail
      refine (bytes_int v 4 _ (by omega) (by omega) (by decide) (by decide)).mono ?_
      rintro e w1 ⟨vb, rfl, hown, hB⟩
      have HL := mkHid hB
      obtain ⟨g, cp, cur, hv, hg, hblk, hle, hmx, hsz, htk⟩ := own_shape hown (by decide)
      have HBK := mkHid hblk
      have HTK := mkHid htk
      clear hB hown hblk htk
      subst hv
      have hc0 := own_cell0 HBK.out (be_length 4 v.toNat) HTK.out
      rw [← HC.out] at hc0
      have hfr : w1.frozen? ⟨g, 0, none⟩ = false := by unfold World.frozen?; rw [HBK.out]; simp
      go_wp2
      go_ret2
      refine ⟨_, rfl, ?_, HL.out.setCell hg _⟩
      have e1 : be 4 (2147483648 + v.toNat) = UInt8.ofNat ((2147483648 + v.toNat) / 256 ^ 3) :: be 3 v.toNat := by rw [be_head, low_4]
      rw [e1]
      exact own_put0 hg hle hmx hsz HBK.out (be_length 4 v.toNat) HTK.out HTOP.out

theorem top_8 (v : Nat) (h : v < 4611686018427387904) : Value.int .u8 (((UInt8.ofNat (v / 256 ^ 7)).toNat : Int) + 192) = .int .u8 ((UInt8.ofNat ((13835058055282163712 + v) / 256 ^ 7)).toNat : Int) := by
  have e : (256 : Nat) ^ 7 = 72057594037927936 := by decide
  rw [e, UInt8.toNat_ofNat', UInt8.toNat_ofNat']
  congr 1
  omega
theorem low_8 (v : Nat) : be 7 (13835058055282163712 + v) = be 7 v := by
  have := be_add 192 v 7 7 (Nat.le_refl _)
  have e : (256 : Nat) ^ 7 = 72057594037927936 := by decide
  rw [e] at this
  exact this

theorem rwide_big_8 (v : Int) (w : World) (h0 : 4611686018427387904 ≤ v) (h1 : v ≤ 4611686018427387903) :
    Calls Tryd.prog 39 #[.int .i64 v, .int .i64 8] w fun e w' => e = .returned (.tuple #[.slice none 0 0, .int .i64 3]) ∧ w' = w := by
  have ew : wrap64 (2 ^ 62) = 4611686018427387904 := by kernel_rfl
  go_enter Tryd.func39, Tryd.ntmps39
  go_wp2_with fail
  refine (rsize_yes _ _ (by omega) (by omega)).mono ?_
  rintro e w' ⟨rfl, rfl⟩
  go_wp2
  go_ret2
  exact ⟨rfl, rfl⟩

set_option maxRecDepth 10000 in
theorem rwide_8 (v : Int) (w : World) (h0 : 0 ≤ v) (h1 : v < 4611686018427387904) :
    Calls Tryd.prog 39 #[.int .i64 v, .int .i64 8] w fun e w' => ∃ x, e = .returned (.tuple #[x, .int .i64 0]) ∧ w'.ownsRow w.heap.size 5 1 x 8 (bc (be 8 (13835058055282163712 + v.toNat))) ∧ Below w.heap.size w w' := by
  have ew : wrap64 (2 ^ 62) = 4611686018427387904 := by kernel_rfl
  have HTOP := mkHid (top_8 v.toNat (by omega))
  have hfirst : (UInt8.ofNat (v.toNat / 256 ^ 7)).toNat < 64 := by
    have e : (256 : Nat) ^ 7 = 72057594037927936 := by decide
    rw [e, UInt8.toNat_ofNat']; omega
  obtain ⟨c, hc⟩ : ∃ c : Nat, c = (UInt8.ofNat (v.toNat / 256 ^ 7)).toNat := ⟨_, rfl⟩
  rw [← hc] at hfirst HTOP
  have HC := mkHid hc
  clear hc
  go_enter Tryd.func39, Tryd.ntmps39
  go_wp2_with fail
  refine (rsize_yes _ _ (by omega) (by omega)).mono ?_
  rintro e w' ⟨rfl, rfl⟩
  go_wp2
  go_loop [8, 9] (fun kd k => (kd = .int .i64 0 ∧ k = .int .i64 1) ∨ (kd = .int .i64 1 ∧ k = .int .i64 2) ∨ (kd = .int .i64 2 ∧ k = .int .i64 4) ∨ (kd = .int .i64 3 ∧ k = .int .i64 8)) (fun _ k => 8 - (intOf k).toNat)
  case atStart => exact Or.inl ⟨rfl, rfl⟩
  case round =>
    rcases hrel with ⟨rfl, rfl⟩ | ⟨rfl, rfl⟩ | ⟨rfl, rfl⟩ | ⟨rfl, rfl⟩
    · go_wp2
      go_round
      case rel => exact Or.inr (Or.inl ⟨rfl, rfl⟩)
      case measure => simp [intOf]
    · go_wp2
      go_round
      case rel => exact Or.inr (Or.inr (Or.inl ⟨rfl, rfl⟩))
      case measure => simp [intOf]
    · go_wp2
      go_round
      case rel => exact Or.inr (Or.inr (Or.inr (⟨rfl, rfl⟩)))
      case measure => simp [intOf]
    · go_wp2_with fail
      refine (bytes_int v 8 _ (by omega) (by omega) (by decide) (by decide)).mono ?_
      rintro e w1 ⟨vb, rfl, hown, hB⟩
      have HL := mkHid hB
      obtain ⟨g, cp, cur, hv, hg, hblk, hle, hmx, hsz, htk⟩ := own_shape hown (by decide)
      have HBK := mkHid hblk
      have HTK := mkHid htk
      clear hB hown hblk htk
      subst hv
      have hc0 := own_cell0 HBK.out (be_length 8 v.toNat) HTK.out
      rw [← HC.out] at hc0
      have hfr : w1.frozen? ⟨g, 0, none⟩ = false := by unfold World.frozen?; rw [HBK.out]; simp
      go_wp2
      go_ret2
      refine ⟨_, rfl, ?_, HL.out.setCell hg _⟩
      have e1 : be 8 (13835058055282163712 + v.toNat) = UInt8.ofNat ((13835058055282163712 + v.toNat) / 256 ^ 7) :: be 7 v.toNat := by rw [be_head, low_8]
      rw [e1]
      exact own_put0 hg hle hmx hsz HBK.out (be_length 8 v.toNat) HTK.out HTOP.out
end Go.Proofs.YtcppnellgkbndaaDoor
