/- What the reference's Size and Bytes answer, for every input: contracts. -/
import Derived.Test.YtcppnellgkbndaaDoorIn
namespace Go.Proofs.YtcppnellgkbndaaDoor
open Go.ChangeShapes Go.WideShapes Go.ChangeAt Go.RowKit
set_option linter.unusedVariables false

theorem rsize_no (v : Int) (w : World) (h : v < 0 ∨ 4611686018427387903 < v) :
    Calls Tryd.prog 38 #[.int .i64 v] w fun e w' => e = .returned (.tuple #[.int .i64 0, .int .i64 2]) ∧ w' = w := by
  have hcs : v < 0 ∨ (0 ≤ v ∧ 4611686018427387903 < v) := by omega
  clear h
  rcases hcs with h | ⟨h, h'⟩
  all_goals
    go_enter Tryd.func38, Tryd.ntmps38
    go_wp2
    go_ret2
    exact ⟨rfl, rfl⟩

set_option maxRecDepth 10000 in
theorem rsize_yes (v : Int) (w : World) (h0 : 0 ≤ v) (h1 : v ≤ 4611686018427387903) :
    Calls Tryd.prog 38 #[.int .i64 v] w fun e w' => e = .returned (.tuple #[.int .i64 (szN v), .int .i64 0]) ∧ w' = w := by
  have e6 : wrap64 (2 ^ 6) = 64 := by kernel_rfl
  have e14 : wrap64 (2 ^ 14) = 16384 := by kernel_rfl
  have e30 : wrap64 (2 ^ 30) = 1073741824 := by kernel_rfl
  have e62 : wrap64 (2 ^ 62) = 4611686018427387904 := by kernel_rfl
  go_enter Tryd.func38, Tryd.ntmps38
  go_wp2
  go_loop [4] (fun i => (i = .int .i64 1) ∨ (i = .int .i64 2 ∧ 64 ≤ v) ∨ (i = .int .i64 4 ∧ 16384 ≤ v) ∨ (i = .int .i64 8 ∧ 1073741824 ≤ v)) (fun i => 8 - (intOf i).toNat)
  case atStart => exact Or.inl rfl
  case round =>
    rcases hrel with rfl | ⟨rfl, hd1⟩ | ⟨rfl, hd1⟩ | ⟨rfl, hd1⟩
    · by_cases hd : v < 64
      · have HD : Hid (szN v = 1) := by unfold Hid szN; rw [if_pos hd]
        go_wp2
        go_ret2
        exact ⟨ret_ii HD.out.symm rfl, rfl⟩
      · go_wp2
        go_round
        case rel => exact Or.inr (Or.inl ⟨rfl, by omega⟩)
        case measure => simp [intOf]
    · by_cases hd : v < 16384
      · have HD : Hid (szN v = 2) := by unfold Hid szN; rw [if_neg (by omega), if_pos hd]
        go_wp2
        go_ret2
        exact ⟨ret_ii HD.out.symm rfl, rfl⟩
      · go_wp2
        go_round
        case rel => exact Or.inr (Or.inr (Or.inl ⟨rfl, by omega⟩))
        case measure => simp [intOf]
    · by_cases hd : v < 1073741824
      · have HD : Hid (szN v = 4) := by unfold Hid szN; rw [if_neg (by omega), if_neg (by omega), if_pos hd]
        go_wp2
        go_ret2
        exact ⟨ret_ii HD.out.symm rfl, rfl⟩
      · go_wp2
        go_round
        case rel => exact Or.inr (Or.inr (Or.inr ⟨rfl, by omega⟩))
        case measure => simp [intOf]
    · have HD : Hid (szN v = 8) := by unfold Hid szN; rw [if_neg (by omega), if_neg (by omega), if_neg (by omega)]
      go_wp2
      go_ret2
      exact ⟨ret_ii HD.out.symm rfl, rfl⟩

/-- byte j of the n lowest bytes -/
theorem be_at (V : Nat) : ∀ n j, j < n → (be n V)[j]? = some (UInt8.ofNat (V / 256 ^ (n - 1 - j)))
  | 0, j, h => absurd h (by omega)
  | n + 1, 0, _ => by rw [be_head]; simp
  | n + 1, j + 1, h => by
    rw [be_head, List.getElem?_cons_succ, be_at V n j (by omega)]
    congr 4
    omega
theorem be_take (V n j : Nat) (h : j < n) : (be n V).take (j + 1) = (be n V).take j ++ [UInt8.ofNat (V / 256 ^ (n - 1 - j))] := by
  rw [List.take_add_one, be_at V n j h]
  rfl
theorem byte_val (V k : Nat) : Value.int .u8 ((V : Int) / 2 ^ (8 * k) % 256) = Value.int .u8 ((UInt8.ofNat (V / 256 ^ k)).toNat : Int) := by
  have e3 : (2 : Int) ^ (8 * k) = ((256 ^ k : Nat) : Int) := by
    rw [Int.pow_mul]
    simp
  rw [e3, UInt8.toNat_ofNat']
  generalize 256 ^ k = P
  have e4 : ((V / P % 2 ^ 8 : Nat) : Int) = (V : Int) / (P : Int) % 256 := by rw [Int.natCast_emod, Int.natCast_ediv]; rfl
  rw [e4]
theorem Sl_new' (w : World) (c : Int) (b : UInt8) (h : Value.int .u8 c = .int .u8 b.toNat) : Sl (w.alloc (.cells #[.int .u8 c] 5)) (some ⟨w.heap.size, 0, none⟩) [b] := by
  rw [h]; exact Sl_new w b
theorem own_step {w1 w2 : World} {B j n V : Nat} {v2 : Value} (hj : j < n) (h : w2.ownsRow B 5 1 v2 (j + 1) (bc ((be n V).take j) ++ bc [UInt8.ofNat (V / 256 ^ (n - 1 - j))])) : w2.ownsRow B 5 1 v2 (j + 1) (bc ((be n V).take (j + 1))) := by
  rw [be_take V n j hj, bc_append]; exact h

set_option maxRecDepth 10000 in
theorem bytes_any (V n : Nat) (w : World) (hV : V < 18446744073709551616) (hn1 : 1 ≤ n) (hn8 : n ≤ 8) :
    Calls Tryd.prog 48 #[.int .u64 V, .int .i64 n] w fun e w' => ∃ v, e = .returned v ∧ w'.ownsRow w.heap.size 5 1 v n (bc (be n V)) ∧ Below w.heap.size w w' := by
  obtain ⟨i0, hi, hz0, hz1, hz2⟩ := info_parts info5
  go_enter Tryd.func48, Tryd.ntmps48
  go_wp2
  go_loopw [5, 6] (fun v i wr => ∃ j : Nat, j ≤ n ∧ i = .int .i64 ((n : Int) - 1 - j) ∧ Hid (wr.ownsRow w.heap.size 5 1 v j (bc ((be n V).take j))) ∧ Hid (Below w.heap.size w wr)) (fun _ i _ => (intOf i + 1).toNat)
  case atStart => exact ⟨0, Nat.zero_le _, by go_num, World.ownsRow_nil _ _ _ _, Below.refl _ _⟩
  case round =>
    obtain ⟨j, hj, rfl, HO, HB⟩ := hrel
    by_cases hlt : j < n
    · go_wp2_with (at_builtin; refine wpList_append_bytes rfl (.tmp 13) (.tmp 20) rfl w.heap.size i0 Tryd.underlying22 hi hz0 hz1 hz2 _ j (bc ((be n V).take j)) rfl (HO.out.alloc _) (some ⟨wr.heap.size, 0, none⟩) 1 1 [UInt8.ofNat (V / 256 ^ (n - 1 - j))] rfl rfl (fun h => by cases h) (Sl_new' wr _ _ (byte_val V (n - 1 - j))) (by omega) (by have := HB.out.size; simp; omega) ?_; intro v2 w2 hown hgrow; have HO2 := mkHid (own_step (w1 := wr) hlt hown); have HB2 := mkHid ((HB.out.alloc HB.out.size _).grown hgrow (by have := HB.out.size; simp; omega) (fun k hk => (HO.out.lt k hk).1)); clear hown hgrow)
      go_roundw
      case rel => exact ⟨j + 1, by omega, by go_num, HO2, HB2⟩
      case measure => simp [intOf]; omega
    · go_wp2
      go_ret
      have : j = n := by omega
      subst this
      have h := HO.out
      rw [List.take_of_length_le (by rw [be_length]; omega)] at h
      exact ⟨_, rfl, h, HB.out⟩

theorem bytes_int (V n : Int) (w : World) (hV0 : 0 ≤ V) (hV : V < 18446744073709551616) (hn1 : 1 ≤ n) (hn8 : n ≤ 8) :
    Calls Tryd.prog 48 #[.int .u64 V, .int .i64 n] w fun e w' => ∃ v, e = .returned v ∧ w'.ownsRow w.heap.size 5 1 v n.toNat (bc (be n.toNat V.toNat)) ∧ Below w.heap.size w w' := by
  obtain ⟨V, rfl⟩ := Int.eq_ofNat_of_zero_le hV0
  obtain ⟨n, rfl⟩ := Int.eq_ofNat_of_zero_le (show 0 ≤ n by omega)
  exact bytes_any V n w (by omega) (by omega) (by omega)
end Go.Proofs.YtcppnellgkbndaaDoor
