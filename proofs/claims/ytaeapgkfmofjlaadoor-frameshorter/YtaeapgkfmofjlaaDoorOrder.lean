/- What the small functions of octet answer, for every input: contracts. What octet.lay answers, for every input: a contract. Plain facts: bytes stand in the order of their numbers; masks. Plain facts on the number of bytes. What octet.PutWide answers, for every input: contracts. What octet.take and octet.isPlace answer, for every input: contracts. What octet.Get and the reference's Number and Get answer, for every input: contracts. What octet.Var answers, for every input: contracts. The walk of caravellaw01.OctetOrder. -/
import Derived.Test.YtaeapgkfmofjlaaDoorRows
import Derived.WalkKit
import Derived.ProofKit
import Derived.OpenShut
import Derived.Laws.CopyOwn
import Derived.Laws.BitsLemmas
import Derived.Laws.Bits64
import Derived.Laws.IdiomStrings
namespace Go.Proofs.YtaeapgkfmofjlaaDoor
open Go.ChangeShapes Go.WideShapes Go.ChangeAt Go.RowKit
set_option linter.unusedVariables false

/-- The table of widths as it lies. -/
def Tb (w : World) : Prop := w.cell? ⟨2, 0, none⟩ = some (.int .i64 1) ∧ w.cell? ⟨2, 1, none⟩ = some (.int .i64 2) ∧ w.cell? ⟨2, 2, none⟩ = some (.int .i64 4) ∧ w.cell? ⟨2, 3, none⟩ = some (.int .i64 8)

def fitB (v P : Int) : Bool := decide (0 ≤ v ∧ v < P)
theorem fitB_yes {v P : Int} (h : 0 ≤ v ∧ v < P) : fitB v P = true := decide_eq_true h
theorem fitB_no {v P : Int} (h : v < 0 ∨ P ≤ v) : fitB v P = false := decide_eq_false (by omega)
def mV (n : Int) : Int := if n = 1 then 0 else if n = 2 then 1 else if n = 4 then 2 else if n = 8 then 3 else 0
def mB (n : Int) : Bool := decide (n = 1 ∨ n = 2 ∨ n = 4 ∨ n = 8)
def szN (v : Int) : Int := if v < 64 then 1 else if v < 16384 then 2 else if v < 1073741824 then 4 else 8
theorem ret_bool {a b : Bool} (h : a = b) : Ending.returned (.bool a) = .returned (.bool b) := by rw [h]
theorem ret_ib {a a' : Int} {b b' : Bool} (h : a = a') (h' : b = b') : Ending.returned (.tuple #[.int .i64 a, .bool b]) = .returned (.tuple #[.int .i64 a', .bool b']) := by rw [h, h']
theorem ret_ii {a a' b b' : Int} (h : a = a') (h' : b = b') : Ending.returned (.tuple #[.int .i64 a, .int .i64 b]) = .returned (.tuple #[.int .i64 a', .int .i64 b']) := by rw [h, h']

theorem ix_0 (w : World) : Sem.run Tryd.prog (Instr.index 129 (.agg #[.int .i64 1, .int .i64 2, .int .i64 4, .int .i64 8]) (.int .i64 0)) w = .ok (.int .i64 1) w := by kernel_rfl
theorem ix_1 (w : World) : Sem.run Tryd.prog (Instr.index 129 (.agg #[.int .i64 1, .int .i64 2, .int .i64 4, .int .i64 8]) (.int .i64 1)) w = .ok (.int .i64 2) w := by kernel_rfl
theorem ix_2 (w : World) : Sem.run Tryd.prog (Instr.index 129 (.agg #[.int .i64 1, .int .i64 2, .int .i64 4, .int .i64 8]) (.int .i64 2)) w = .ok (.int .i64 4) w := by kernel_rfl
theorem ix_3 (w : World) : Sem.run Tryd.prog (Instr.index 129 (.agg #[.int .i64 1, .int .i64 2, .int .i64 4, .int .i64 8]) (.int .i64 3)) w = .ok (.int .i64 8) w := by kernel_rfl

theorem isVar_yes (v : Int) (w : World) (h0 : 0 ≤ v) (h1 : v ≤ 4611686018427387903) :
    Calls Tryd.prog 68 #[.int .i64 v] w fun e w' => e = .returned (.bool true) ∧ w' = w := by
  go_enter Tryd.func68, Tryd.ntmps68
  go_wp2
  go_ret
  exact ⟨rfl, rfl⟩

theorem isVar_no (v : Int) (w : World) (h : v < 0 ∨ 4611686018427387903 < v) :
    Calls Tryd.prog 68 #[.int .i64 v] w fun e w' => e = .returned (.bool false) ∧ w' = w := by
  rcases h with h | h
  · go_enter Tryd.func68, Tryd.ntmps68
    go_wp2
    go_ret
    exact ⟨rfl, rfl⟩
  · have h0 : 0 ≤ v := by omega
    have h1 : decide (v ≤ 4611686018427387903) = false := by simp; omega
    go_enter Tryd.func68, Tryd.ntmps68
    go_wp2
    go_ret
    exact ⟨by simp, rfl⟩

theorem room_any (n : Int) (w : World) (h0 : 0 ≤ n) (h1 : n ≤ 8) :
    Calls Tryd.prog 60 #[.int .i64 n] w fun e w' => e = .returned (.int .i64 (8 * n - 2)) ∧ w' = w := by
  go_enter Tryd.func60, Tryd.ntmps60
  go_wp2
  go_ret
  exact ⟨rfl, rfl⟩

theorem fits_1 (v : Int) (w : World) :
    Calls Tryd.prog 61 #[.int .i64 v, .int .i64 1] w fun e w' => e = .returned (.bool (fitB v 64)) ∧ w' = w := by
  go_enter Tryd.func61, Tryd.ntmps61
  go_wp2_with fail
  refine (room_any _ _ (by omega) (by omega)).mono ?_
  rintro e w' ⟨rfl, rfl⟩
  go_wp2
  go_ret
  exact ⟨ret_bool (by unfold fitB; rw [Bool.eq_iff_iff]; simp; omega), rfl⟩

theorem fits_2 (v : Int) (w : World) :
    Calls Tryd.prog 61 #[.int .i64 v, .int .i64 2] w fun e w' => e = .returned (.bool (fitB v 16384)) ∧ w' = w := by
  go_enter Tryd.func61, Tryd.ntmps61
  go_wp2_with fail
  refine (room_any _ _ (by omega) (by omega)).mono ?_
  rintro e w' ⟨rfl, rfl⟩
  go_wp2
  go_ret
  exact ⟨ret_bool (by unfold fitB; rw [Bool.eq_iff_iff]; simp; omega), rfl⟩

theorem fits_4 (v : Int) (w : World) :
    Calls Tryd.prog 61 #[.int .i64 v, .int .i64 4] w fun e w' => e = .returned (.bool (fitB v 1073741824)) ∧ w' = w := by
  go_enter Tryd.func61, Tryd.ntmps61
  go_wp2_with fail
  refine (room_any _ _ (by omega) (by omega)).mono ?_
  rintro e w' ⟨rfl, rfl⟩
  go_wp2
  go_ret
  exact ⟨ret_bool (by unfold fitB; rw [Bool.eq_iff_iff]; simp; omega), rfl⟩

theorem fits_8 (v : Int) (w : World) :
    Calls Tryd.prog 61 #[.int .i64 v, .int .i64 8] w fun e w' => e = .returned (.bool (fitB v 4611686018427387904)) ∧ w' = w := by
  go_enter Tryd.func61, Tryd.ntmps61
  go_wp2_with fail
  refine (room_any _ _ (by omega) (by omega)).mono ?_
  rintro e w' ⟨rfl, rfl⟩
  go_wp2
  go_ret
  exact ⟨ret_bool (by unfold fitB; rw [Bool.eq_iff_iff]; simp; omega), rfl⟩

set_option maxRecDepth 10000 in
theorem mark_any (n : Int) (w : World) (ht : Tb w) :
    Calls Tryd.prog 67 #[.int .i64 n] w fun e w' => e = .returned (.tuple #[.int .i64 (mV n), .bool (mB n)]) ∧ w' = w := by
  obtain ⟨t0, t1, t2, t3⟩ := ht
  go_enter Tryd.func67, Tryd.ntmps67
  go_wp2
  have x0 := ix_0
  have x1 := ix_1
  have x2 := ix_2
  have x3 := ix_3
  go_loop [7] (fun i => ∃ k : Nat, k ≤ 4 ∧ i = .int .i64 k ∧ (1 ≤ k → n ≠ 1) ∧ (2 ≤ k → n ≠ 2) ∧ (3 ≤ k → n ≠ 4) ∧ (4 ≤ k → n ≠ 8)) (fun i => 4 - (intOf i).toNat)
  case atStart => exact ⟨0, by omega, rfl, by omega, by omega, by omega, by omega⟩
  case round =>
    obtain ⟨k, hk, rfl, hk1, hk2, hk3, hk4⟩ := hrel
    have hc : k = 0 ∨ k = 1 ∨ k = 2 ∨ k = 3 ∨ k = 4 := by omega
    rcases hc with rfl | rfl | rfl | rfl | rfl
    · clear hk1 hk2 hk3 hk4 t0 t1 t2 t3
      by_cases hn : n = 1
      · subst hn
        go_wp2
        go_ret2
        exact ⟨ret_ib (by decide) (by decide), rfl⟩
      · go_wp2
        go_round
        case rel => exact ⟨1, by omega, by go_num, by omega, by omega, by omega, by omega⟩
        case measure => simp [intOf]
    · have n1 : n ≠ 1 := hk1 (by omega)
      clear hk1 hk2 hk3 hk4 t0 t1 t2 t3
      by_cases hn : n = 2
      · subst hn
        go_wp2
        go_ret2
        exact ⟨ret_ib (by decide) (by decide), rfl⟩
      · go_wp2
        go_round
        case rel => exact ⟨2, by omega, by go_num, by omega, by omega, by omega, by omega⟩
        case measure => simp [intOf]
    · have n1 : n ≠ 1 := hk1 (by omega)
      have n2 : n ≠ 2 := hk2 (by omega)
      clear hk1 hk2 hk3 hk4 t0 t1 t2 t3
      by_cases hn : n = 4
      · subst hn
        go_wp2
        go_ret2
        exact ⟨ret_ib (by decide) (by decide), rfl⟩
      · go_wp2
        go_round
        case rel => exact ⟨3, by omega, by go_num, by omega, by omega, by omega, by omega⟩
        case measure => simp [intOf]
    · have n1 : n ≠ 1 := hk1 (by omega)
      have n2 : n ≠ 2 := hk2 (by omega)
      have n4 : n ≠ 4 := hk3 (by omega)
      clear hk1 hk2 hk3 hk4 t0 t1 t2 t3
      by_cases hn : n = 8
      · subst hn
        go_wp2
        go_ret2
        exact ⟨ret_ib (by decide) (by decide), rfl⟩
      · go_wp2
        go_round
        case rel => exact ⟨4, by omega, by go_num, by omega, by omega, by omega, by omega⟩
        case measure => simp [intOf]
    · have n1 : n ≠ 1 := hk1 (by omega)
      have n2 : n ≠ 2 := hk2 (by omega)
      have n4 : n ≠ 4 := hk3 (by omega)
      have n8 : n ≠ 8 := hk4 (by omega)
      have HD : Hid (mV n = 0) := by unfold Hid mV; rw [if_neg n1, if_neg n2, if_neg n4, if_neg n8]
      have HB : Hid (mB n = false) := by unfold Hid mB; exact decide_eq_false (by omega)
      clear hk1 hk2 hk3 hk4 t0 t1 t2 t3 n1 n2 n4 n8
      go_wp2
      go_ret2
      exact ⟨ret_ib HD.out.symm HB.out.symm, rfl⟩

set_option maxRecDepth 10000 in
theorem size_yes (v : Int) (w : World) (ht : Tb w) (h0 : 0 ≤ v) (h1 : v ≤ 4611686018427387903) :
    Calls Tryd.prog 44 #[.int .i64 v] w fun e w' => e = .returned (.tuple #[.int .i64 (szN v), .int .i64 0]) ∧ w' = w := by
  obtain ⟨t0, t1, t2, t3⟩ := ht
  go_enter Tryd.func44, Tryd.ntmps44
  go_wp2
  have x0 := ix_0
  have x1 := ix_1
  have x2 := ix_2
  have x3 := ix_3
  go_loop [7] (fun i => ∃ k : Nat, k ≤ 3 ∧ i = .int .i64 k ∧ (1 ≤ k → 64 ≤ v) ∧ (2 ≤ k → 16384 ≤ v) ∧ (3 ≤ k → 1073741824 ≤ v)) (fun i => 4 - (intOf i).toNat)
  case atStart => exact ⟨0, by omega, rfl, by omega, by omega, by omega⟩
  case round =>
    obtain ⟨k, hk, rfl, hk1, hk2, hk3⟩ := hrel
    have hc : k = 0 ∨ k = 1 ∨ k = 2 ∨ k = 3 := by omega
    rcases hc with rfl | rfl | rfl | rfl
    · clear hk1 hk2 hk3 t0 t1 t2 t3
      by_cases hd : v < 64
      · have HD : Hid (szN v = 1) := by unfold Hid szN; rw [if_pos hd]
        have hf := fitB_yes (v := v) (P := 64) ⟨h0, hd⟩
        go_wp2_with fail
        refine (fits_1 _ _).mono ?_
        rintro e w' ⟨rfl, rfl⟩
        go_wp2
        go_ret2
        exact ⟨ret_ii HD.out.symm rfl, rfl⟩
      · have hf := fitB_no (v := v) (P := 64) (by omega)
        go_wp2_with fail
        refine (fits_1 _ _).mono ?_
        rintro e w' ⟨rfl, rfl⟩
        go_wp2
        go_round
        case rel => exact ⟨1, by omega, by go_num, by omega, by omega, by omega⟩
        case measure => simp [intOf]
    · have n1 := hk1 (by omega)
      clear hk1 hk2 hk3 t0 t1 t2 t3
      by_cases hd : v < 16384
      · have HD : Hid (szN v = 2) := by unfold Hid szN; rw [if_neg (by omega), if_pos hd]
        have hf := fitB_yes (v := v) (P := 16384) ⟨h0, hd⟩
        go_wp2_with fail
        refine (fits_2 _ _).mono ?_
        rintro e w' ⟨rfl, rfl⟩
        go_wp2
        go_ret2
        exact ⟨ret_ii HD.out.symm rfl, rfl⟩
      · have hf := fitB_no (v := v) (P := 16384) (by omega)
        go_wp2_with fail
        refine (fits_2 _ _).mono ?_
        rintro e w' ⟨rfl, rfl⟩
        go_wp2
        go_round
        case rel => exact ⟨2, by omega, by go_num, by omega, by omega, by omega⟩
        case measure => simp [intOf]
    · have n1 := hk1 (by omega)
      have n2 := hk2 (by omega)
      clear hk1 hk2 hk3 t0 t1 t2 t3
      by_cases hd : v < 1073741824
      · have HD : Hid (szN v = 4) := by unfold Hid szN; rw [if_neg (by omega), if_neg (by omega), if_pos hd]
        have hf := fitB_yes (v := v) (P := 1073741824) ⟨h0, hd⟩
        go_wp2_with fail
        refine (fits_4 _ _).mono ?_
        rintro e w' ⟨rfl, rfl⟩
        go_wp2
        go_ret2
        exact ⟨ret_ii HD.out.symm rfl, rfl⟩
      · have hf := fitB_no (v := v) (P := 1073741824) (by omega)
        go_wp2_with fail
        refine (fits_4 _ _).mono ?_
        rintro e w' ⟨rfl, rfl⟩
        go_wp2
        go_round
        case rel => exact ⟨3, by omega, by go_num, by omega, by omega, by omega⟩
        case measure => simp [intOf]
    · have n1 := hk1 (by omega)
      have n2 := hk2 (by omega)
      have n3 := hk3 (by omega)
      clear hk1 hk2 hk3 t0 t1 t2 t3
      have HD : Hid (szN v = 8) := by unfold Hid szN; rw [if_neg (by omega), if_neg (by omega), if_neg (by omega)]
      have hf := fitB_yes (v := v) (P := 4611686018427387904) (by omega)
      go_wp2_with fail
      refine (fits_8 _ _).mono ?_
      rintro e w' ⟨rfl, rfl⟩
      go_wp2
      go_ret2
      exact ⟨ret_ii HD.out.symm rfl, rfl⟩

set_option maxRecDepth 10000 in
theorem size_no (v : Int) (w : World) (ht : Tb w) (h : v < 0 ∨ 4611686018427387903 < v) :
    Calls Tryd.prog 44 #[.int .i64 v] w fun e w' => e = .returned (.tuple #[.int .i64 0, .int .i64 2]) ∧ w' = w := by
  obtain ⟨t0, t1, t2, t3⟩ := ht
  have f1 := fitB_no (v := v) (P := 64) (by omega)
  have f2 := fitB_no (v := v) (P := 16384) (by omega)
  have f4 := fitB_no (v := v) (P := 1073741824) (by omega)
  have f8 := fitB_no (v := v) (P := 4611686018427387904) (by omega)
  clear h
  go_enter Tryd.func44, Tryd.ntmps44
  go_wp2
  have x0 := ix_0
  have x1 := ix_1
  have x2 := ix_2
  have x3 := ix_3
  go_loop [7] (fun i => ∃ k : Nat, k ≤ 4 ∧ i = .int .i64 k) (fun i => 4 - (intOf i).toNat)
  case atStart => exact ⟨0, by omega, rfl⟩
  case round =>
    obtain ⟨k, hk, rfl⟩ := hrel
    have hc : k = 0 ∨ k = 1 ∨ k = 2 ∨ k = 3 ∨ k = 4 := by omega
    clear t0 t1 t2 t3
    rcases hc with rfl | rfl | rfl | rfl | rfl
    · go_wp2_with fail
      refine (fits_1 _ _).mono ?_
      rintro e w' ⟨rfl, rfl⟩
      go_wp2
      go_round
      case rel => exact ⟨1, by omega, by go_num⟩
      case measure => simp [intOf]
    · go_wp2_with fail
      refine (fits_2 _ _).mono ?_
      rintro e w' ⟨rfl, rfl⟩
      go_wp2
      go_round
      case rel => exact ⟨2, by omega, by go_num⟩
      case measure => simp [intOf]
    · go_wp2_with fail
      refine (fits_4 _ _).mono ?_
      rintro e w' ⟨rfl, rfl⟩
      go_wp2
      go_round
      case rel => exact ⟨3, by omega, by go_num⟩
      case measure => simp [intOf]
    · go_wp2_with fail
      refine (fits_8 _ _).mono ?_
      rintro e w' ⟨rfl, rfl⟩
      go_wp2
      go_round
      case rel => exact ⟨4, by omega, by go_num⟩
      case measure => simp [intOf]
    · go_wp2
      go_ret2
      exact ⟨rfl, rfl⟩
end Go.Proofs.YtaeapgkfmofjlaaDoor
namespace Go.Proofs.YtaeapgkfmofjlaaDoor
open Go.ChangeShapes Go.WideShapes Go.ChangeAt Go.RowKit
set_option linter.unusedVariables false

theorem mkHid {p : Prop} (h : p) : Hid p := h

/-- bytes as cells -/
def bc (l : List UInt8) : List Value := l.map fun b => Value.int .u8 b.toNat
/-- the k lowest bytes of v, the highest first -/
def be : Nat → Nat → List UInt8
  | 0, _ => []
  | k + 1, v => UInt8.ofNat (v / 256 ^ k) :: be k v
/-- the slice's bytes are l -/
def Sl (w : World) (ao : Option Addr) (l : List UInt8) : Prop := ∀ j (hj : j < l.length), ∃ b off, ao = some ⟨b, off, none⟩ ∧ w.cell? ⟨b, off + j, none⟩ = some (.int .u8 (l[j].toNat))

theorem info5 : (Tryd.prog.info? 5).map (fun i => (i.zero, i.size, i.bytes)) = some (some (.int .u8 0), 1, 1) := by kernel_rfl

theorem block_of_owns {w : World} {base g m : Nat} {xs : List Value} (h : w.ownsRow base 5 1 (.slice (some ⟨g, 0, none⟩) m m) m xs) : w.heap[g]? = some (.cells xs.toArray 5 (0, 0)) := by
  obtain ⟨hl, ⟨h1, _⟩ | ⟨g', cap, cur, he, _, hb, _, _, hsz, htk⟩⟩ := h
  · cases h1
  · simp only [Value.slice.injEq, Option.some.injEq, Addr.mk.injEq] at he
    obtain ⟨⟨rfl, _⟩, _, rfl⟩ := he
    rw [hb]
    have : cur.toList = xs := by
      rw [← htk, List.take_of_length_le (by simp; omega)]
    rw [← this]

theorem bc_length (l : List UInt8) : (bc l).length = l.length := by simp [bc]
theorem bc_append (a b : List UInt8) : bc (a ++ b) = bc a ++ bc b := by simp [bc]
theorem be_length (k V : Nat) : (be k V).length = k := by induction k with
  | zero => rfl
  | succ k ih => simp [be, ih]
theorem made_zero (n : Nat) : (madeCells #[Value.int .u8 0] n).toList = bc (List.replicate n 0) := by
  rw [toList_madeCells_one]; simp [bc]

theorem Sl_addr {w : World} {ao : Option Addr} {l : List UInt8} (hs : Sl w ao l) (h : 0 < l.length) : ∃ b off, ao = some ⟨b, off, none⟩ ∧ ∀ j (hj : j < l.length), w.cell? ⟨b, off + j, none⟩ = some (.int .u8 (l[j].toNat)) := by
  obtain ⟨b, off, he, _⟩ := hs 0 h
  refine ⟨b, off, he, fun j hj => ?_⟩
  obtain ⟨b', off', he', hc⟩ := hs j hj
  rw [he] at he'
  simp only [Option.some.injEq, Addr.mk.injEq] at he'
  obtain ⟨rfl, rfl, _⟩ := he'
  exact hc

theorem add_none (b off j : Nat) : (⟨b, off, none⟩ : Addr).add j = ⟨b, off + j, none⟩ := by
  unfold Addr.add
  split
  · rename_i h; subst h; rfl
  · rfl

/-- the new bytes behind k rounds -/
def layAt (l : List UInt8) (n V k : Nat) : List UInt8 := l ++ (List.replicate (n - k) 0 ++ be k V)
theorem layAt_length (l : List UInt8) (n V k : Nat) (hk : k ≤ n) : (layAt l n V k).length = l.length + n := by
  simp [layAt, be_length]; omega
theorem layAt_start (l : List UInt8) (n V : Nat) : splice (bc (List.replicate (l.length + n) 0)) 0 (bc l) = bc (layAt l n V 0) := by
  have e : (bc (List.replicate (l.length + n) 0)).drop (0 + (bc l).length) = bc (List.replicate n 0) := by
    rw [bc_length, Nat.zero_add]; simp [bc]
  unfold splice layAt
  rw [e, bc_append]
  simp [be]
theorem layAt_end (l : List UInt8) (n V : Nat) : layAt l n V n = l ++ be n V := by simp [layAt]

theorem layAt_zero (l : List UInt8) (n V k : Nat) (hk : k < n) : (bc (layAt l n V k))[l.length + n - 1 - k]? = some (.int .u8 0) := by
  unfold layAt
  rw [bc_append, bc_append, List.getElem?_append_right (by rw [bc_length]; omega), List.getElem?_append_left (by simp [bc]; omega)]
  simp [bc, List.getElem?_replicate]
  omega

theorem be_head (V k : Nat) : be (k + 1) V = UInt8.ofNat (V / 256 ^ k) :: be k V := rfl

theorem layAt_step (l : List UInt8) (n V k : Nat) (hk : k < n) : (bc (layAt l n V k)).set (l.length + n - 1 - k) (.int .u8 ((V : Int) / 2 ^ (8 * k) % 256)) = bc (layAt l n V (k + 1)) := by
  have e1 : layAt l n V k = (l ++ List.replicate (n - (k + 1)) 0) ++ (0 :: be k V) := by
    unfold layAt
    have : n - k = (n - (k + 1)) + 1 := by omega
    rw [this, List.replicate_succ']
    simp
  have e2 : layAt l n V (k + 1) = (l ++ List.replicate (n - (k + 1)) 0) ++ (UInt8.ofNat (V / 256 ^ k) :: be k V) := by
    unfold layAt
    rw [be_head]
    simp
  have hlen : (bc (l ++ List.replicate (n - (k + 1)) 0)).length = l.length + n - 1 - k := by rw [bc_length]; simp; omega
  have ev : Value.int .u8 ((V : Int) / 2 ^ (8 * k) % 256) = Value.int .u8 ((UInt8.ofNat (V / 256 ^ k)).toNat : Int) := by
    have e3 : (2 : Int) ^ (8 * k) = ((256 ^ k : Nat) : Int) := by
      rw [Int.pow_mul]
      simp
    rw [e3, UInt8.toNat_ofNat']
    generalize 256 ^ k = P
    have e4 : ((V / P % 2 ^ 8 : Nat) : Int) = (V : Int) / (P : Int) % 256 := by rw [Int.natCast_emod, Int.natCast_ediv]; rfl
    rw [e4]
  rw [e1, e2, bc_append _ (0 :: be k V), bc_append _ (UInt8.ofNat (V / 256 ^ k) :: be k V), List.set_append_right _ _ (by omega), hlen, Nat.sub_self, ev]
  rfl

theorem layAt_stored {w wr : World} {l : List UInt8} {n V k : Nat} (hk : k < n) (hb : wr.heap[w.heap.size]? = some (.cells (bc (layAt l n V k)).toArray 5 (0, 0))) :
    (wr.setCell ⟨w.heap.size, l.length + n - 1 - k, none⟩ (.int .u8 ((V : Int) / 2 ^ (8 * k) % 256))).heap[w.heap.size]? = some (.cells (bc (layAt l n V (k + 1))).toArray 5 (0, 0)) := by
  rw [heap_setCell_same wr w.heap.size _ _ 5 _ hb, ← layAt_step l n V k hk]
  simp

theorem copy_pos {w w1 : World} {ao : Option Addr} {l : List UInt8} {g : Nat} (hs : Sl w ao l) (hb : Below w.heap.size w w1) : 0 < (bc l).length → (some (⟨g, 0, none⟩ : Addr)) = some ⟨g, 0, none⟩ ∧ ∃ ad, ao = some ad ∧ ∀ j v, (bc l)[j]? = some v → w1.cell? (ad.add j) = some v := by
  intro h
  rw [bc_length] at h
  obtain ⟨b, off, he, hc⟩ := Sl_addr hs h
  refine ⟨rfl, ⟨b, off, none⟩, he, fun j v hj => ?_⟩
  have hj' : j < l.length := by
    have := (List.getElem?_eq_some_iff.1 hj).1
    simpa [bc] using this
  have hv : v = .int .u8 (l[j].toNat) := by
    simp [bc, List.getElem?_eq_getElem hj'] at hj
    exact hj.symm
  have hcj := hc j hj'
  have hlt := World.block_lt_of_cell? w _ hcj
  rw [hv, add_none, ← hcj]
  exact World.cell?_of_block (w := w) (w' := w1) (a := ⟨b, off + j, none⟩) (hb.block b hlt)

theorem bc_one (l : List UInt8) : ∀ v ∈ bc l, v.oneCell' = true := by
  intro v hv
  simp [bc] at hv
  obtain ⟨b, _, rfl⟩ := hv
  rfl

theorem lay_made {w w1 : World} {base m : Nat} (h : w1.ownsRow base 5 1 (.slice (some ⟨w.heap.size, 0, none⟩) m m) m (madeCells (Value.int .u8 0).cells (m * 1)).toList) : w1.heap[w.heap.size]? = some (.cells (bc (List.replicate m 0)).toArray 5 (0, 0)) := by
  rw [block_of_owns h]
  have e : (Value.int .u8 0).cells = #[Value.int .u8 0] := rfl
  rw [e, made_zero, Nat.mul_one]

set_option maxRecDepth 10000 in
theorem lay_any (ao : Option Addr) (l : List UInt8) (cap : Nat) (V n : Nat) (w : World) (hs : Sl w ao l) (hl : l.length ≤ 140737488351232) (hV : V < 18446744073709551616) (hn1 : 1 ≤ n) (hn8 : n ≤ 8) :
    Calls Tryd.prog 69 #[.slice ao l.length cap, .int .u64 V, .int .i64 n] w fun e w' => e = .returned (.slice (some ⟨w.heap.size, 0, none⟩) (l.length + n) (l.length + n)) ∧
      w'.heap[w.heap.size]? = some (.cells (bc (l ++ be n V)).toArray 5 (0, 0)) ∧ Below w.heap.size w w' := by
  obtain ⟨i0, hi, hz0, hz1, hz2⟩ := info_parts info5
  have hsz5 : (Tryd.prog.info? 5).map (·.size) = some 1 := by kernel_rfl
  have HS := mkHid hs
  clear hs
  go_enter Tryd.func69, Tryd.ntmps69
  go_wp2_with (first
    | (at_make; refine wpList_make_full _ rfl _ _ 22 rfl w.heap.size 5 i0 (.int .u8 0) 1 Tryd.underlying22 hi hz0 hz1 .i64 .i64 _ _ (l.length + n) rfl rfl (by omega) (by omega) (by rw [hz2]; omega) (by unfold maxLen; omega) (Nat.le_refl _) ?_; intro w1 hown hgrow; have HB := mkHid (lay_made hown); have HL := mkHid ((Below.refl w.heap.size w).grown hgrow (Nat.le_refl _) (by intro k hk; cases hk)); clear hown hgrow)
    | (refine wpList_copy_splice rfl (.tmp 14) (.tmp 15) 22 22 rfl 5 Tryd.underlying22 hsz5 _ _ _ _ _ _ rfl rfl w.heap.size 0 (bc (List.replicate (l.length + n) 0)) 5 HB.out (bc l) (by rw [bc_length]; exact (Nat.min_eq_left (by omega)).symm) (copy_pos HS.out HL.out) (by simp [bc_length]) (bc_one l) w.heap.size w HL.out (Nat.le_refl _) ?_; intro w2 HB2 hl2; have HL2 := mkHid hl2; clear hl2 HB HL))
  rw [layAt_start l n V] at HB2
  go_loopw [18] (fun i wr => ∃ k : Nat, k ≤ n ∧ i = .int .i64 k ∧ Hid (wr.heap[w.heap.size]? = some (.cells (bc (layAt l n V k)).toArray 5 (0, 0))) ∧ Hid (Below w.heap.size w wr)) (fun i _ => n - (intOf i).toNat)
  case atStart => exact ⟨0, Nat.zero_le _, rfl, HB2, HL2⟩
  case round =>
    obtain ⟨k, hk, rfl, HBr, HLr⟩ := hrel
    by_cases hlt : k < n
    · have hfr : ∀ j, wr.frozen? ⟨w.heap.size, j, none⟩ = false := fun j => by unfold World.frozen?; rw [HBr.out]; simp
      have hcell : wr.cell? ⟨w.heap.size, l.length + n - 1 - k, none⟩ = some (.int .u8 0) := by unfold World.cell?; rw [HBr.out]; simpa using layAt_zero l n V k hlt
      go_wp2
      go_roundw
      case rel => exact ⟨k + 1, by omega, by go_num, layAt_stored hlt HBr.out, HLr.out.setCell (Nat.le_refl _) _⟩
      case measure => simp [intOf]; omega
    · go_wp2
      go_ret
      have : k = n := by omega
      subst this
      have h := HBr.out
      rw [layAt_end] at h
      exact ⟨rfl, h, HLr.out⟩
end Go.Proofs.YtaeapgkfmofjlaaDoor
namespace Go.Proofs.YtaeapgkfmofjlaaDoor

theorem and_max (a : Int) : 0 ≤ bits .and .i64 a 4611686018427387903 ∧ bits .and .i64 a 4611686018427387903 ≤ 4611686018427387903 := by
  have h : (BitVec.ofInt 64 a &&& BitVec.ofInt 64 4611686018427387903).toNat ≤ 4611686018427387903 := by
    rw [BitVec.toNat_and]
    exact Nat.and_le_right
  have e : bits .and .i64 a 4611686018427387903 = IntKind.i64.wrap ((BitVec.ofInt 64 a &&& BitVec.ofInt 64 4611686018427387903).toNat : Int) := rfl
  rw [e, IntKind.wrap_i64]
  omega

theorem less_lex (P h1 h2 r1 r2 : Nat) (hr1 : r1 < P) (hr2 : r2 < P) : (h1 * P + r1 < h2 * P + r2) ↔ (h1 < h2 ∨ (h1 = h2 ∧ r1 < r2)) := by
  constructor
  · intro h
    rcases Nat.lt_trichotomy h1 h2 with hc | hc | hc
    · exact Or.inl hc
    · subst hc; exact Or.inr ⟨rfl, by omega⟩
    · exfalso
      have : (h2 + 1) * P ≤ h1 * P := Nat.mul_le_mul_right P hc
      rw [Nat.add_mul, Nat.one_mul] at this
      omega
  · rintro (hc | ⟨rfl, hc⟩)
    · have : (h1 + 1) * P ≤ h2 * P := Nat.mul_le_mul_right P hc
      rw [Nat.add_mul, Nat.one_mul] at this
      omega
    · omega

theorem be_less (x y : Nat) : ∀ k, Op.bytesLess (be k x) (be k y) = decide (x % 256 ^ k < y % 256 ^ k)
  | 0 => by simp [be, Op.bytesLess, Nat.mod_one]
  | k + 1 => by
    have hp : 0 < 256 ^ k := Nat.pow_pos (by decide)
    have ex : ∀ z : Nat, z % 256 ^ (k + 1) = (z / 256 ^ k % 256) * 256 ^ k + z % 256 ^ k := fun z => by
      rw [Nat.pow_succ, Nat.mod_mul, Nat.mul_comm (256 ^ k) (z / 256 ^ k % 256), Nat.add_comm]
    have eb : ∀ a b : Nat, (UInt8.ofNat a < UInt8.ofNat b) ↔ a % 256 < b % 256 := fun a b => by
      rw [UInt8.lt_iff_toNat_lt, UInt8.toNat_ofNat', UInt8.toNat_ofNat']
    have eq : ∀ a b : Nat, (UInt8.ofNat a = UInt8.ofNat b) ↔ a % 256 = b % 256 := fun a b => by
      rw [← UInt8.toNat_inj, UInt8.toNat_ofNat', UInt8.toNat_ofNat']
    show (decide (UInt8.ofNat (x / 256 ^ k) < UInt8.ofNat (y / 256 ^ k)) || (UInt8.ofNat (x / 256 ^ k) == UInt8.ofNat (y / 256 ^ k) && Op.bytesLess (be k x) (be k y))) = _
    rw [be_less x y k, ex x, ex y, Bool.eq_iff_iff]
    simp only [Bool.or_eq_true, Bool.and_eq_true, decide_eq_true_eq, beq_iff_eq, eb, eq]
    exact (less_lex _ _ _ _ _ (Nat.mod_lt _ hp) (Nat.mod_lt _ hp)).symm

theorem szN_mono (a b : Int) (h : a ≤ b) : szN a ≤ szN b := by
  unfold szN
  by_cases h1 : a < 64
  · rw [if_pos h1]
    by_cases g1 : b < 64
    · rw [if_pos g1]; decide
    · rw [if_neg g1]
      by_cases g2 : b < 16384
      · rw [if_pos g2]; decide
      · rw [if_neg g2]
        by_cases g3 : b < 1073741824
        · rw [if_pos g3]; decide
        · rw [if_neg g3]; decide
  · rw [if_neg h1, if_neg (show ¬ b < 64 by omega)]
    by_cases h2 : a < 16384
    · rw [if_pos h2]
      by_cases g2 : b < 16384
      · rw [if_pos g2]; decide
      · rw [if_neg g2]
        by_cases g3 : b < 1073741824
        · rw [if_pos g3]; decide
        · rw [if_neg g3]; decide
    · rw [if_neg h2, if_neg (show ¬ b < 16384 by omega)]
      by_cases h3 : a < 1073741824
      · rw [if_pos h3]
        by_cases g3 : b < 1073741824
        · rw [if_pos g3]; decide
        · rw [if_neg g3]; decide
      · rw [if_neg h3, if_neg (show ¬ b < 1073741824 by omega)]; decide

theorem wide_less (a b : Int) (h0 : 0 ≤ a) (h1 : a ≤ 4611686018427387903) (h2 : 0 ≤ b) (h3 : b ≤ 4611686018427387903) :
    Op.bytesLess (be 8 (13835058055282163712 + a).toNat) (be 8 (13835058055282163712 + b).toNat) = decide (a < b) := by
  rw [be_less, Bool.eq_iff_iff]
  have e : (256 : Nat) ^ 8 = 18446744073709551616 := by decide
  rw [e]
  simp only [decide_eq_true_eq]
  omega
end Go.Proofs.YtaeapgkfmofjlaaDoor
namespace Go.Proofs.YtaeapgkfmofjlaaDoor

/-- the number of bytes, the highest first -/
def num (l : List UInt8) : Nat := l.foldl (fun a b => a * 256 + b.toNat) 0
theorem num_snoc (l : List UInt8) (b : UInt8) : num (l ++ [b]) = num l * 256 + b.toNat := by simp [num, List.foldl_append]
theorem num_lt (l : List UInt8) : num l < 256 ^ l.length := by
  suffices h : ∀ (m : List UInt8), num m.reverse < 256 ^ m.length by
    have := h l.reverse; simpa using this
  intro m
  induction m with
  | nil => simp [num]
  | cons b m ih =>
    rw [List.reverse_cons, num_snoc, List.length_cons, Nat.pow_succ]
    have := b.toNat_lt
    omega
/-- the n bytes from a place -/
def sub (l : List UInt8) (a n : Nat) : List UInt8 := (l.drop a).take n
theorem sub_length (l : List UInt8) (a n : Nat) (h : a + n ≤ l.length) : (sub l a n).length = n := by simp [sub]; omega
theorem sub_snoc (l : List UInt8) (a k : Nat) (h : a + k < l.length) : sub l a (k + 1) = sub l a k ++ [l[a + k]] := by
  unfold sub
  rw [List.take_add_one, List.getElem?_drop, List.getElem?_eq_getElem h]
  rfl
theorem num_sub_lt (l : List UInt8) (a k : Nat) (h : a + k ≤ l.length) : num (sub l a k) < 256 ^ k := by
  have := num_lt (sub l a k)
  rwa [sub_length l a k h] at this
theorem num_sub_56 (l : List UInt8) (a k : Nat) (h : a + k ≤ l.length) (hk : k ≤ 7) : num (sub l a k) < 72057594037927936 := by
  have h1 := num_sub_lt l a k h
  have h2 : 256 ^ k ≤ 256 ^ 7 := Nat.pow_le_pow_right (by decide) hk
  have h3 : 256 ^ 7 = 72057594037927936 := by decide
  omega
theorem num_sub_64 (l : List UInt8) (a k : Nat) (h : a + k ≤ l.length) (hk : k ≤ 8) : num (sub l a k) < 18446744073709551616 := by
  have h1 := num_sub_lt l a k h
  have h2 : 256 ^ k ≤ 256 ^ 8 := Nat.pow_le_pow_right (by decide) hk
  have h3 : 256 ^ 8 = 18446744073709551616 := by decide
  omega
theorem num_step (l : List UInt8) (a k : Nat) (h : a + k < l.length) : num (sub l a (k + 1)) = num (sub l a k) * 256 + l[a + k].toNat := by
  rw [sub_snoc l a k h, num_snoc]

theorem num_append (a b : List UInt8) : num (a ++ b) = num a * 256 ^ b.length + num b := by
  suffices h : ∀ (m : List UInt8), num (a ++ m.reverse) = num a * 256 ^ m.length + num m.reverse by
    have := h b.reverse; simpa using this
  intro m
  induction m with
  | nil => simp [num]
  | cons c m ih =>
    rw [List.reverse_cons, ← List.append_assoc, num_snoc, ih, num_snoc, List.length_cons, Nat.pow_succ, Nat.add_mul, Nat.mul_assoc]
    omega
/-- what the k lowest bytes of v say -/
theorem num_be (v : Nat) : ∀ k, num (be k v) = v % 256 ^ k
  | 0 => by simp [be, num, Nat.mod_one]
  | k + 1 => by
    have e : be (k + 1) v = [UInt8.ofNat (v / 256 ^ k)] ++ be k v := rfl
    rw [e, num_append, num_be v k, be_length]
    have e2 : num [UInt8.ofNat (v / 256 ^ k)] = v / 256 ^ k % 256 := by simp [num, UInt8.toNat_ofNat']
    rw [e2, Nat.pow_succ, Nat.mod_mul, Nat.mul_comm, Nat.add_comm]
theorem sub_behind (l m : List UInt8) (n : Nat) (h : m.length = n) : sub (l ++ m) l.length n = m := by
  simp [sub, ← h]
theorem wrap_u64_id (n : Int) (h₀ : 0 ≤ n) (h₁ : n < 2 ^ 64) : IntKind.u64.wrap n = n := by rw [IntKind.wrap_u64]; omega
theorem or_byte (x c : Int) (h0 : 0 ≤ x) (h1 : x < 72057594037927936) (h2 : 0 ≤ c) (h3 : c ≤ 255) : bits .or .u64 (x * 256) c = x * 256 + c :=
  bits_join .u64 64 (by decide) wrap_u64_id 8 (x * 256) c (by omega) (by omega) (by omega) h2 (by omega) (by omega)
end Go.Proofs.YtaeapgkfmofjlaaDoor
namespace Go.Proofs.YtaeapgkfmofjlaaDoor
open Go.ChangeShapes Go.WideShapes Go.ChangeAt Go.RowKit
set_option linter.unusedVariables false

theorem wraps_u64 (n : Int) (h₀ : 0 ≤ n) (h₁ : n < 2 ^ 64) : IntKind.u64.wrap n = n := by rw [IntKind.wrap_u64]; omega

theorem lay_int (ao : Option Addr) (l : List UInt8) (cap : Nat) (V n : Int) (w : World) (hs : Sl w ao l) (hl : l.length ≤ 140737488351232) (hV0 : 0 ≤ V) (hV : V < 18446744073709551616) (hn1 : 1 ≤ n) (hn8 : n ≤ 8) :
    Calls Tryd.prog 69 #[.slice ao l.length cap, .int .u64 V, .int .i64 n] w fun e w' => e = .returned (.slice (some ⟨w.heap.size, 0, none⟩) (l.length + n.toNat) (l.length + n.toNat)) ∧
      w'.heap[w.heap.size]? = some (.cells (bc (l ++ be n.toNat V.toNat)).toArray 5 (0, 0)) ∧ Below w.heap.size w w' := by
  obtain ⟨V, rfl⟩ := Int.eq_ofNat_of_zero_le hV0
  obtain ⟨n, rfl⟩ := Int.eq_ofNat_of_zero_le (show 0 ≤ n by omega)
  exact lay_any ao l cap V n w hs hl (by omega) (by omega) (by omega)

theorem or_64 (v : Int) (h0 : 0 ≤ v) (h1 : v < 64) : bits .or .u64 0 v = v := by
  have := bits_join .u64 64 (by decide) wraps_u64 6 0 v (by omega) (by decide) (by decide) h0 (by simpa using h1) (by omega)
  omega
theorem or_16384 (v : Int) (h0 : 0 ≤ v) (h1 : v < 16384) : bits .or .u64 16384 v = 16384 + v :=
  bits_join .u64 64 (by decide) wraps_u64 14 16384 v (by omega) (by decide) (by decide) h0 (by simpa using h1) (by omega)
theorem or_1073741824 (v : Int) (h0 : 0 ≤ v) (h1 : v < 1073741824) : bits .or .u64 2147483648 v = 2147483648 + v :=
  bits_join .u64 64 (by decide) wraps_u64 30 2147483648 v (by omega) (by decide) (by decide) h0 (by simpa using h1) (by omega)
theorem or_4611686018427387904 (v : Int) (h0 : 0 ≤ v) (h1 : v < 4611686018427387904) : bits .or .u64 13835058055282163712 v = 13835058055282163712 + v :=
  bits_join .u64 64 (by decide) wraps_u64 62 13835058055282163712 v (by omega) (by decide) (by decide) h0 (by simpa using h1) (by omega)

set_option maxRecDepth 10000 in
theorem putw_1 (ao : Option Addr) (l : List UInt8) (cap : Nat) (v : Int) (w : World) (ht : Tb w) (hs : Sl w ao l) (hl : l.length ≤ 140737488351232) (h0 : 0 ≤ v) (h1 : v < 64) :
    Calls Tryd.prog 65 #[.slice ao l.length cap, .int .i64 v, .int .i64 1] w fun e w' => e = .returned (.tuple #[.slice (some ⟨w.heap.size, 0, none⟩) (l.length + 1) (l.length + 1), .int .i64 0]) ∧
      w'.heap[w.heap.size]? = some (.cells (bc (l ++ be 1 v.toNat)).toArray 5 (0, 0)) ∧ Below w.heap.size w w' := by
  have HT := mkHid ht
  have HS := mkHid hs
  clear ht hs
  have m1 : mV 1 = 0 := by decide
  have m2 : mB 1 = true := by decide
  have hf : fitB v 64 = true := fitB_yes ⟨h0, h1⟩
  have ho : bits .or .u64 0 v = v := or_64 v h0 h1
  go_enter Tryd.func65, Tryd.ntmps65
  go_wp2_with fail
  refine (mark_any _ _ HT.out).mono ?_
  rintro e w' ⟨rfl, rfl⟩
  go_wp2_with fail
  refine (isVar_yes _ _ (by omega) (by omega)).mono ?_
  rintro e w' ⟨rfl, rfl⟩
  go_wp2_with fail
  refine (fits_1 _ _).mono ?_
  rintro e w' ⟨rfl, rfl⟩
  go_wp2_with fail
  refine (room_any _ _ (by omega) (by omega)).mono ?_
  rintro e w' ⟨rfl, rfl⟩
  go_wp2_with fail
  refine (lay_int ao l cap _ _ _ HS.out hl (by omega) (by omega) (by omega) (by omega)).mono ?_
  rintro e w2 ⟨rfl, hb, hB⟩
  have HB := mkHid hb
  have HL := mkHid hB
  clear hb hB
  go_wp2
  go_ret2
  exact ⟨rfl, HB.out, HL.out⟩

set_option maxRecDepth 10000 in
theorem putw_big_1 (ao : Option Addr) (len cap : Nat) (v : Int) (w : World) (ht : Tb w) (h0 : 64 ≤ v) (h1 : v ≤ 4611686018427387903) :
    Calls Tryd.prog 65 #[.slice ao len cap, .int .i64 v, .int .i64 1] w fun e w' => e = .returned (.tuple #[.slice none 0 0, .int .i64 3]) ∧ w' = w := by
  have HT := mkHid ht
  clear ht
  have m1 : mV 1 = 0 := by decide
  have m2 : mB 1 = true := by decide
  have hf : fitB v 64 = false := fitB_no (by omega)
  go_enter Tryd.func65, Tryd.ntmps65
  go_wp2_with fail
  refine (mark_any _ _ HT.out).mono ?_
  rintro e w' ⟨rfl, rfl⟩
  go_wp2_with fail
  refine (isVar_yes _ _ (by omega) (by omega)).mono ?_
  rintro e w' ⟨rfl, rfl⟩
  go_wp2_with fail
  refine (fits_1 _ _).mono ?_
  rintro e w' ⟨rfl, rfl⟩
  go_wp2
  go_ret2
  exact ⟨rfl, rfl⟩

set_option maxRecDepth 10000 in
theorem putw_2 (ao : Option Addr) (l : List UInt8) (cap : Nat) (v : Int) (w : World) (ht : Tb w) (hs : Sl w ao l) (hl : l.length ≤ 140737488351232) (h0 : 0 ≤ v) (h1 : v < 16384) :
    Calls Tryd.prog 65 #[.slice ao l.length cap, .int .i64 v, .int .i64 2] w fun e w' => e = .returned (.tuple #[.slice (some ⟨w.heap.size, 0, none⟩) (l.length + 2) (l.length + 2), .int .i64 0]) ∧
      w'.heap[w.heap.size]? = some (.cells (bc (l ++ be 2 (16384 + v).toNat)).toArray 5 (0, 0)) ∧ Below w.heap.size w w' := by
  have HT := mkHid ht
  have HS := mkHid hs
  clear ht hs
  have m1 : mV 2 = 1 := by decide
  have m2 : mB 2 = true := by decide
  have hf : fitB v 16384 = true := fitB_yes ⟨h0, h1⟩
  have ho : bits .or .u64 16384 v = (16384 + v) := or_16384 v h0 h1
  go_enter Tryd.func65, Tryd.ntmps65
  go_wp2_with fail
  refine (mark_any _ _ HT.out).mono ?_
  rintro e w' ⟨rfl, rfl⟩
  go_wp2_with fail
  refine (isVar_yes _ _ (by omega) (by omega)).mono ?_
  rintro e w' ⟨rfl, rfl⟩
  go_wp2_with fail
  refine (fits_2 _ _).mono ?_
  rintro e w' ⟨rfl, rfl⟩
  go_wp2_with fail
  refine (room_any _ _ (by omega) (by omega)).mono ?_
  rintro e w' ⟨rfl, rfl⟩
  go_wp2_with fail
  refine (lay_int ao l cap _ _ _ HS.out hl (by omega) (by omega) (by omega) (by omega)).mono ?_
  rintro e w2 ⟨rfl, hb, hB⟩
  have HB := mkHid hb
  have HL := mkHid hB
  clear hb hB
  go_wp2
  go_ret2
  exact ⟨rfl, HB.out, HL.out⟩

set_option maxRecDepth 10000 in
theorem putw_big_2 (ao : Option Addr) (len cap : Nat) (v : Int) (w : World) (ht : Tb w) (h0 : 16384 ≤ v) (h1 : v ≤ 4611686018427387903) :
    Calls Tryd.prog 65 #[.slice ao len cap, .int .i64 v, .int .i64 2] w fun e w' => e = .returned (.tuple #[.slice none 0 0, .int .i64 3]) ∧ w' = w := by
  have HT := mkHid ht
  clear ht
  have m1 : mV 2 = 1 := by decide
  have m2 : mB 2 = true := by decide
  have hf : fitB v 16384 = false := fitB_no (by omega)
  go_enter Tryd.func65, Tryd.ntmps65
  go_wp2_with fail
  refine (mark_any _ _ HT.out).mono ?_
  rintro e w' ⟨rfl, rfl⟩
  go_wp2_with fail
  refine (isVar_yes _ _ (by omega) (by omega)).mono ?_
  rintro e w' ⟨rfl, rfl⟩
  go_wp2_with fail
  refine (fits_2 _ _).mono ?_
  rintro e w' ⟨rfl, rfl⟩
  go_wp2
  go_ret2
  exact ⟨rfl, rfl⟩

set_option maxRecDepth 10000 in
theorem putw_4 (ao : Option Addr) (l : List UInt8) (cap : Nat) (v : Int) (w : World) (ht : Tb w) (hs : Sl w ao l) (hl : l.length ≤ 140737488351232) (h0 : 0 ≤ v) (h1 : v < 1073741824) :
    Calls Tryd.prog 65 #[.slice ao l.length cap, .int .i64 v, .int .i64 4] w fun e w' => e = .returned (.tuple #[.slice (some ⟨w.heap.size, 0, none⟩) (l.length + 4) (l.length + 4), .int .i64 0]) ∧
      w'.heap[w.heap.size]? = some (.cells (bc (l ++ be 4 (2147483648 + v).toNat)).toArray 5 (0, 0)) ∧ Below w.heap.size w w' := by
  have HT := mkHid ht
  have HS := mkHid hs
  clear ht hs
  have m1 : mV 4 = 2 := by decide
  have m2 : mB 4 = true := by decide
  have hf : fitB v 1073741824 = true := fitB_yes ⟨h0, h1⟩
  have ho : bits .or .u64 2147483648 v = (2147483648 + v) := or_1073741824 v h0 h1
  go_enter Tryd.func65, Tryd.ntmps65
  go_wp2_with fail
  refine (mark_any _ _ HT.out).mono ?_
  rintro e w' ⟨rfl, rfl⟩
  go_wp2_with fail
  refine (isVar_yes _ _ (by omega) (by omega)).mono ?_
  rintro e w' ⟨rfl, rfl⟩
  go_wp2_with fail
  refine (fits_4 _ _).mono ?_
  rintro e w' ⟨rfl, rfl⟩
  go_wp2_with fail
  refine (room_any _ _ (by omega) (by omega)).mono ?_
  rintro e w' ⟨rfl, rfl⟩
  go_wp2_with fail
  refine (lay_int ao l cap _ _ _ HS.out hl (by omega) (by omega) (by omega) (by omega)).mono ?_
  rintro e w2 ⟨rfl, hb, hB⟩
  have HB := mkHid hb
  have HL := mkHid hB
  clear hb hB
  go_wp2
  go_ret2
  exact ⟨rfl, HB.out, HL.out⟩

set_option maxRecDepth 10000 in
theorem putw_big_4 (ao : Option Addr) (len cap : Nat) (v : Int) (w : World) (ht : Tb w) (h0 : 1073741824 ≤ v) (h1 : v ≤ 4611686018427387903) :
    Calls Tryd.prog 65 #[.slice ao len cap, .int .i64 v, .int .i64 4] w fun e w' => e = .returned (.tuple #[.slice none 0 0, .int .i64 3]) ∧ w' = w := by
  have HT := mkHid ht
  clear ht
  have m1 : mV 4 = 2 := by decide
  have m2 : mB 4 = true := by decide
  have hf : fitB v 1073741824 = false := fitB_no (by omega)
  go_enter Tryd.func65, Tryd.ntmps65
  go_wp2_with fail
  refine (mark_any _ _ HT.out).mono ?_
  rintro e w' ⟨rfl, rfl⟩
  go_wp2_with fail
  refine (isVar_yes _ _ (by omega) (by omega)).mono ?_
  rintro e w' ⟨rfl, rfl⟩
  go_wp2_with fail
  refine (fits_4 _ _).mono ?_
  rintro e w' ⟨rfl, rfl⟩
  go_wp2
  go_ret2
  exact ⟨rfl, rfl⟩

set_option maxRecDepth 10000 in
theorem putw_8 (ao : Option Addr) (l : List UInt8) (cap : Nat) (v : Int) (w : World) (ht : Tb w) (hs : Sl w ao l) (hl : l.length ≤ 140737488351232) (h0 : 0 ≤ v) (h1 : v < 4611686018427387904) :
    Calls Tryd.prog 65 #[.slice ao l.length cap, .int .i64 v, .int .i64 8] w fun e w' => e = .returned (.tuple #[.slice (some ⟨w.heap.size, 0, none⟩) (l.length + 8) (l.length + 8), .int .i64 0]) ∧
      w'.heap[w.heap.size]? = some (.cells (bc (l ++ be 8 (13835058055282163712 + v).toNat)).toArray 5 (0, 0)) ∧ Below w.heap.size w w' := by
  have HT := mkHid ht
  have HS := mkHid hs
  clear ht hs
  have m1 : mV 8 = 3 := by decide
  have m2 : mB 8 = true := by decide
  have hf : fitB v 4611686018427387904 = true := fitB_yes ⟨h0, h1⟩
  have ho : bits .or .u64 13835058055282163712 v = (13835058055282163712 + v) := or_4611686018427387904 v h0 h1
  go_enter Tryd.func65, Tryd.ntmps65
  go_wp2_with fail
  refine (mark_any _ _ HT.out).mono ?_
  rintro e w' ⟨rfl, rfl⟩
  go_wp2_with fail
  refine (isVar_yes _ _ (by omega) (by omega)).mono ?_
  rintro e w' ⟨rfl, rfl⟩
  go_wp2_with fail
  refine (fits_8 _ _).mono ?_
  rintro e w' ⟨rfl, rfl⟩
  go_wp2_with fail
  refine (room_any _ _ (by omega) (by omega)).mono ?_
  rintro e w' ⟨rfl, rfl⟩
  go_wp2_with fail
  refine (lay_int ao l cap _ _ _ HS.out hl (by omega) (by omega) (by omega) (by omega)).mono ?_
  rintro e w2 ⟨rfl, hb, hB⟩
  have HB := mkHid hb
  have HL := mkHid hB
  clear hb hB
  go_wp2
  go_ret2
  exact ⟨rfl, HB.out, HL.out⟩

set_option maxRecDepth 10000 in
theorem putw_big_8 (ao : Option Addr) (len cap : Nat) (v : Int) (w : World) (ht : Tb w) (h0 : 4611686018427387904 ≤ v) (h1 : v ≤ 4611686018427387903) :
    Calls Tryd.prog 65 #[.slice ao len cap, .int .i64 v, .int .i64 8] w fun e w' => e = .returned (.tuple #[.slice none 0 0, .int .i64 3]) ∧ w' = w := by
  have HT := mkHid ht
  clear ht
  have m1 : mV 8 = 3 := by decide
  have m2 : mB 8 = true := by decide
  have hf : fitB v 4611686018427387904 = false := fitB_no (by omega)
  go_enter Tryd.func65, Tryd.ntmps65
  go_wp2_with fail
  refine (mark_any _ _ HT.out).mono ?_
  rintro e w' ⟨rfl, rfl⟩
  go_wp2_with fail
  refine (isVar_yes _ _ (by omega) (by omega)).mono ?_
  rintro e w' ⟨rfl, rfl⟩
  go_wp2_with fail
  refine (fits_8 _ _).mono ?_
  rintro e w' ⟨rfl, rfl⟩
  go_wp2
  go_ret2
  exact ⟨rfl, rfl⟩

set_option maxRecDepth 10000 in
theorem putw_arg (ao : Option Addr) (len cap : Nat) (v n : Int) (w : World) (ht : Tb w) (h : v < 0 ∨ 4611686018427387903 < v ∨ mB n = false) :
    Calls Tryd.prog 65 #[.slice ao len cap, .int .i64 v, .int .i64 n] w fun e w' => e = .returned (.tuple #[.slice none 0 0, .int .i64 2]) ∧ w' = w := by
  have HT := mkHid ht
  clear ht
  by_cases hv : v < 0 ∨ 4611686018427387903 < v
  · clear h
    go_enter Tryd.func65, Tryd.ntmps65
    go_wp2_with fail
    refine (mark_any _ _ HT.out).mono ?_
    rintro e w' ⟨rfl, rfl⟩
    go_wp2_with fail
    refine (isVar_no _ _ hv).mono ?_
    rintro e w' ⟨rfl, rfl⟩
    go_wp2
    go_ret2
    exact ⟨rfl, rfl⟩
  · have hm : mB n = false := by rcases h with h | h | h <;> first | exact h | omega
    clear h
    have h0 : 0 ≤ v := by omega
    have h1 : v ≤ 4611686018427387903 := by omega
    clear hv
    go_enter Tryd.func65, Tryd.ntmps65
    go_wp2_with fail
    refine (mark_any _ _ HT.out).mono ?_
    rintro e w' ⟨rfl, rfl⟩
    go_wp2_with fail
    refine (isVar_yes _ _ h0 h1).mono ?_
    rintro e w' ⟨rfl, rfl⟩
    go_wp2
    go_ret2
    exact ⟨rfl, rfl⟩
end Go.Proofs.YtaeapgkfmofjlaaDoor
namespace Go.Proofs.YtaeapgkfmofjlaaDoor
open Go.ChangeShapes Go.WideShapes Go.ChangeAt Go.RowKit
set_option linter.unusedVariables false

theorem ret_u64 {a b : Int} (h : a = b) : Ending.returned (.int .u64 a) = .returned (.int .u64 b) := by rw [h]

theorem place_yes (ao : Option Addr) (len cap : Nat) (a : Int) (w : World) (h0 : 0 ≤ a) (h1 : a ≤ len) (hl : len ≤ 9223372036854775807) :
    Calls Tryd.prog 58 #[.slice ao len cap, .int .i64 a] w fun e w' => e = .returned (.bool true) ∧ w' = w := by
  go_enter Tryd.func58, Tryd.ntmps58
  go_wp2
  go_ret
  exact ⟨rfl, rfl⟩

theorem place_no (ao : Option Addr) (len cap : Nat) (a : Int) (w : World) (h : a < 0 ∨ len < a) (hl : len ≤ 9223372036854775807) :
    Calls Tryd.prog 58 #[.slice ao len cap, .int .i64 a] w fun e w' => e = .returned (.bool false) ∧ w' = w := by
  rcases h with h | h
  · go_enter Tryd.func58, Tryd.ntmps58
    go_wp2
    go_ret
    exact ⟨rfl, rfl⟩
  · have h0 : 0 ≤ a := by omega
    have h1 : decide (a ≤ (len : Int)) = false := by simp; omega
    go_enter Tryd.func58, Tryd.ntmps58
    go_wp2
    go_ret
    exact ⟨by simp, rfl⟩

set_option maxRecDepth 10000 in
theorem take_any (ao : Option Addr) (l : List UInt8) (cap a n : Nat) (w : World) (hs : Sl w ao l) (hl : l.length ≤ 9223372036854775000) (h : a + n ≤ l.length) (hn1 : 1 ≤ n) (hn8 : n ≤ 8) :
    Calls Tryd.prog 59 #[.slice ao l.length cap, .int .i64 a, .int .i64 n] w fun e w' => e = .returned (.int .u64 (num (sub l a n))) ∧ w' = w := by
  obtain ⟨b, off, rfl, hc⟩ := Sl_addr hs (by omega)
  have HC := mkHid hc
  clear hc hs
  go_enter Tryd.func59, Tryd.ntmps59
  go_wp2
  go_loop [7, 10] (fun v i => ∃ k : Nat, k ≤ n ∧ i = .int .i64 k ∧ v = .int .u64 (num (sub l a k))) (fun _ i => n - (intOf i).toNat)
  case atStart => exact ⟨0, Nat.zero_le _, rfl, by simp [sub, num]⟩
  case round =>
    obtain ⟨k, hk, rfl, rfl⟩ := hrel
    by_cases hlt : k < n
    · have hcell := HC.out (a + k) (by omega)
      have hst := num_step l a k (by omega)
      have hx := num_sub_56 l a k (by omega) (by omega)
      obtain ⟨c, hcc⟩ : ∃ c : Nat, c = l[a + k].toNat := ⟨_, rfl⟩
      have hc8 : c < 256 := by rw [hcc]; exact l[a + k].toNat_lt
      rw [← hcc] at hcell hst
      obtain ⟨x, hxx⟩ : ∃ x : Nat, x = num (sub l a k) := ⟨_, rfl⟩
      rw [← hxx] at hst hx ⊢
      have HST := mkHid hst
      clear hst hcc hxx
      have ho := or_byte x c (by omega) (by omega) (by omega) (by omega)
      go_wp2
      go_round
      case rel => exact ⟨k + 1, by omega, by go_num, by rw [HST.out]; go_num⟩
      case measure => simp [intOf]; omega
    · go_wp2
      go_ret
      have : k = n := by omega
      subst this
      exact ⟨rfl, rfl⟩

theorem take_int (ao : Option Addr) (l : List UInt8) (cap : Nat) (a n : Int) (w : World) (hs : Sl w ao l) (hl : l.length ≤ 9223372036854775000) (h0 : 0 ≤ a) (h : a + n ≤ l.length) (hn1 : 1 ≤ n) (hn8 : n ≤ 8) :
    Calls Tryd.prog 59 #[.slice ao l.length cap, .int .i64 a, .int .i64 n] w fun e w' => e = .returned (.int .u64 (num (sub l a.toNat n.toNat))) ∧ w' = w := by
  obtain ⟨a, rfl⟩ := Int.eq_ofNat_of_zero_le h0
  obtain ⟨n, rfl⟩ := Int.eq_ofNat_of_zero_le (show 0 ≤ n by omega)
  exact take_any ao l cap a n w hs hl (by omega) (by omega) (by omega)
end Go.Proofs.YtaeapgkfmofjlaaDoor
namespace Go.Proofs.YtaeapgkfmofjlaaDoor
open Go.ChangeShapes Go.WideShapes Go.ChangeAt Go.RowKit
set_option linter.unusedVariables false

abbrev gOk (len a n : Int) : Prop := 1 ≤ n ∧ n ≤ 8 ∧ 0 ≤ a ∧ a + n ≤ len
abbrev gArg (len a n : Int) : Prop := n < 1 ∨ 8 < n ∨ a < 0 ∨ len < a
def gV (l : List UInt8) (a n : Int) : Int := if gOk l.length a n then (num (sub l a.toNat n.toNat) : Int) else 0
def gN (l : List UInt8) (a n : Int) : Int := if gOk l.length a n then a + n else 0
def gE (l : List UInt8) (a n : Int) : Int := if gArg l.length a n then 2 else if gOk l.length a n then 0 else 10

set_option maxRecDepth 10000 in
theorem number_any (ao : Option Addr) (l : List UInt8) (len cap : Nat) (w : World) (hs : Sl w ao l) (he : l.length = len) (h1 : 1 ≤ len) (h8 : len ≤ 8) :
    Calls Tryd.prog 62 #[.slice ao len cap] w fun e w' => e = .returned (.int .u64 (num l)) ∧ w' = w := by
  obtain ⟨b, off, rfl, hc⟩ := Sl_addr hs (by omega)
  have HC := mkHid hc
  have HE := mkHid he
  clear hc hs he
  go_enter Tryd.func62, Tryd.ntmps62
  go_wp2
  go_loop [3, 4] (fun v i => ∃ k : Nat, k ≤ len ∧ i = .int .i64 k ∧ v = .int .u64 (num (sub l 0 k))) (fun _ i => len - (intOf i).toNat)
  case atStart => exact ⟨0, Nat.zero_le _, rfl, by simp [sub, num]⟩
  case round =>
    obtain ⟨k, hk, rfl, rfl⟩ := hrel
    by_cases hlt : k < len
    · have hkl : 0 + k < l.length := by have := HE.out; omega
      have hcell := HC.out k (by omega)
      have hst := num_step l 0 k hkl
      have hx := num_sub_56 l 0 k (by omega) (by omega)
      simp only [Nat.zero_add] at hst hkl
      obtain ⟨c, hcc⟩ : ∃ c : Nat, c = l[k].toNat := ⟨_, rfl⟩
      have hc8 : c < 256 := by rw [hcc]; exact l[k].toNat_lt
      rw [← hcc] at hcell hst
      obtain ⟨x, hxx⟩ : ∃ x : Nat, x = num (sub l 0 k) := ⟨_, rfl⟩
      rw [← hxx] at hst hx ⊢
      have HST := mkHid hst
      clear hst hcc hxx hkl
      go_wp2
      go_round
      case rel => exact ⟨k + 1, by omega, by go_num, by rw [HST.out]; go_num⟩
      case measure => simp [intOf]; omega
    · go_wp2
      go_ret
      have hkl : k = l.length := by have := HE.out; omega
      subst hkl
      exact ⟨ret_u64 (by simp [sub]), rfl⟩

theorem ret_3u {a a' b b' c c' : Int} (h : a = a') (h' : b = b') (h'' : c = c') : Ending.returned (.tuple #[.int .u64 a, .int .i64 b, .int .i64 c]) = .returned (.tuple #[.int .u64 a', .int .i64 b', .int .i64 c']) := by rw [h, h', h'']

theorem gcases (len a n : Int) : (gOk len a n ∧ ¬ gArg len a n) ∨ (¬ gOk len a n ∧ ¬ gArg len a n ∧ len < a + n) ∨ (gArg len a n ∧ ¬ gOk len a n) := by
  unfold gOk gArg; omega

/-- A piece of a slice. -/
theorem Sl_sub {w : World} {b off : Nat} {l : List UInt8} (a n : Nat) (hc : ∀ j (hj : j < l.length), w.cell? ⟨b, off + j, none⟩ = some (.int .u8 (l[j].toNat))) (h : a + n ≤ l.length) : Sl w (some ⟨b, off + a, none⟩) (sub l a n) := by
  intro j hj
  rw [sub_length l a n h] at hj
  refine ⟨b, off + a, rfl, ?_⟩
  have := hc (a + j) (by omega)
  rw [Nat.add_assoc, this]
  simp [sub]

end Go.Proofs.YtaeapgkfmofjlaaDoor
namespace Go.Proofs.YtaeapgkfmofjlaaDoor
open Go.ChangeShapes Go.WideShapes Go.ChangeAt Go.RowKit
set_option linter.unusedVariables false

theorem ret_3 {a a' b b' c c' : Int} (h : a = a') (h' : b = b') (h'' : c = c') : Ending.returned (.tuple #[.int .i64 a, .int .i64 b, .int .i64 c]) = .returned (.tuple #[.int .i64 a', .int .i64 b', .int .i64 c']) := by rw [h, h', h'']

theorem and_63 (a : Int) (h₀ : 0 ≤ a) (h₁ : a < 18446744073709551616) : bits .and .u64 a 63 = a % 64 :=
  bits_mask .u64 64 (by decide) wraps_u64 6 (by decide) a h₀ (by omega)
theorem and_16383 (a : Int) (h₀ : 0 ≤ a) (h₁ : a < 18446744073709551616) : bits .and .u64 a 16383 = a % 16384 :=
  bits_mask .u64 64 (by decide) wraps_u64 14 (by decide) a h₀ (by omega)
theorem and_1073741823 (a : Int) (h₀ : 0 ≤ a) (h₁ : a < 18446744073709551616) : bits .and .u64 a 1073741823 = a % 1073741824 :=
  bits_mask .u64 64 (by decide) wraps_u64 30 (by decide) a h₀ (by omega)
theorem and_4611686018427387903 (a : Int) (h₀ : 0 ≤ a) (h₁ : a < 18446744073709551616) : bits .and .u64 a 4611686018427387903 = a % 4611686018427387904 :=
  bits_mask .u64 64 (by decide) wraps_u64 62 (by decide) a h₀ (by omega)

theorem var_arg (ao : Option Addr) (len cap : Nat) (a : Int) (w : World) (h : a < 0 ∨ len < a) (hl : len ≤ 9223372036854775000) :
    Calls Tryd.prog 43 #[.slice ao len cap, .int .i64 a] w fun e w' => e = .returned (.tuple #[.int .i64 0, .int .i64 0, .int .i64 2]) ∧ w' = w := by
  go_enter Tryd.func43, Tryd.ntmps43
  go_wp2_with fail
  refine (place_no _ _ _ _ _ h (by omega)).mono ?_
  rintro e w' ⟨rfl, rfl⟩
  clear h
  go_wp2
  go_ret3
  exact ⟨rfl, rfl⟩

theorem var_end (ao : Option Addr) (len cap : Nat) (w : World) (hl : len ≤ 9223372036854775000) :
    Calls Tryd.prog 43 #[.slice ao len cap, .int .i64 len] w fun e w' => e = .returned (.tuple #[.int .i64 0, .int .i64 0, .int .i64 10]) ∧ w' = w := by
  go_enter Tryd.func43, Tryd.ntmps43
  go_wp2_with fail
  refine (place_yes _ _ _ _ _ (by omega) (by omega) (by omega)).mono ?_
  rintro e w' ⟨rfl, rfl⟩
  go_wp2
  go_ret3
  exact ⟨rfl, rfl⟩

set_option maxRecDepth 10000 in
theorem var_1 (ao : Option Addr) (l : List UInt8) (cap a : Nat) (w : World) (ht : Tb w) (hs : Sl w ao l) (hl : l.length ≤ 9223372036854775000) (h : a + 1 ≤ l.length) (hq : (l[a]'(by omega)).toNat / 64 = 0) :
    Calls Tryd.prog 43 #[.slice ao l.length cap, .int .i64 a] w fun e w' => e = .returned (.tuple #[.int .i64 ((num (sub l a 1) : Int) % 64), .int .i64 (a + 1), .int .i64 0]) ∧ w' = w := by
  obtain ⟨t0, t1, t2, t3⟩ := ht
  have hn64 := num_sub_64 l a 1 h (by decide)
  obtain ⟨b, off, rfl, hc⟩ := Sl_addr hs (by omega)
  have hcell := hc a (by omega)
  obtain ⟨c, hcc⟩ : ∃ c : Nat, c = (l[a]'(by omega)).toNat := ⟨_, rfl⟩
  rw [← hcc] at hcell hq
  have hc8 : c < 256 := by rw [hcc]; exact (l[a]'(by omega)).toNat_lt
  have hq' : (c : Int) / 64 = 0 := by omega
  have hm := and_63 (num (sub l a 1) : Int) (by omega) (by omega)
  have HS := mkHid hs
  clear hc hs hcc hq
  go_enter Tryd.func43, Tryd.ntmps43
  go_wp2_with fail
  refine (place_yes _ _ _ _ _ (by omega) (by omega) (by omega)).mono ?_
  rintro e w' ⟨rfl, rfl⟩
  go_wp2_with fail
  refine (take_int _ l cap a _ _ HS.out hl (by omega) (by omega) (by omega) (by omega)).mono ?_
  rintro e w' ⟨rfl, rfl⟩
  go_wp2_with fail
  refine (room_any _ _ (by omega) (by omega)).mono ?_
  rintro e w' ⟨rfl, rfl⟩
  go_wp2
  go_ret3
  exact ⟨rfl, rfl⟩

set_option maxRecDepth 10000 in
theorem var_2 (ao : Option Addr) (l : List UInt8) (cap a : Nat) (w : World) (ht : Tb w) (hs : Sl w ao l) (hl : l.length ≤ 9223372036854775000) (h : a + 2 ≤ l.length) (hq : (l[a]'(by omega)).toNat / 64 = 1) :
    Calls Tryd.prog 43 #[.slice ao l.length cap, .int .i64 a] w fun e w' => e = .returned (.tuple #[.int .i64 ((num (sub l a 2) : Int) % 16384), .int .i64 (a + 2), .int .i64 0]) ∧ w' = w := by
  obtain ⟨t0, t1, t2, t3⟩ := ht
  have hn64 := num_sub_64 l a 2 h (by decide)
  obtain ⟨b, off, rfl, hc⟩ := Sl_addr hs (by omega)
  have hcell := hc a (by omega)
  obtain ⟨c, hcc⟩ : ∃ c : Nat, c = (l[a]'(by omega)).toNat := ⟨_, rfl⟩
  rw [← hcc] at hcell hq
  have hc8 : c < 256 := by rw [hcc]; exact (l[a]'(by omega)).toNat_lt
  have hq' : (c : Int) / 64 = 1 := by omega
  have hm := and_16383 (num (sub l a 2) : Int) (by omega) (by omega)
  have HS := mkHid hs
  clear hc hs hcc hq
  go_enter Tryd.func43, Tryd.ntmps43
  go_wp2_with fail
  refine (place_yes _ _ _ _ _ (by omega) (by omega) (by omega)).mono ?_
  rintro e w' ⟨rfl, rfl⟩
  go_wp2_with fail
  refine (take_int _ l cap a _ _ HS.out hl (by omega) (by omega) (by omega) (by omega)).mono ?_
  rintro e w' ⟨rfl, rfl⟩
  go_wp2_with fail
  refine (room_any _ _ (by omega) (by omega)).mono ?_
  rintro e w' ⟨rfl, rfl⟩
  go_wp2
  go_ret3
  exact ⟨rfl, rfl⟩

set_option maxRecDepth 10000 in
theorem var_few_2 (ao : Option Addr) (l : List UInt8) (cap a : Nat) (w : World) (ht : Tb w) (hs : Sl w ao l) (hl : l.length ≤ 9223372036854775000) (h : a < l.length) (h' : l.length < a + 2) (hq : l[a].toNat / 64 = 1) :
    Calls Tryd.prog 43 #[.slice ao l.length cap, .int .i64 a] w fun e w' => e = .returned (.tuple #[.int .i64 0, .int .i64 0, .int .i64 10]) ∧ w' = w := by
  obtain ⟨t0, t1, t2, t3⟩ := ht
  obtain ⟨b, off, rfl, hc⟩ := Sl_addr hs (by omega)
  have hcell := hc a (by omega)
  obtain ⟨c, hcc⟩ : ∃ c : Nat, c = l[a].toNat := ⟨_, rfl⟩
  rw [← hcc] at hcell hq
  have hc8 : c < 256 := by rw [hcc]; exact l[a].toNat_lt
  have hq' : (c : Int) / 64 = 1 := by omega
  clear hc hs hcc hq
  go_enter Tryd.func43, Tryd.ntmps43
  go_wp2_with fail
  refine (place_yes _ _ _ _ _ (by omega) (by omega) (by omega)).mono ?_
  rintro e w' ⟨rfl, rfl⟩
  go_wp2
  go_ret3
  exact ⟨rfl, rfl⟩

set_option maxRecDepth 10000 in
theorem var_4 (ao : Option Addr) (l : List UInt8) (cap a : Nat) (w : World) (ht : Tb w) (hs : Sl w ao l) (hl : l.length ≤ 9223372036854775000) (h : a + 4 ≤ l.length) (hq : (l[a]'(by omega)).toNat / 64 = 2) :
    Calls Tryd.prog 43 #[.slice ao l.length cap, .int .i64 a] w fun e w' => e = .returned (.tuple #[.int .i64 ((num (sub l a 4) : Int) % 1073741824), .int .i64 (a + 4), .int .i64 0]) ∧ w' = w := by
  obtain ⟨t0, t1, t2, t3⟩ := ht
  have hn64 := num_sub_64 l a 4 h (by decide)
  obtain ⟨b, off, rfl, hc⟩ := Sl_addr hs (by omega)
  have hcell := hc a (by omega)
  obtain ⟨c, hcc⟩ : ∃ c : Nat, c = (l[a]'(by omega)).toNat := ⟨_, rfl⟩
  rw [← hcc] at hcell hq
  have hc8 : c < 256 := by rw [hcc]; exact (l[a]'(by omega)).toNat_lt
  have hq' : (c : Int) / 64 = 2 := by omega
  have hm := and_1073741823 (num (sub l a 4) : Int) (by omega) (by omega)
  have HS := mkHid hs
  clear hc hs hcc hq
  go_enter Tryd.func43, Tryd.ntmps43
  go_wp2_with fail
  refine (place_yes _ _ _ _ _ (by omega) (by omega) (by omega)).mono ?_
  rintro e w' ⟨rfl, rfl⟩
  go_wp2_with fail
  refine (take_int _ l cap a _ _ HS.out hl (by omega) (by omega) (by omega) (by omega)).mono ?_
  rintro e w' ⟨rfl, rfl⟩
  go_wp2_with fail
  refine (room_any _ _ (by omega) (by omega)).mono ?_
  rintro e w' ⟨rfl, rfl⟩
  go_wp2
  go_ret3
  exact ⟨rfl, rfl⟩

set_option maxRecDepth 10000 in
theorem var_few_4 (ao : Option Addr) (l : List UInt8) (cap a : Nat) (w : World) (ht : Tb w) (hs : Sl w ao l) (hl : l.length ≤ 9223372036854775000) (h : a < l.length) (h' : l.length < a + 4) (hq : l[a].toNat / 64 = 2) :
    Calls Tryd.prog 43 #[.slice ao l.length cap, .int .i64 a] w fun e w' => e = .returned (.tuple #[.int .i64 0, .int .i64 0, .int .i64 10]) ∧ w' = w := by
  obtain ⟨t0, t1, t2, t3⟩ := ht
  obtain ⟨b, off, rfl, hc⟩ := Sl_addr hs (by omega)
  have hcell := hc a (by omega)
  obtain ⟨c, hcc⟩ : ∃ c : Nat, c = l[a].toNat := ⟨_, rfl⟩
  rw [← hcc] at hcell hq
  have hc8 : c < 256 := by rw [hcc]; exact l[a].toNat_lt
  have hq' : (c : Int) / 64 = 2 := by omega
  clear hc hs hcc hq
  go_enter Tryd.func43, Tryd.ntmps43
  go_wp2_with fail
  refine (place_yes _ _ _ _ _ (by omega) (by omega) (by omega)).mono ?_
  rintro e w' ⟨rfl, rfl⟩
  go_wp2
  go_ret3
  exact ⟨rfl, rfl⟩

set_option maxRecDepth 10000 in
theorem var_8 (ao : Option Addr) (l : List UInt8) (cap a : Nat) (w : World) (ht : Tb w) (hs : Sl w ao l) (hl : l.length ≤ 9223372036854775000) (h : a + 8 ≤ l.length) (hq : (l[a]'(by omega)).toNat / 64 = 3) :
    Calls Tryd.prog 43 #[.slice ao l.length cap, .int .i64 a] w fun e w' => e = .returned (.tuple #[.int .i64 ((num (sub l a 8) : Int) % 4611686018427387904), .int .i64 (a + 8), .int .i64 0]) ∧ w' = w := by
  obtain ⟨t0, t1, t2, t3⟩ := ht
  have hn64 := num_sub_64 l a 8 h (by decide)
  obtain ⟨b, off, rfl, hc⟩ := Sl_addr hs (by omega)
  have hcell := hc a (by omega)
  obtain ⟨c, hcc⟩ : ∃ c : Nat, c = (l[a]'(by omega)).toNat := ⟨_, rfl⟩
  rw [← hcc] at hcell hq
  have hc8 : c < 256 := by rw [hcc]; exact (l[a]'(by omega)).toNat_lt
  have hq' : (c : Int) / 64 = 3 := by omega
  have hm := and_4611686018427387903 (num (sub l a 8) : Int) (by omega) (by omega)
  have HS := mkHid hs
  clear hc hs hcc hq
  go_enter Tryd.func43, Tryd.ntmps43
  go_wp2_with fail
  refine (place_yes _ _ _ _ _ (by omega) (by omega) (by omega)).mono ?_
  rintro e w' ⟨rfl, rfl⟩
  go_wp2_with fail
  refine (take_int _ l cap a _ _ HS.out hl (by omega) (by omega) (by omega) (by omega)).mono ?_
  rintro e w' ⟨rfl, rfl⟩
  go_wp2_with fail
  refine (room_any _ _ (by omega) (by omega)).mono ?_
  rintro e w' ⟨rfl, rfl⟩
  go_wp2
  go_ret3
  exact ⟨rfl, rfl⟩

set_option maxRecDepth 10000 in
theorem var_few_8 (ao : Option Addr) (l : List UInt8) (cap a : Nat) (w : World) (ht : Tb w) (hs : Sl w ao l) (hl : l.length ≤ 9223372036854775000) (h : a < l.length) (h' : l.length < a + 8) (hq : l[a].toNat / 64 = 3) :
    Calls Tryd.prog 43 #[.slice ao l.length cap, .int .i64 a] w fun e w' => e = .returned (.tuple #[.int .i64 0, .int .i64 0, .int .i64 10]) ∧ w' = w := by
  obtain ⟨t0, t1, t2, t3⟩ := ht
  obtain ⟨b, off, rfl, hc⟩ := Sl_addr hs (by omega)
  have hcell := hc a (by omega)
  obtain ⟨c, hcc⟩ : ∃ c : Nat, c = l[a].toNat := ⟨_, rfl⟩
  rw [← hcc] at hcell hq
  have hc8 : c < 256 := by rw [hcc]; exact l[a].toNat_lt
  have hq' : (c : Int) / 64 = 3 := by omega
  clear hc hs hcc hq
  go_enter Tryd.func43, Tryd.ntmps43
  go_wp2_with fail
  refine (place_yes _ _ _ _ _ (by omega) (by omega) (by omega)).mono ?_
  rintro e w' ⟨rfl, rfl⟩
  go_wp2
  go_ret3
  exact ⟨rfl, rfl⟩
end Go.Proofs.YtaeapgkfmofjlaaDoor
namespace Go.Proofs.YtaeapgkfmofjlaaDoor
open Go.ChangeShapes Go.WideShapes Go.ChangeAt Go.RowKit
set_option linter.unusedVariables false

theorem Tb_pos {w : World} (h : Tb w) : 2 < w.heap.size := World.block_lt_of_cell? w _ h.1
theorem Tb_below {B : Nat} {w w' : World} (h : Tb w) (hb : Below B w w') (hB : 2 < B) : Tb w' := by
  obtain ⟨t0, t1, t2, t3⟩ := h
  exact ⟨(hb.cell (p := ⟨2, 0, none⟩) hB).trans t0, (hb.cell (p := ⟨2, 1, none⟩) hB).trans t1, (hb.cell (p := ⟨2, 2, none⟩) hB).trans t2, (hb.cell (p := ⟨2, 3, none⟩) hB).trans t3⟩
theorem lt_block {w : World} {g : Nat} {o : Obj} (h : w.heap[g]? = some o) : g < w.heap.size := by
  by_cases hg : g < w.heap.size
  · exact hg
  · rw [Array.getElem?_eq_none (by omega)] at h; cases h

theorem str_of_block {w : World} {g cap m : Nat} {l : List UInt8} (hb : w.heap[g]? = some (.cells (bc l).toArray 5 (0, 0))) (hm : l.length = m) :
    (convert 22 9 (.slice (some ⟨g, 0, none⟩) m cap)).run Tryd.prog w = .ok (.string ⟨l.toArray⟩) w := by
  subst hm
  refine run_convert_bytes_back w 22 9 5 ⟨g, 0, none⟩ cap l Tryd.underlying22 Tryd.underlying5 Tryd.underlying9 fun j hj => ?_
  rw [add_none]
  unfold World.cell?
  rw [hb]
  simp [bc, hj]

theorem putn_8 (v : Int) (w : World) (ht : Tb w) (h0 : 0 ≤ v) (h1 : v < 4611686018427387904) :
    Calls Tryd.prog 65 #[.slice none 0 0, .int .i64 v, .int .i64 8] w fun e w' => e = .returned (.tuple #[.slice (some ⟨w.heap.size, 0, none⟩) 8 8, .int .i64 0]) ∧
      Hid (w'.heap[w.heap.size]? = some (.cells (bc (be 8 (13835058055282163712 + v).toNat)).toArray 5 (0, 0))) ∧ Hid (Below w.heap.size w w') := by
  have hs : Sl w none [] := fun j hj => absurd hj (by simp)
  exact putw_8 none [] 0 v w ht hs (by decide) h0 h1

end Go.Proofs.YtaeapgkfmofjlaaDoor
