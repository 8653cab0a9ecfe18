/- Laws for the walk: bytes appended to a row of the call's own; a slice of bytes as a string. What the reference's Size and Bytes answer, for every input: contracts. What the reference's Wide answers, for every input: contracts. -/
import Derived.Test.YtaeapgkfmofjlaaDoorRead
namespace Go.Proofs.YtaeapgkfmofjlaaDoor
open Go.ChangeShapes Go.WideShapes Go.ChangeAt Go.RowKit
set_option linter.unusedVariables false

/-- 'append(v, xs...)', v the call's own, xs whatever bytes, nil too. -/
theorem wpList_append_bytes {P : Program} {w : World} {ops : Array Oper} {rest : List Oper} {o : Oper} {a : Act} {Q : Exit → Act → World → Prop} (hgd : o.guard = none) (s x : Operand)
    (ho : o.op = .call { callee := .builtin .append, args := #[s, x], argTypes := #[22, 22] })
    (base : Nat) (i : TypeInfo) (ht : P.underlying 22 = some (.slice 5)) (hi : P.info? 5 = some i) (hz : i.zero = some (.int .u8 0)) (hsize : i.size = 1) (hby : i.bytes = 1)
    (v : Value) (n : Nat) (xs : List Value) (hs : a.eval s = v) (hown : w.ownsRow base 5 1 v n xs)
    (ao : Option Addr) (m c : Nat) (l : List UInt8) (hx : a.eval x = .slice ao m c) (hl : l.length = m) (hnil : ao = none → m = 0 ∧ c = 0) (hsl : Sl w ao l)
    (hb : n + m ≤ 140737488355328) (hbase : base ≤ w.heap.size)
    (h : ∀ v' w', w'.ownsRow base 5 1 v' (n + m) (xs ++ bc l) → w.grownBy w' v.ownBlock → wpList P ops Q rest (a.put o.dst v') w') : wpList P ops Q (o :: rest) a w := by
  cases ao with
  | none =>
    obtain ⟨rfl, rfl⟩ := hnil rfl
    obtain rfl : l = [] := List.eq_nil_of_length_eq_zero hl
    refine wpList_append_own_none hgd s x 22 ho base 5 i 1 ht hi v n xs hs hown hx ?_
    refine h v w ?_ ⟨rfl, rfl, rfl, Nat.le_refl _, fun _ _ _ => rfl⟩
    simpa [bc] using hown
  | some ad =>
    refine wpList_append_own w hgd s x 22 ho base 5 i (.int .u8 0) 1 1 ht hi hz hsize hby rfl (by decide) v n xs hs hown ad m c (bc l) hx (by rw [bc_length]; omega) (Sl_cells hsl) (bc_one l) (by unfold maxLen; omega) (by omega) hbase ?_
    intro v' w' h1 h2 _
    exact h v' w' h1 h2

theorem str_any {w : World} {ao : Option Addr} {l : List UInt8} {m cap : Nat} (hs : Sl w ao l) (hm : l.length = m) (hnil : ao = none → m = 0 ∧ cap = 0) :
    (convert 22 9 (.slice ao m cap)).run Tryd.prog w = .ok (.string ⟨l.toArray⟩) w := by
  cases ao with
  | none =>
    obtain ⟨rfl, rfl⟩ := hnil rfl
    obtain rfl : l = [] := List.eq_nil_of_length_eq_zero hm
    rw [run_convert_bytes_string w 22 9 5 none 0 0 Tryd.underlying22 Tryd.underlying5 Tryd.underlying9]
    simp [Conv.bytesToString]
    rfl
  | some ad =>
    subst hm
    refine run_convert_bytes_back w 22 9 5 ad cap l Tryd.underlying22 Tryd.underlying5 Tryd.underlying9 fun j hj => ?_
    exact Sl_cells hs j _ (by simp [bc, hj])

theorem str_add {w : World} (l m : List UInt8) (hl : l.length + m.length ≤ 9223372036854775807) :
    (Op.stringOp .add ⟨l.toArray⟩ ⟨m.toArray⟩).run Tryd.prog w = .ok (.string ⟨(l ++ m).toArray⟩) w := by
  refine (run_string_add_sum (P := Tryd.prog) (w := w) ⟨l.toArray⟩ ⟨m.toArray⟩ (by simpa [ByteArray.size] using hl)).trans ?_
  have e : (⟨l.toArray⟩ : ByteArray) ++ ⟨m.toArray⟩ = ⟨(l ++ m).toArray⟩ := by
    apply ByteArray.ext
    rw [ByteArray.data_append]
    simp
  rw [e]

theorem Sl_new (w : World) (b : UInt8) : Sl (w.alloc (.cells #[.int .u8 b.toNat] 5)) (some ⟨w.heap.size, 0, none⟩) [b] :=
  Sl_own (heap_alloc_new w _) (by simp [bc])

/-- What 'in := append(append([]byte{}, b...), 0x5a)' has made. -/
structure MadeIn (w w2 : World) (v2 : Value) (l : List UInt8) (g cp : Nat) (cur : Array Value) : Prop where
  val : v2 = .slice (some ⟨g, 0, none⟩) (l.length + 1) cp
  above : w.heap.size ≤ g
  block : w2.heap[g]? = some (.cells cur 5 (0, 0))
  room : l.length + 1 ≤ cp
  most : cp ≤ 9223372036854775807
  cells : cur.toList.take (l.length + 1) = bc (l ++ [90])
  below : Below w.heap.size w w2

theorem made_in {w w1 w2 : World} {v1 v2 : Value} {l : List UInt8}
    (ho1 : w1.ownsRow w.heap.size 5 1 v1 (0 + l.length) ([] ++ bc l)) (hg1 : (w.alloc (.cells #[] 5)).grownBy w1 (Value.slice (some ⟨w.heap.size, 0, none⟩) 0 0).ownBlock)
    (ho2 : w2.ownsRow w.heap.size 5 1 v2 (0 + l.length + 1) (([] ++ bc l) ++ bc [90])) (hg2 : (w1.alloc (.cells #[.int .u8 90] 5)).grownBy w2 v1.ownBlock) :
    ∃ g cp cur, MadeIn w w2 v2 l g cp cur := by
  have hb1 : Below w.heap.size w w1 := ((Below.refl w.heap.size w).alloc (Nat.le_refl _) _).grown hg1 (by simp) (by intro k hk; simp [Value.ownBlock] at hk; omega)
  have hb2 : Below w.heap.size w w2 := (hb1.alloc hb1.size _).grown hg2 (by have := hb1.size; simp; omega) (fun k hk => (ho1.lt k hk).1)
  rw [Nat.zero_add] at ho2
  obtain ⟨g, cap, cur, he, h1, h2, h3, h4, h5, h6⟩ := own_shape ho2 (by omega)
  exact ⟨g, cap, cur, he, h1, h2, h3, h4, by rw [h6, List.nil_append, bc_append], hb2⟩

theorem MadeIn.sl {w w2 : World} {v2 : Value} {l : List UInt8} {g cp : Nat} {cur : Array Value} (h : MadeIn w w2 v2 l g cp cur) : Sl w2 (some ⟨g, 0, none⟩) l := by
  refine Sl_own h.block ?_
  have := congrArg (List.take l.length) h.cells
  rw [List.take_take, Nat.min_eq_left (by omega)] at this
  rw [this, bc_append, List.take_append_of_le_length (by rw [bc_length]; omega), List.take_of_length_le (by rw [bc_length]; omega)]
theorem MadeIn.all {w w2 : World} {v2 : Value} {l : List UInt8} {g cp : Nat} {cur : Array Value} (h : MadeIn w w2 v2 l g cp cur) : Sl w2 (some ⟨g, 0, none⟩) (l ++ [90]) :=
  Sl_own h.block (by simpa using h.cells)
end Go.Proofs.YtaeapgkfmofjlaaDoor
namespace Go.Proofs.YtaeapgkfmofjlaaDoor
open Go.ChangeShapes Go.WideShapes Go.ChangeAt Go.RowKit
set_option linter.unusedVariables false

theorem rsize_no (v : Int) (w : World) (h : v < 0 ∨ 4611686018427387903 < v) :
    Calls Tryd.prog 33 #[.int .i64 v] w fun e w' => e = .returned (.tuple #[.int .i64 0, .int .i64 2]) ∧ w' = w := by
  have hcs : v < 0 ∨ (0 ≤ v ∧ 4611686018427387903 < v) := by omega
  clear h
  rcases hcs with h | ⟨h, h'⟩
  all_goals
    go_enter Tryd.func33, Tryd.ntmps33
    go_wp2
    go_ret2
    exact ⟨rfl, rfl⟩

set_option maxRecDepth 10000 in
theorem rsize_yes (v : Int) (w : World) (h0 : 0 ≤ v) (h1 : v ≤ 4611686018427387903) :
    Calls Tryd.prog 33 #[.int .i64 v] w fun e w' => e = .returned (.tuple #[.int .i64 (szN v), .int .i64 0]) ∧ w' = w := by
  have e6 : wrap64 (2 ^ 6) = 64 := by kernel_rfl
  have e14 : wrap64 (2 ^ 14) = 16384 := by kernel_rfl
  have e30 : wrap64 (2 ^ 30) = 1073741824 := by kernel_rfl
  have e62 : wrap64 (2 ^ 62) = 4611686018427387904 := by kernel_rfl
  go_enter Tryd.func33, Tryd.ntmps33
  go_wp2
  go_loop [4] (fun i => (i = .int .i64 1) ∨ (i = .int .i64 2 ∧ 64 ≤ v) ∨ (i = .int .i64 4 ∧ 16384 ≤ v) ∨ (i = .int .i64 8 ∧ 1073741824 ≤ v)) (fun i => 8 - (intOf i).toNat)
  case atStart => exact Or.inl rfl
  case round =>
    rcases hrel with rfl | ⟨rfl, hd1⟩ | ⟨rfl, hd1⟩ | ⟨rfl, hd1⟩
    · by_cases hd : v < 64
      · have HD : Hid (szN v = 1) := by unfold Hid szN; rw [if_pos hd]
        go_wp2
        go_ret2
        exact ⟨ret_ii HD.out.symm rfl, rfl⟩
      · go_wp2
        go_round
        case rel => exact Or.inr (Or.inl ⟨rfl, by omega⟩)
        case measure => simp [intOf]
    · by_cases hd : v < 16384
      · have HD : Hid (szN v = 2) := by unfold Hid szN; rw [if_neg (by omega), if_pos hd]
        go_wp2
        go_ret2
        exact ⟨ret_ii HD.out.symm rfl, rfl⟩
      · go_wp2
        go_round
        case rel => exact Or.inr (Or.inr (Or.inl ⟨rfl, by omega⟩))
        case measure => simp [intOf]
    · by_cases hd : v < 1073741824
      · have HD : Hid (szN v = 4) := by unfold Hid szN; rw [if_neg (by omega), if_neg (by omega), if_pos hd]
        go_wp2
        go_ret2
        exact ⟨ret_ii HD.out.symm rfl, rfl⟩
      · go_wp2
        go_round
        case rel => exact Or.inr (Or.inr (Or.inr ⟨rfl, by omega⟩))
        case measure => simp [intOf]
    · have HD : Hid (szN v = 8) := by unfold Hid szN; rw [if_neg (by omega), if_neg (by omega), if_neg (by omega)]
      go_wp2
      go_ret2
      exact ⟨ret_ii HD.out.symm rfl, rfl⟩

/-- byte j of the n lowest bytes -/
theorem be_at (V : Nat) : ∀ n j, j < n → (be n V)[j]? = some (UInt8.ofNat (V / 256 ^ (n - 1 - j)))
  | 0, j, h => absurd h (by omega)
  | n + 1, 0, _ => by rw [be_head]; simp
  | n + 1, j + 1, h => by
    rw [be_head, List.getElem?_cons_succ, be_at V n j (by omega)]
    congr 4
    omega
theorem be_take (V n j : Nat) (h : j < n) : (be n V).take (j + 1) = (be n V).take j ++ [UInt8.ofNat (V / 256 ^ (n - 1 - j))] := by
  rw [List.take_add_one, be_at V n j h]
  rfl
theorem byte_val (V k : Nat) : Value.int .u8 ((V : Int) / 2 ^ (8 * k) % 256) = Value.int .u8 ((UInt8.ofNat (V / 256 ^ k)).toNat : Int) := by
  have e3 : (2 : Int) ^ (8 * k) = ((256 ^ k : Nat) : Int) := by
    rw [Int.pow_mul]
    simp
  rw [e3, UInt8.toNat_ofNat']
  generalize 256 ^ k = P
  have e4 : ((V / P % 2 ^ 8 : Nat) : Int) = (V : Int) / (P : Int) % 256 := by rw [Int.natCast_emod, Int.natCast_ediv]; rfl
  rw [e4]
theorem Sl_new' (w : World) (c : Int) (b : UInt8) (h : Value.int .u8 c = .int .u8 b.toNat) : Sl (w.alloc (.cells #[.int .u8 c] 5)) (some ⟨w.heap.size, 0, none⟩) [b] := by
  rw [h]; exact Sl_new w b
theorem own_step {w1 w2 : World} {B j n V : Nat} {v2 : Value} (hj : j < n) (h : w2.ownsRow B 5 1 v2 (j + 1) (bc ((be n V).take j) ++ bc [UInt8.ofNat (V / 256 ^ (n - 1 - j))])) : w2.ownsRow B 5 1 v2 (j + 1) (bc ((be n V).take (j + 1))) := by
  rw [be_take V n j hj, bc_append]; exact h

set_option maxRecDepth 10000 in
theorem bytes_any (V n : Nat) (w : World) (hV : V < 18446744073709551616) (hn1 : 1 ≤ n) (hn8 : n ≤ 8) :
    Calls Tryd.prog 66 #[.int .u64 V, .int .i64 n] w fun e w' => ∃ v, e = .returned v ∧ w'.ownsRow w.heap.size 5 1 v n (bc (be n V)) ∧ Below w.heap.size w w' := by
  obtain ⟨i0, hi, hz0, hz1, hz2⟩ := info_parts info5
  go_enter Tryd.func66, Tryd.ntmps66
  go_wp2
  go_loopw [5, 6] (fun v i wr => ∃ j : Nat, j ≤ n ∧ i = .int .i64 ((n : Int) - 1 - j) ∧ Hid (wr.ownsRow w.heap.size 5 1 v j (bc ((be n V).take j))) ∧ Hid (Below w.heap.size w wr)) (fun _ i _ => (intOf i + 1).toNat)
  case atStart => exact ⟨0, Nat.zero_le _, by go_num, World.ownsRow_nil _ _ _ _, Below.refl _ _⟩
  case round =>
    obtain ⟨j, hj, rfl, HO, HB⟩ := hrel
    by_cases hlt : j < n
    · go_wp2_with (at_builtin; refine wpList_append_bytes rfl (.tmp 13) (.tmp 20) rfl w.heap.size i0 Tryd.underlying22 hi hz0 hz1 hz2 _ j (bc ((be n V).take j)) rfl (HO.out.alloc _) (some ⟨wr.heap.size, 0, none⟩) 1 1 [UInt8.ofNat (V / 256 ^ (n - 1 - j))] rfl rfl (fun h => by cases h) (Sl_new' wr _ _ (byte_val V (n - 1 - j))) (by omega) (by have := HB.out.size; simp; omega) ?_; intro v2 w2 hown hgrow; have HO2 := mkHid (own_step (w1 := wr) hlt hown); have HB2 := mkHid ((HB.out.alloc HB.out.size _).grown hgrow (by have := HB.out.size; simp; omega) (fun k hk => (HO.out.lt k hk).1)); clear hown hgrow)
      go_roundw
      case rel => exact ⟨j + 1, by omega, by go_num, HO2, HB2⟩
      case measure => simp [intOf]; omega
    · go_wp2
      go_ret
      have : j = n := by omega
      subst this
      have h := HO.out
      rw [List.take_of_length_le (by rw [be_length]; omega)] at h
      exact ⟨_, rfl, h, HB.out⟩

theorem bytes_int (V n : Int) (w : World) (hV0 : 0 ≤ V) (hV : V < 18446744073709551616) (hn1 : 1 ≤ n) (hn8 : n ≤ 8) :
    Calls Tryd.prog 66 #[.int .u64 V, .int .i64 n] w fun e w' => ∃ v, e = .returned v ∧ w'.ownsRow w.heap.size 5 1 v n.toNat (bc (be n.toNat V.toNat)) ∧ Below w.heap.size w w' := by
  obtain ⟨V, rfl⟩ := Int.eq_ofNat_of_zero_le hV0
  obtain ⟨n, rfl⟩ := Int.eq_ofNat_of_zero_le (show 0 ≤ n by omega)
  exact bytes_any V n w (by omega) (by omega) (by omega)
end Go.Proofs.YtaeapgkfmofjlaaDoor
namespace Go.Proofs.YtaeapgkfmofjlaaDoor
open Go.ChangeShapes Go.WideShapes Go.ChangeAt Go.RowKit
set_option linter.unusedVariables false

theorem be_add (c v : Nat) : ∀ k d, k ≤ d → be k (c * 256 ^ d + v) = be k v
  | 0, _, _ => rfl
  | k + 1, d, h => by
    rw [be_head, be_head, be_add c v k d (by omega)]
    have e : (c * 256 ^ d + v) / 256 ^ k = c * 256 ^ (d - k) + v / 256 ^ k := by
      have : 256 ^ d = 256 ^ (d - k) * 256 ^ k := by rw [← Nat.pow_add]; congr 1; omega
      rw [this, ← Nat.mul_assoc, Nat.add_comm, Nat.add_mul_div_right _ _ (Nat.pow_pos (by decide)), Nat.add_comm]
    have e2 : c * 256 ^ (d - k) = (c * 256 ^ (d - k - 1)) * 256 := by
      have : d - k = (d - k - 1) + 1 := by omega
      conv => lhs; rw [this, Nat.pow_succ]
      rw [Nat.mul_assoc]
    rw [e, e2]
    congr 1
    rw [← UInt8.toNat_inj, UInt8.toNat_ofNat', UInt8.toNat_ofNat']
    generalize c * 256 ^ (d - k - 1) = A
    generalize v / 256 ^ k = Z
    omega

def lim (n : Int) : Int := if n = 1 then 64 else if n = 2 then 16384 else if n = 4 then 1073741824 else 4611686018427387904
/-- a number in n bytes -/
def enc (n v : Int) : List UInt8 := be n.toNat (mV n * lim n + v).toNat
def wiE (v n : Int) : Int := if v < 0 ∨ 4611686018427387903 < v ∨ mB n = false then 2 else if lim n ≤ v then 3 else 0
/-- a slice that a call has made, with these bytes, or nil and an error -/
def Res (B : Nat) (w : World) (v : Value) (E : Int) (X : List UInt8) : Prop := (E = 0 ∧ 0 < X.length ∧ w.ownsRow B 5 1 v X.length (bc X)) ∨ (E ≠ 0 ∧ v = .slice none 0 0)

theorem own_of_block {w : World} {B g : Nat} {l : List UInt8} (hb : w.heap[g]? = some (.cells (bc l).toArray 5 (0, 0))) (hB : B ≤ g) (hl : l.length ≤ 9223372036854775807) : w.ownsRow B 5 1 (.slice (some ⟨g, 0, none⟩) l.length l.length) l.length (bc l) :=
  ⟨by rw [bc_length]; omega, .inr ⟨g, l.length, (bc l).toArray, rfl, hB, hb, Nat.le_refl _, hl, by simp [bc_length], by simp [bc_length, List.take_of_length_le]⟩⟩

theorem enc_length (n v : Int) : (enc n v).length = n.toNat := be_length _ _

theorem own_cell0 {w : World} {g n : Nat} {cur : Array Value} {b : UInt8} {t : List UInt8} (hb : w.heap[g]? = some (.cells cur 5 (0, 0))) (hl : (b :: t).length = n) (ht : cur.toList.take n = bc (b :: t)) : w.cell? ⟨g, 0, none⟩ = some (.int .u8 b.toNat) := by
  have hs : Sl w (some ⟨g, 0, none⟩) (b :: t) := Sl_own hb (by rw [hl]; exact ht)
  obtain ⟨b', off, he, hc⟩ := hs 0 (by simp)
  simp only [Option.some.injEq, Addr.mk.injEq] at he
  obtain ⟨rfl, rfl, _⟩ := he
  simpa using hc

theorem own_put0 {w : World} {B g n cap : Nat} {cur : Array Value} {b b' : UInt8} {t : List UInt8} {x : Value} (hB : B ≤ g) (hc : n ≤ cap) (hm : cap ≤ maxLen) (hz : cur.size = cap) (hb : w.heap[g]? = some (.cells cur 5 (0, 0))) (hl : (b :: t).length = n) (ht : cur.toList.take n = bc (b :: t)) (hx : x = .int .u8 b'.toNat) :
    (w.setCell ⟨g, 0, none⟩ x).ownsRow B 5 1 (.slice (some ⟨g, 0, none⟩) n cap) n (bc (b' :: t)) := by
  refine ⟨by rw [bc_length]; simp at hl ⊢; omega, .inr ⟨g, cap, _, rfl, hB, heap_setCell_same w g 0 cur 5 _ hb, hc, hm, by simp [hz], ?_⟩⟩
  rw [Nat.mul_one, Array.toList_setIfInBounds, List.take_set, ht, hx]
  rfl

theorem rwide_arg (v n : Int) (w : World) (h : v < 0 ∨ 4611686018427387903 < v ∨ mB n = false) :
    Calls Tryd.prog 57 #[.int .i64 v, .int .i64 n] w fun e w' => e = .returned (.tuple #[.slice none 0 0, .int .i64 2]) ∧ w' = w := by
  by_cases hv : v < 0 ∨ 4611686018427387903 < v
  · clear h
    go_enter Tryd.func57, Tryd.ntmps57
    go_wp2_with fail
    refine (rsize_no _ _ hv).mono ?_
    rintro e w' ⟨rfl, rfl⟩
    clear hv
    go_wp2
    go_ret2
    exact ⟨rfl, rfl⟩
  · have hm : mB n = false := by rcases h with h | h | h <;> first | exact h | omega
    have hm' : ¬ (n = 1 ∨ n = 2 ∨ n = 4 ∨ n = 8) := of_decide_eq_false hm
    have h1 : (n != 1) = true := by rw [bne_iff_ne]; omega
    have h2 : (n != 2) = true := by rw [bne_iff_ne]; omega
    have h4 : (n != 4) = true := by rw [bne_iff_ne]; omega
    have h8 : (n != 8) = true := by rw [bne_iff_ne]; omega
    clear h hm hm'
    go_enter Tryd.func57, Tryd.ntmps57
    go_wp2_with fail
    refine (rsize_yes _ _ (by omega) (by omega)).mono ?_
    rintro e w' ⟨rfl, rfl⟩
    clear hv
    go_wp2
    go_ret2
    exact ⟨rfl, rfl⟩

theorem top_1 (v : Nat) (h : v < 64) : Value.int .u8 (((UInt8.ofNat (v / 256 ^ 0)).toNat : Int) + 0) = .int .u8 ((UInt8.ofNat ((0 + v) / 256 ^ 0)).toNat : Int) := by
  have e : (256 : Nat) ^ 0 = 1 := by decide
  rw [e, UInt8.toNat_ofNat', UInt8.toNat_ofNat']
  congr 1
  omega
theorem low_1 (v : Nat) : be 0 (0 + v) = be 0 v := by
  have := be_add 0 v 0 0 (Nat.le_refl _)
  have e : (256 : Nat) ^ 0 = 1 := by decide
  rw [e] at this
  exact this

theorem rwide_big_1 (v : Int) (w : World) (h0 : 64 ≤ v) (h1 : v ≤ 4611686018427387903) :
    Calls Tryd.prog 57 #[.int .i64 v, .int .i64 1] w fun e w' => e = .returned (.tuple #[.slice none 0 0, .int .i64 3]) ∧ w' = w := by
  have ew : wrap64 (2 ^ 6) = 64 := by kernel_rfl
  go_enter Tryd.func57, Tryd.ntmps57
  go_wp2_with fail
  refine (rsize_yes _ _ (by omega) (by omega)).mono ?_
  rintro e w' ⟨rfl, rfl⟩
  go_wp2
  go_ret2
  exact ⟨rfl, rfl⟩

set_option maxRecDepth 10000 in
theorem rwide_1 (v : Int) (w : World) (h0 : 0 ≤ v) (h1 : v < 64) :
    Calls Tryd.prog 57 #[.int .i64 v, .int .i64 1] w fun e w' => ∃ x, e = .returned (.tuple #[x, .int .i64 0]) ∧ w'.ownsRow w.heap.size 5 1 x 1 (bc (be 1 (0 + v.toNat))) ∧ Below w.heap.size w w' := by
  have ew : wrap64 (2 ^ 6) = 64 := by kernel_rfl
  have HTOP := mkHid (top_1 v.toNat (by omega))
  have hfirst : (UInt8.ofNat (v.toNat / 256 ^ 0)).toNat < 64 := by
    have e : (256 : Nat) ^ 0 = 1 := by decide
    rw [e, UInt8.toNat_ofNat']; omega
  obtain ⟨c, hc⟩ : ∃ c : Nat, c = (UInt8.ofNat (v.toNat / 256 ^ 0)).toNat := ⟨_, rfl⟩
  rw [← hc] at hfirst HTOP
  have HC := mkHid hc
  clear hc
  go_enter Tryd.func57, Tryd.ntmps57
  go_wp2_with fail
  refine (rsize_yes _ _ (by omega) (by omega)).mono ?_
  rintro e w' ⟨rfl, rfl⟩
  go_wp2
  go_loop [8, 9] (fun kd k => (kd = .int .i64 0 ∧ k = .int .i64 1)) (fun _ k => 8 - (intOf k).toNat)
  case atStart => exact ⟨rfl, rfl⟩
  case round =>
    rcases hrel with ⟨rfl, rfl⟩
    go_wp2_with fail
    refine (bytes_int v 1 _ (by omega) (by omega) (by decide) (by decide)).mono ?_
    rintro e w1 ⟨vb, rfl, hown, hB⟩
    have HL := mkHid hB
    obtain ⟨g, cp, cur, hv, hg, hblk, hle, hmx, hsz, htk⟩ := own_shape hown (by decide)
    have HBK := mkHid hblk
    have HTK := mkHid htk
    clear hB hown hblk htk
    subst hv
    have hc0 := own_cell0 HBK.out (be_length 1 v.toNat) HTK.out
    rw [← HC.out] at hc0
    have hfr : w1.frozen? ⟨g, 0, none⟩ = false := by unfold World.frozen?; rw [HBK.out]; simp
    go_wp2
    go_ret2
    refine ⟨_, rfl, ?_, HL.out.setCell hg _⟩
    have e1 : be 1 (0 + v.toNat) = UInt8.ofNat ((0 + v.toNat) / 256 ^ 0) :: be 0 v.toNat := by rw [be_head, low_1]
    rw [e1]
    exact own_put0 hg hle hmx hsz HBK.out (be_length 1 v.toNat) HTK.out (by have := HTOP.out; simpa using this)

theorem top_2 (v : Nat) (h : v < 16384) : Value.int .u8 (((UInt8.ofNat (v / 256 ^ 1)).toNat : Int) + 64) = .int .u8 ((UInt8.ofNat ((16384 + v) / 256 ^ 1)).toNat : Int) := by
  have e : (256 : Nat) ^ 1 = 256 := by decide
  rw [e, UInt8.toNat_ofNat', UInt8.toNat_ofNat']
  congr 1
  omega
theorem low_2 (v : Nat) : be 1 (16384 + v) = be 1 v := by
  have := be_add 64 v 1 1 (Nat.le_refl _)
  have e : (256 : Nat) ^ 1 = 256 := by decide
  rw [e] at this
  exact this

theorem rwide_big_2 (v : Int) (w : World) (h0 : 16384 ≤ v) (h1 : v ≤ 4611686018427387903) :
    Calls Tryd.prog 57 #[.int .i64 v, .int .i64 2] w fun e w' => e = .returned (.tuple #[.slice none 0 0, .int .i64 3]) ∧ w' = w := by
  have ew : wrap64 (2 ^ 14) = 16384 := by kernel_rfl
  go_enter Tryd.func57, Tryd.ntmps57
  go_wp2_with fail
  refine (rsize_yes _ _ (by omega) (by omega)).mono ?_
  rintro e w' ⟨rfl, rfl⟩
  go_wp2
  go_ret2
  exact ⟨rfl, rfl⟩

set_option maxRecDepth 10000 in
theorem rwide_2 (v : Int) (w : World) (h0 : 0 ≤ v) (h1 : v < 16384) :
    Calls Tryd.prog 57 #[.int .i64 v, .int .i64 2] w fun e w' => ∃ x, e = .returned (.tuple #[x, .int .i64 0]) ∧ w'.ownsRow w.heap.size 5 1 x 2 (bc (be 2 (16384 + v.toNat))) ∧ Below w.heap.size w w' := by
  have ew : wrap64 (2 ^ 14) = 16384 := by kernel_rfl
  have HTOP := mkHid (top_2 v.toNat (by omega))
  have hfirst : (UInt8.ofNat (v.toNat / 256 ^ 1)).toNat < 64 := by
    have e : (256 : Nat) ^ 1 = 256 := by decide
    rw [e, UInt8.toNat_ofNat']; omega
  obtain ⟨c, hc⟩ : ∃ c : Nat, c = (UInt8.ofNat (v.toNat / 256 ^ 1)).toNat := ⟨_, rfl⟩
  rw [← hc] at hfirst HTOP
  have HC := mkHid hc
  clear hc
  go_enter Tryd.func57, Tryd.ntmps57
  go_wp2_with fail
  refine (rsize_yes _ _ (by omega) (by omega)).mono ?_
  rintro e w' ⟨rfl, rfl⟩
  go_wp2
  go_loop [8, 9] (fun kd k => (kd = .int .i64 0 ∧ k = .int .i64 1) ∨ (kd = .int .i64 1 ∧ k = .int .i64 2)) (fun _ k => 8 - (intOf k).toNat)
  case atStart => exact Or.inl ⟨rfl, rfl⟩
  case round =>
    rcases hrel with ⟨rfl, rfl⟩ | ⟨rfl, rfl⟩
    · go_wp2
      go_round
      case rel => exact Or.inr (⟨rfl, rfl⟩)
      case measure => simp [intOf]
    · go_wp2_with fail
      refine (bytes_int v 2 _ (by omega) (by omega) (by decide) (by decide)).mono ?_
      rintro e w1 ⟨vb, rfl, hown, hB⟩
      have HL := mkHid hB
      obtain ⟨g, cp, cur, hv, hg, hblk, hle, hmx, hsz, htk⟩ := own_shape hown (by decide)
      have HBK := mkHid hblk
      have HTK := mkHid htk
      clear hB hown hblk htk
      subst hv
      have hc0 := own_cell0 HBK.out (be_length 2 v.toNat) HTK.out
      rw [← HC.out] at hc0
      have hfr : w1.frozen? ⟨g, 0, none⟩ = false := by unfold World.frozen?; rw [HBK.out]; simp
      go_wp2
      go_ret2
      refine ⟨_, rfl, ?_, HL.out.setCell hg _⟩
      have e1 : be 2 (16384 + v.toNat) = UInt8.ofNat ((16384 + v.toNat) / 256 ^ 1) :: be 1 v.toNat := by rw [be_head, low_2]
      rw [e1]
      exact own_put0 hg hle hmx hsz HBK.out (be_length 2 v.toNat) HTK.out HTOP.out

theorem top_4 (v : Nat) (h : v < 1073741824) : Value.int .u8 (((UInt8.ofNat (v / 256 ^ 3)).toNat : Int) + 128) = .int .u8 ((UInt8.ofNat ((2147483648 + v) / 256 ^ 3)).toNat : Int) := by
  have e : (256 : Nat) ^ 3 = 16777216 := by decide
  rw [e, UInt8.toNat_ofNat', UInt8.toNat_ofNat']
  congr 1
  omega
theorem low_4 (v : Nat) : be 3 (2147483648 + v) = be 3 v := by
  have := be_add 128 v 3 3 (Nat.le_refl _)
  have e : (256 : Nat) ^ 3 = 16777216 := by decide
  rw [e] at this
  exact this

theorem rwide_big_4 (v : Int) (w : World) (h0 : 1073741824 ≤ v) (h1 : v ≤ 4611686018427387903) :
    Calls Tryd.prog 57 #[.int .i64 v, .int .i64 4] w fun e w' => e = .returned (.tuple #[.slice none 0 0, .int .i64 3]) ∧ w' = w := by
  have ew : wrap64 (2 ^ 30) = 1073741824 := by kernel_rfl
  go_enter Tryd.func57, Tryd.ntmps57
  go_wp2_with fail
  refine (rsize_yes _ _ (by omega) (by omega)).mono ?_
  rintro e w' ⟨rfl, rfl⟩
  go_wp2
  go_ret2
  exact ⟨rfl, rfl⟩

set_option maxRecDepth 10000 in
theorem rwide_4 (v : Int) (w : World) (h0 : 0 ≤ v) (h1 : v < 1073741824) :
    Calls Tryd.prog 57 #[.int .i64 v, .int .i64 4] w fun e w' => ∃ x, e = .returned (.tuple #[x, .int .i64 0]) ∧ w'.ownsRow w.heap.size 5 1 x 4 (bc (be 4 (2147483648 + v.toNat))) ∧ Below w.heap.size w w' := by
  have ew : wrap64 (2 ^ 30) = 1073741824 := by kernel_rfl
  have HTOP := mkHid (top_4 v.toNat (by omega))
  have hfirst : (UInt8.ofNat (v.toNat / 256 ^ 3)).toNat < 64 := by
    have e : (256 : Nat) ^ 3 = 16777216 := by decide
    rw [e, UInt8.toNat_ofNat']; omega
  obtain ⟨c, hc⟩ : ∃ c : Nat, c = (UInt8.ofNat (v.toNat / 256 ^ 3)).toNat := ⟨_, rfl⟩
  rw [← hc] at hfirst HTOP
  have HC := mkHid hc
  clear hc
  go_enter Tryd.func57, Tryd.ntmps57
  go_wp2_with fail
  refine (rsize_yes _ _ (by omega) (by omega)).mono ?_
  rintro e w' ⟨rfl, rfl⟩
  go_wp2
  go_loop [8, 9] (fun kd k => (kd = .int .i64 0 ∧ k = .int .i64 1) ∨ (kd = .int .i64 1 ∧ k = .int .i64 2) ∨ (kd = .int .i64 2 ∧ k = .int .i64 4)) (fun _ k => 8 - (intOf k).toNat)
  case atStart => exact Or.inl ⟨rfl, rfl⟩
  case round =>
    rcases hrel with ⟨rfl, rfl⟩ | ⟨rfl, rfl⟩ | ⟨rfl, rfl⟩
    · go_wp2
      go_round
      case rel => exact Or.inr (Or.inl ⟨rfl, rfl⟩)
      case measure => simp [intOf]
    · go_wp2
      go_round
      case rel => exact Or.inr (Or.inr (⟨rfl, rfl⟩))
      case measure => simp [intOf]
    · go_wp2_with fail
      refine (bytes_int v 4 _ (by omega) (by omega) (by decide) (by decide)).mono ?_
      rintro e w1 ⟨vb, rfl, hown, hB⟩
      have HL := mkHid hB
      obtain ⟨g, cp, cur, hv, hg, hblk, hle, hmx, hsz, htk⟩ := own_shape hown (by decide)
      have HBK := mkHid hblk
      have HTK := mkHid htk
      clear hB hown hblk htk
      subst hv
      have hc0 := own_cell0 HBK.out (be_length 4 v.toNat) HTK.out
      rw [← HC.out] at hc0
      have hfr : w1.frozen? ⟨g, 0, none⟩ = false := by unfold World.frozen?; rw [HBK.out]; simp
      go_wp2
      go_ret2
      refine ⟨_, rfl, ?_, HL.out.setCell hg _⟩
      have e1 : be 4 (2147483648 + v.toNat) = UInt8.ofNat ((2147483648 + v.toNat) / 256 ^ 3) :: be 3 v.toNat := by rw [be_head, low_4]
      rw [e1]
      exact own_put0 hg hle hmx hsz HBK.out (be_length 4 v.toNat) HTK.out HTOP.out

theorem top_8 (v : Nat) (h : v < 4611686018427387904) : Value.int .u8 (((UInt8.ofNat (v / 256 ^ 7)).toNat : Int) + 192) = .int .u8 ((UInt8.ofNat ((13835058055282163712 + v) / 256 ^ 7)).toNat : Int) := by
  have e : (256 : Nat) ^ 7 = 72057594037927936 := by decide
  rw [e, UInt8.toNat_ofNat', UInt8.toNat_ofNat']
  congr 1
  omega
theorem low_8 (v : Nat) : be 7 (13835058055282163712 + v) = be 7 v := by
  have := be_add 192 v 7 7 (Nat.le_refl _)
  have e : (256 : Nat) ^ 7 = 72057594037927936 := by decide
  rw [e] at this
  exact this

theorem rwide_big_8 (v : Int) (w : World) (h0 : 4611686018427387904 ≤ v) (h1 : v ≤ 4611686018427387903) :
    Calls Tryd.prog 57 #[.int .i64 v, .int .i64 8] w fun e w' => e = .returned (.tuple #[.slice none 0 0, .int .i64 3]) ∧ w' = w := by
  have ew : wrap64 (2 ^ 62) = 4611686018427387904 := by kernel_rfl
  go_enter Tryd.func57, Tryd.ntmps57
  go_wp2_with fail
  refine (rsize_yes _ _ (by omega) (by omega)).mono ?_
  rintro e w' ⟨rfl, rfl⟩
  go_wp2
  go_ret2
  exact ⟨rfl, rfl⟩

set_option maxRecDepth 10000 in
theorem rwide_8 (v : Int) (w : World) (h0 : 0 ≤ v) (h1 : v < 4611686018427387904) :
    Calls Tryd.prog 57 #[.int .i64 v, .int .i64 8] w fun e w' => ∃ x, e = .returned (.tuple #[x, .int .i64 0]) ∧ w'.ownsRow w.heap.size 5 1 x 8 (bc (be 8 (13835058055282163712 + v.toNat))) ∧ Below w.heap.size w w' := by
  have ew : wrap64 (2 ^ 62) = 4611686018427387904 := by kernel_rfl
  have HTOP := mkHid (top_8 v.toNat (by omega))
  have hfirst : (UInt8.ofNat (v.toNat / 256 ^ 7)).toNat < 64 := by
    have e : (256 : Nat) ^ 7 = 72057594037927936 := by decide
    rw [e, UInt8.toNat_ofNat']; omega
  obtain ⟨c, hc⟩ : ∃ c : Nat, c = (UInt8.ofNat (v.toNat / 256 ^ 7)).toNat := ⟨_, rfl⟩
  rw [← hc] at hfirst HTOP
  have HC := mkHid hc
  clear hc
  go_enter Tryd.func57, Tryd.ntmps57
  go_wp2_with fail
  refine (rsize_yes _ _ (by omega) (by omega)).mono ?_
  rintro e w' ⟨rfl, rfl⟩
  go_wp2
  go_loop [8, 9] (fun kd k => (kd = .int .i64 0 ∧ k = .int .i64 1) ∨ (kd = .int .i64 1 ∧ k = .int .i64 2) ∨ (kd = .int .i64 2 ∧ k = .int .i64 4) ∨ (kd = .int .i64 3 ∧ k = .int .i64 8)) (fun _ k => 8 - (intOf k).toNat)
  case atStart => exact Or.inl ⟨rfl, rfl⟩
  case round =>
    rcases hrel with ⟨rfl, rfl⟩ | ⟨rfl, rfl⟩ | ⟨rfl, rfl⟩ | ⟨rfl, rfl⟩
    · go_wp2
      go_round
      case rel => exact Or.inr (Or.inl ⟨rfl, rfl⟩)
      case measure => simp [intOf]
    · go_wp2
      go_round
      case rel => exact Or.inr (Or.inr (Or.inl ⟨rfl, rfl⟩))
      case measure => simp [intOf]
    · go_wp2
      go_round
      case rel => exact Or.inr (Or.inr (Or.inr (⟨rfl, rfl⟩)))
      case measure => simp [intOf]
    · go_wp2_with fail
      refine (bytes_int v 8 _ (by omega) (by omega) (by decide) (by decide)).mono ?_
      rintro e w1 ⟨vb, rfl, hown, hB⟩
      have HL := mkHid hB
      obtain ⟨g, cp, cur, hv, hg, hblk, hle, hmx, hsz, htk⟩ := own_shape hown (by decide)
      have HBK := mkHid hblk
      have HTK := mkHid htk
      clear hB hown hblk htk
      subst hv
      have hc0 := own_cell0 HBK.out (be_length 8 v.toNat) HTK.out
      rw [← HC.out] at hc0
      have hfr : w1.frozen? ⟨g, 0, none⟩ = false := by unfold World.frozen?; rw [HBK.out]; simp
      go_wp2
      go_ret2
      refine ⟨_, rfl, ?_, HL.out.setCell hg _⟩
      have e1 : be 8 (13835058055282163712 + v.toNat) = UInt8.ofNat ((13835058055282163712 + v.toNat) / 256 ^ 7) :: be 7 v.toNat := by rw [be_head, low_8]
      rw [e1]
      exact own_put0 hg hle hmx hsz HBK.out (be_length 8 v.toNat) HTK.out HTOP.out
end Go.Proofs.YtaeapgkfmofjlaaDoor
