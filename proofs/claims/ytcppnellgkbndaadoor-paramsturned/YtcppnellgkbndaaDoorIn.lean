/- Laws for the walk: bytes appended to a row of the call's own; a slice of bytes as a string. -/
import Derived.Test.YtcppnellgkbndaaDoorRead
namespace Go.Proofs.YtcppnellgkbndaaDoor
open Go.ChangeShapes Go.WideShapes Go.ChangeAt Go.RowKit
set_option linter.unusedVariables false

/-- 'append(v, xs...)', v the call's own, xs whatever bytes, nil too. -/
theorem wpList_append_bytes {P : Program} {w : World} {ops : Array Oper} {rest : List Oper} {o : Oper} {a : Act} {Q : Exit → Act → World → Prop} (hgd : o.guard = none) (s x : Operand)
    (ho : o.op = .call { callee := .builtin .append, args := #[s, x], argTypes := #[22, 22] })
    (base : Nat) (i : TypeInfo) (ht : P.underlying 22 = some (.slice 5)) (hi : P.info? 5 = some i) (hz : i.zero = some (.int .u8 0)) (hsize : i.size = 1) (hby : i.bytes = 1)
    (v : Value) (n : Nat) (xs : List Value) (hs : a.eval s = v) (hown : w.ownsRow base 5 1 v n xs)
    (ao : Option Addr) (m c : Nat) (l : List UInt8) (hx : a.eval x = .slice ao m c) (hl : l.length = m) (hnil : ao = none → m = 0 ∧ c = 0) (hsl : Sl w ao l)
    (hb : n + m ≤ 140737488355328) (hbase : base ≤ w.heap.size)
    (h : ∀ v' w', w'.ownsRow base 5 1 v' (n + m) (xs ++ bc l) → w.grownBy w' v.ownBlock → wpList P ops Q rest (a.put o.dst v') w') : wpList P ops Q (o :: rest) a w := by
  cases ao with
  | none =>
    obtain ⟨rfl, rfl⟩ := hnil rfl
    obtain rfl : l = [] := List.eq_nil_of_length_eq_zero hl
    refine wpList_append_own_none hgd s x 22 ho base 5 i 1 ht hi v n xs hs hown hx ?_
    refine h v w ?_ ⟨rfl, rfl, rfl, Nat.le_refl _, fun _ _ _ => rfl⟩
    simpa [bc] using hown
  | some ad =>
    refine wpList_append_own w hgd s x 22 ho base 5 i (.int .u8 0) 1 1 ht hi hz hsize hby rfl (by decide) v n xs hs hown ad m c (bc l) hx (by rw [bc_length]; omega) (Sl_cells hsl) (bc_one l) (by unfold maxLen; omega) (by omega) hbase ?_
    intro v' w' h1 h2 _
    exact h v' w' h1 h2

theorem str_any {w : World} {ao : Option Addr} {l : List UInt8} {m cap : Nat} (hs : Sl w ao l) (hm : l.length = m) (hnil : ao = none → m = 0 ∧ cap = 0) :
    (convert 22 9 (.slice ao m cap)).run Tryd.prog w = .ok (.string ⟨l.toArray⟩) w := by
  cases ao with
  | none =>
    obtain ⟨rfl, rfl⟩ := hnil rfl
    obtain rfl : l = [] := List.eq_nil_of_length_eq_zero hm
    rw [run_convert_bytes_string w 22 9 5 none 0 0 Tryd.underlying22 Tryd.underlying5 Tryd.underlying9]
    simp [Conv.bytesToString]
    rfl
  | some ad =>
    subst hm
    refine run_convert_bytes_back w 22 9 5 ad cap l Tryd.underlying22 Tryd.underlying5 Tryd.underlying9 fun j hj => ?_
    exact Sl_cells hs j _ (by simp [bc, hj])

theorem str_add {w : World} (l m : List UInt8) (hl : l.length + m.length ≤ 9223372036854775807) :
    (Op.stringOp .add ⟨l.toArray⟩ ⟨m.toArray⟩).run Tryd.prog w = .ok (.string ⟨(l ++ m).toArray⟩) w := by
  refine (run_string_add_sum (P := Tryd.prog) (w := w) ⟨l.toArray⟩ ⟨m.toArray⟩ (by simpa [ByteArray.size] using hl)).trans ?_
  have e : (⟨l.toArray⟩ : ByteArray) ++ ⟨m.toArray⟩ = ⟨(l ++ m).toArray⟩ := by
    apply ByteArray.ext
    rw [ByteArray.data_append]
    simp
  rw [e]

theorem Sl_new (w : World) (b : UInt8) : Sl (w.alloc (.cells #[.int .u8 b.toNat] 5)) (some ⟨w.heap.size, 0, none⟩) [b] :=
  Sl_own (heap_alloc_new w _) (by simp [bc])

/-- What 'in := append(append([]byte{}, b...), 0x5a)' has made. -/
structure MadeIn (w w2 : World) (v2 : Value) (l : List UInt8) (g cp : Nat) (cur : Array Value) : Prop where
  val : v2 = .slice (some ⟨g, 0, none⟩) (l.length + 1) cp
  above : w.heap.size ≤ g
  block : w2.heap[g]? = some (.cells cur 5 (0, 0))
  room : l.length + 1 ≤ cp
  most : cp ≤ 9223372036854775807
  cells : cur.toList.take (l.length + 1) = bc (l ++ [90])
  below : Below w.heap.size w w2

theorem made_in {w w1 w2 : World} {v1 v2 : Value} {l : List UInt8}
    (ho1 : w1.ownsRow w.heap.size 5 1 v1 (0 + l.length) ([] ++ bc l)) (hg1 : (w.alloc (.cells #[] 5)).grownBy w1 (Value.slice (some ⟨w.heap.size, 0, none⟩) 0 0).ownBlock)
    (ho2 : w2.ownsRow w.heap.size 5 1 v2 (0 + l.length + 1) (([] ++ bc l) ++ bc [90])) (hg2 : (w1.alloc (.cells #[.int .u8 90] 5)).grownBy w2 v1.ownBlock) :
    ∃ g cp cur, MadeIn w w2 v2 l g cp cur := by
  have hb1 : Below w.heap.size w w1 := ((Below.refl w.heap.size w).alloc (Nat.le_refl _) _).grown hg1 (by simp) (by intro k hk; simp [Value.ownBlock] at hk; omega)
  have hb2 : Below w.heap.size w w2 := (hb1.alloc hb1.size _).grown hg2 (by have := hb1.size; simp; omega) (fun k hk => (ho1.lt k hk).1)
  rw [Nat.zero_add] at ho2
  obtain ⟨g, cap, cur, he, h1, h2, h3, h4, h5, h6⟩ := own_shape ho2 (by omega)
  exact ⟨g, cap, cur, he, h1, h2, h3, h4, by rw [h6, List.nil_append, bc_append], hb2⟩

theorem MadeIn.sl {w w2 : World} {v2 : Value} {l : List UInt8} {g cp : Nat} {cur : Array Value} (h : MadeIn w w2 v2 l g cp cur) : Sl w2 (some ⟨g, 0, none⟩) l := by
  refine Sl_own h.block ?_
  have := congrArg (List.take l.length) h.cells
  rw [List.take_take, Nat.min_eq_left (by omega)] at this
  rw [this, bc_append, List.take_append_of_le_length (by rw [bc_length]; omega), List.take_of_length_le (by rw [bc_length]; omega)]
theorem MadeIn.all {w w2 : World} {v2 : Value} {l : List UInt8} {g cp : Nat} {cur : Array Value} (h : MadeIn w w2 v2 l g cp cur) : Sl w2 (some ⟨g, 0, none⟩) (l ++ [90]) :=
  Sl_own h.block (by simpa using h.cells)
end Go.Proofs.YtcppnellgkbndaaDoor
