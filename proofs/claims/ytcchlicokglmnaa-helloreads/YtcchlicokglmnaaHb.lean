/- The putter as it lies; must, number. -/
import Derived.Test.YtcchlicokglmnaaLay
import Derived.OwnWalk
import Derived.WalkMore
import Derived.Deep.RegionLaw
import Derived.Deep.RegionHeld3
import Derived.Laws.AppendOwnNone
import Derived.Defers
namespace Go.Proofs.Ytcchlicokglmnaa
open Go.ChangeShapes Go.WideShapes Go.ChangeAt Go.RowKit
set_option linter.unusedVariables false

theorem lt_block {w : World} {g : Nat} {o : Obj} (h : w.heap[g]? = some o) : g < w.heap.size := by
  by_cases hg : g < w.heap.size
  · exact hg
  · rw [Array.getElem?_eq_none (by omega)] at h; cases h
theorem Sl_own {w : World} {g : Nat} {cur : Array Value} {fr : Nat × Nat} {l : List UInt8} (hb : w.heap[g]? = some (.cells cur 5 fr)) (ht : cur.toList.take l.length = bc l) : Sl w (some ⟨g, 0, none⟩) l := by
  intro j hj
  refine ⟨g, 0, rfl, ?_⟩
  unfold World.cell?
  rw [hb]
  have h1 : (cur.toList.take l.length)[j]? = some (.int .u8 l[j].toNat) := by rw [ht]; simp [bc, hj]
  rw [List.getElem?_take, if_pos hj] at h1
  simpa using h1
theorem Sl_cells {w : World} {ad : Addr} {l : List UInt8} (hs : Sl w (some ad) l) : ∀ j u, (bc l)[j]? = some u → w.cell? (ad.add j) = some u := by
  intro j u hu
  have hj : j < l.length := by
    have := (List.getElem?_eq_some_iff.1 hu).1
    simpa [bc] using this
  obtain ⟨b, off, he, hc⟩ := hs j hj
  simp only [Option.some.injEq] at he
  subst he
  rw [add_none, hc]
  simp [bc, List.getElem?_eq_getElem hj] at hu
  rw [← hu]
theorem wpList_append_bytes {P : Program} {w : World} {ops : Array Oper} {rest : List Oper} {o : Oper} {a : Act} {Q : Exit → Act → World → Prop} (hgd : o.guard = none) (s x : Operand)
    (ho : o.op = .call { callee := .builtin .append, args := #[s, x], argTypes := #[25, 25] })
    (base : Nat) (i : TypeInfo) (ht : P.underlying 25 = some (.slice 5)) (hi : P.info? 5 = some i) (hz : i.zero = some (.int .u8 0)) (hsize : i.size = 1) (hby : i.bytes = 1)
    (v : Value) (n : Nat) (xs : List Value) (hs : a.eval s = v) (hown : w.ownsRow base 5 1 v n xs)
    (ao : Option Addr) (m c : Nat) (l : List UInt8) (hx : a.eval x = .slice ao m c) (hl : l.length = m) (hnil : ao = none → m = 0 ∧ c = 0) (hsl : Sl w ao l)
    (hb : n + m ≤ 140737488355328) (hbase : base ≤ w.heap.size)
    (h : ∀ v' w', w'.ownsRow base 5 1 v' (n + m) (xs ++ bc l) → w.grownBy w' v.ownBlock → wpList P ops Q rest (a.put o.dst v') w') : wpList P ops Q (o :: rest) a w := by
  cases ao with
  | none =>
    obtain ⟨rfl, rfl⟩ := hnil rfl
    obtain rfl : l = [] := List.eq_nil_of_length_eq_zero hl
    refine wpList_append_own_none hgd s x 25 ho base 5 i 1 ht hi v n xs hs hown hx ?_
    refine h v w ?_ ⟨rfl, rfl, rfl, Nat.le_refl _, fun _ _ _ => rfl⟩
    simpa [bc] using hown
  | some ad =>
    refine wpList_append_own w hgd s x 25 ho base 5 i (.int .u8 0) 1 1 ht hi hz hsize hby rfl (by decide) v n xs hs hown ad m c (bc l) hx (by rw [bc_length]; omega) (Sl_cells hsl) (bc_one l) (by unfold maxLen; omega) (by omega) hbase ?_
    intro v' w' h1 h2 _
    exact h v' w' h1 h2
theorem str_any {w : World} {ao : Option Addr} {l : List UInt8} {m cap : Nat} (hs : Sl w ao l) (hm : l.length = m) (hnil : ao = none → m = 0 ∧ cap = 0) :
    (convert 25 9 (.slice ao m cap)).run Try.prog w = .ok (.string ⟨l.toArray⟩) w := by
  cases ao with
  | none =>
    obtain ⟨rfl, rfl⟩ := hnil rfl
    obtain rfl : l = [] := List.eq_nil_of_length_eq_zero hm
    rw [run_convert_bytes_string w 25 9 5 none 0 0 Try.underlying25 Try.underlying5 Try.underlying9]
    simp [Conv.bytesToString]
    rfl
  | some ad =>
    subst hm
    refine run_convert_bytes_back w 25 9 5 ad cap l Try.underlying25 Try.underlying5 Try.underlying9 fun j hj => ?_
    exact Sl_cells hs j _ (by simp [bc, hj])
theorem str_add {w : World} (l m : List UInt8) (hl : l.length + m.length ≤ 9223372036854775807) :
    (Op.stringOp .add ⟨l.toArray⟩ ⟨m.toArray⟩).run Try.prog w = .ok (.string ⟨(l ++ m).toArray⟩) w := by
  refine (run_string_add_sum (P := Try.prog) (w := w) ⟨l.toArray⟩ ⟨m.toArray⟩ (by simpa [ByteArray.size] using hl)).trans ?_
  have e : (⟨l.toArray⟩ : ByteArray) ++ ⟨m.toArray⟩ = ⟨(l ++ m).toArray⟩ := by
    apply ByteArray.ext
    rw [ByteArray.data_append]
    simp
  rw [e]
theorem Sl_new (w : World) (b : UInt8) : Sl (w.alloc (.cells #[.int .u8 b.toNat] 5)) (some ⟨w.heap.size, 0, none⟩) [b] :=
  Sl_own (heap_alloc_new w _) (by simp [bc])
theorem step_append_bytes {P : Program} {w : World} {ops : Array Oper} {o : Oper} {a : Act} {K : Act → World → Prop} {Q : Exit → Act → World → Prop} {E : Prop} (hgd : o.guard = none) (s x : Operand)
    (ho : o.op = .call { callee := .builtin .append, args := #[s, x], argTypes := #[25, 25] })
    (base : Nat) (i : TypeInfo) (ht : P.underlying 25 = some (.slice 5)) (hi : P.info? 5 = some i) (hz : i.zero = some (.int .u8 0)) (hsize : i.size = 1) (hby : i.bytes = 1)
    (v : Value) (n : Nat) (xs : List Value) (hs : a.eval s = v) (hown : w.ownsRow base 5 1 v n xs)
    (ao : Option Addr) (m c : Nat) (l : List UInt8) (hx : a.eval x = .slice ao m c) (hl : l.length = m) (hnil : ao = none → m = 0 ∧ c = 0) (hsl : Sl w ao l)
    (hb : n + m ≤ 140737488355328) (hbase : base ≤ w.heap.size)
    (h : ∀ v' w', w'.ownsRow base 5 1 v' (n + m) (xs ++ bc l) → w.grownBy w' v.ownBlock → K (a.put o.dst v') w') : if Region.wanted o (yielded ops a.tmps) = true then Oper.wp P o a w K Q else E := by
  have hw : Region.wanted o (yielded ops a.tmps) = true := by simp [Region.wanted, hgd]
  rw [if_pos hw]
  cases ao with
  | none =>
    obtain ⟨rfl, rfl⟩ := hnil rfl
    obtain rfl : l = [] := List.eq_nil_of_length_eq_zero hl
    have hrun := run_append_owned_none (P := P) (w := w) base 25 o.type 5 i 1 ht hi v n xs hown
    unfold Oper.wp
    simp [execOp, ho, resolve, invoke, builtin, hs, hx, hrun, Result.andThen]
    exact h v w (by simpa [bc] using hown) ⟨rfl, rfl, rfl, Nat.le_refl _, fun _ _ _ => rfl⟩
  | some ad =>
    exact wp_append_own w s x 25 ho base 5 i (.int .u8 0) 1 1 ht hi hz hsize hby rfl (by decide) v n xs hs hown ad m c (bc l) hx (by rw [bc_length]; omega) (Sl_cells hsl) (bc_one l) (by unfold maxLen; omega) (by omega) hbase (fun v' w' h1 h2 _ => h v' w' h1 h2)
/-- bytes of the call's own, nil where there are none -/
def By (B : Nat) (w : World) (v : Value) (X : List UInt8) : Prop := w.ownsRow B 5 1 v X.length (bc X)
/-- The putter as it lies in block p: its bytes, and whether it has refused. -/
structure Pu (w : World) (p B : Nat) (v : Value) (X : List UInt8) (r : Bool) : Prop where
  row : w.heap[p]? = some (.cells #[.bool r, v] 52 (0, 0))
  own : By B w v X
  lt : p < B
/-- nothing turns but block p and bytes from block B on -/
structure Gr (p B : Nat) (w w' : World) : Prop where
  os : w'.os = w.os
  tape : w'.tape = w.tape
  output : w'.output = w.output
  size : w.heap.size ≤ w'.heap.size
  block : ∀ k, k < w.heap.size → k ≠ p → (k < B ∨ ∀ cs fr, w.heap[k]? ≠ some (.cells cs 5 fr)) → w'.heap[k]? = w.heap[k]?
theorem Gr.refl (p B : Nat) (w : World) : Gr p B w w := ⟨rfl, rfl, rfl, Nat.le_refl _, fun _ _ _ _ => rfl⟩
theorem Gr.trans {p B : Nat} {a b c : World} (h : Gr p B a b) (k : Gr p B b c) : Gr p B a c :=
  ⟨k.os.trans h.os, k.tape.trans h.tape, k.output.trans h.output, Nat.le_trans h.size k.size, fun i hi hp hc => by
    have e := h.block i hi hp hc
    refine (k.block i (Nat.lt_of_lt_of_le hi h.size) hp ?_).trans e
    rcases hc with hc | hc
    · exact .inl hc
    · exact .inr (fun cs fr => by rw [e]; exact hc cs fr)⟩
theorem Gr.of_below {p B : Nat} {w w' : World} (h : Below w.heap.size w w') : Gr p B w w' := ⟨h.os, h.tape, h.output, h.size, fun k hk _ _ => h.block k hk⟩
theorem Gr.set (p B j : Nat) (w : World) (x : Value) : Gr p B w (w.setCell ⟨p, j, none⟩ x) :=
  ⟨rfl, rfl, rfl, by simp [World.setCell], fun k _ hp _ => Below.heap_setCell _ _ _ _ hp⟩
theorem Gr.alloc (p B : Nat) (w : World) (o : Obj) : Gr p B w (w.alloc o) := .of_below ((Below.refl _ _).alloc (Nat.le_refl _) _)
theorem Gr.drew {p B : Nat} {w w' : World} (h : Gr p B w w') : Gr p B w w'.drew := ⟨h.os, h.tape, h.output, h.size, h.block⟩
theorem Gr.of_grown {p B : Nat} {w w' : World} {v : Value} {n : Nat} {xs : List Value} (ho : w.ownsRow B 5 1 v n xs) (hg : w.grownBy w' v.ownBlock) : Gr p B w w' :=
  ⟨hg.os, hg.tape, hg.output, hg.size, fun k hk _ hc => hg.block k hk (fun e => by
    obtain ⟨hl, ⟨hv, _⟩ | ⟨g, cap, cur, he, k1, k2, k3⟩⟩ := ho
    · subst hv; simp [Value.ownBlock] at e
    · subst he
      simp [Value.ownBlock] at e
      subst e
      rcases hc with hc | hc
      · omega
      · exact hc _ _ k2)⟩
theorem Pu.c0 {w : World} {p B : Nat} {v : Value} {X : List UInt8} {r : Bool} (h : Pu w p B v X r) : w.cell? ⟨p, 1, none⟩ = some v := by unfold World.cell?; rw [h.row]; rfl
theorem Pu.c1 {w : World} {p B : Nat} {v : Value} {X : List UInt8} {r : Bool} (h : Pu w p B v X r) : w.cell? ⟨p, 0, none⟩ = some (.bool r) := by unfold World.cell?; rw [h.row]; rfl
theorem Pu.fr {w : World} {p B : Nat} {v : Value} {X : List UInt8} {r : Bool} (h : Pu w p B v X r) (j : Nat) : w.frozen? ⟨p, j, none⟩ = false := by unfold World.frozen?; rw [h.row]; simp
theorem By.below {B : Nat} {w w' : World} {v : Value} {X : List UInt8} (h : By B w v X) (hb : Below w.heap.size w w') : By B w' v X := by
  obtain ⟨hl, hc | ⟨g, cap, cur, he, k1, k2, k3⟩⟩ := h
  · exact ⟨hl, .inl hc⟩
  · exact ⟨hl, .inr ⟨g, cap, cur, he, k1, (hb.block g (lt_block k2)).trans k2, k3⟩⟩
theorem Pu.below {w w' : World} {p B : Nat} {v : Value} {X : List UInt8} {r : Bool} (h : Pu w p B v X r) (hb : Below w.heap.size w w') : Pu w' p B v X r :=
  ⟨(hb.block p (lt_block h.row)).trans h.row, h.own.below hb, h.lt⟩
theorem Pu.set1 {w : World} {p B : Nat} {v : Value} {X : List UInt8} {r : Bool} (h : Pu w p B v X r) (x : Bool) : Pu (w.setCell ⟨p, 0, none⟩ (.bool x)) p B v X x :=
  ⟨by rw [heap_setCell_same w p 0 _ 52 _ h.row]; rfl, ownsRow_setCell_below h.own h.lt _, h.lt⟩
theorem own_val {B n : Nat} {w : World} {v : Value} {xs : List Value} (h : w.ownsRow B 5 1 v n xs) : ∃ o c, v = .slice o n c := by
  obtain ⟨hl, ⟨hv, hn⟩ | ⟨g, cap, cur, he, _⟩⟩ := h
  · subst hn; exact ⟨none, 0, hv⟩
  · exact ⟨_, _, he⟩
/-- behind an append to the putter's bytes -/
theorem pu_after {w w1 w2 : World} {p B : Nat} {o : Option Addr} {c : Nat} {X Y : List UInt8} {x : Bool} {v' : Value} (hg : Gr p B w w1) (hs : Pu w1 p B (.slice o X.length c) X x) (h1 : w2.ownsRow B 5 1 v' (X.length + Y.length) (bc X ++ bc Y)) (h2 : w1.grownBy w2 (Value.slice o X.length c).ownBlock) :
    ∃ o' c', v' = .slice o' (X.length + Y.length) c' ∧ w2.cell? ⟨p, 1, none⟩ = some (.slice o X.length c) ∧ w2.frozen? ⟨p, 1, none⟩ = false ∧ Hid (Pu (w2.setCell ⟨p, 1, none⟩ (.slice o' (X.length + Y.length) c')) p B (.slice o' (X.length + Y.length) c') (X ++ Y) x ∧ Gr p B w (w2.setCell ⟨p, 1, none⟩ (.slice o' (X.length + Y.length) c'))) := by
  obtain ⟨o', c', rfl⟩ := own_val h1
  have hr2 : w2.heap[p]? = some (.cells #[.bool x, .slice o X.length c] 52 (0, 0)) := (h2.block p (lt_block hs.row) (fun e => by have := (hs.own.lt p e.symm).1; have := hs.lt; omega)).trans hs.row
  refine ⟨o', c', rfl, by unfold World.cell?; rw [hr2]; rfl, by unfold World.frozen?; rw [hr2]; simp, ⟨by rw [heap_setCell_same w2 p 1 _ 52 _ hr2]; rfl, ?_, hs.lt⟩, ?_⟩
  · have h3 := ownsRow_setCell_below (a := ⟨p, 1, none⟩) h1 hs.lt (.slice o' (X.length + Y.length) c')
    unfold By
    rw [bc_append, List.length_append]
    exact h3
  · exact (hg.trans (Gr.of_grown hs.own h2)).trans (Gr.set p B 1 w2 _)

theorem Pu.drew {w : World} {p B : Nat} {v : Value} {X : List UInt8} {r : Bool} (h : Pu w p B v X r) : Pu w.drew p B v X r := ⟨h.row, h.own, h.lt⟩

theorem Gr.cell {p B : Nat} {w w' : World} (h : Gr p B w w') {b j : Nat} {v : Value} (hc : w.cell? ⟨b, j, none⟩ = some v) (hp : b ≠ p) (ho : b < B ∨ ∀ cs fr, w.heap[b]? ≠ some (.cells cs 5 fr)) : w'.cell? ⟨b, j, none⟩ = some v :=
  (World.cell?_of_block (a := ⟨b, j, none⟩) (h.block b (World.block_lt_of_cell? w _ hc) hp ho)).trans hc
theorem Gr.heap {p B : Nat} {w w' : World} (h : Gr p B w w') {b t : Nat} {cs : Array Value} {fr : Nat × Nat} (hc : w.heap[b]? = some (.cells cs t fr)) (hp : b ≠ p) (ht : t ≠ 5) : w'.heap[b]? = some (.cells cs t fr) :=
  (h.block b (lt_block hc) hp (.inr fun cs' fr' e => by rw [hc] at e; injection e with e; injection e with _ e _; exact ht e)).trans hc
theorem wrap_bounds (v : Int) : 0 ≤ IntKind.u64.wrap v ∧ IntKind.u64.wrap v < 18446744073709551616 := by rw [IntKind.wrap_u64]; omega
/-- A number as bytes see it. -/
def uN (x : Int) : Nat := (IntKind.u64.wrap x).toNat
theorem uN_lt (x : Int) : uN x < 18446744073709551616 := by have := wrap_bounds x; unfold uN; omega
theorem uN_cast (x : Int) : ((uN x : Nat) : Int) = IntKind.u64.wrap x := by have := wrap_bounds x; unfold uN; omega
def OpP (w : World) (X : List UInt8) (e : Ending) (w' : World) : Prop := e = .returned (.tuple #[.slice (some ⟨w.heap.size, 0, none⟩) X.length X.length, .int .i64 0]) ∧ w'.heap[w.heap.size]? = some (.cells (bc X).toArray 5 (0, 0)) ∧ Below w.heap.size w w'
set_option maxRecDepth 10000 in
theorem oput_c (ao : Option Addr) (l : List UInt8) (cap V n : Nat) (w : World) (hs : Sl w ao l) (hl : l.length ≤ 140737488351232) (hV : V < 18446744073709551616) (hn1 : 1 ≤ n) (hn8 : n ≤ 8) :
    Calls Try.prog 18 #[.slice ao l.length cap, .int .u64 V, .int .i64 n] w (OpP w (l ++ be n V)) := by
  have HL := mkHid (lay_any ao l cap V n w hs hl hV hn1 hn8)
  have g1 : ¬ (n : Int) < 1 := by omega
  have g1' : decide ((n : Int) < 1) = false := by simpa using g1
  have g2 : ¬ (8 : Int) < (n : Int) := by omega
  have g2' : decide ((8 : Int) < (n : Int)) = false := by simpa using g2
  have hlen : (l ++ be n V).length = l.length + n := by simp [be_length]
  clear hs
  go_enter Try.func18, Try.ntmps18
  go_wp2_with fail
  refine HL.out.mono ?_
  rintro e w1 ⟨rfl, h1, h2⟩
  go_wp2_with fail
  go_ret2
  exact ⟨by rw [hlen]; rfl, h1, h2⟩
section
variable {w : World} {p B : Nat} {v : Value} {X : List UInt8} {r : Bool}
set_option maxRecDepth 10000 in
theorem must_c (h : Pu w p B v X r) (ok : Bool) : Calls Try.prog 23 #[.pointer (some ⟨p, 0, none⟩), .bool ok] w fun e w' => e = .returned (.tuple #[]) ∧ Pu w' p B v X (r || !ok) ∧ w' = w.setCell ⟨p, 0, none⟩ (.bool (r || !ok)) := by
  have HP := mkHid h
  have c1 := h.c1
  have f1 := h.fr 0
  clear h
  cases r <;> cases ok
  all_goals
    go_enter Try.func23, Try.ntmps23
    go_wp2_with fail
    go_end0
    exact ⟨rfl, HP.out.set1 _, rfl⟩
end
end Go.Proofs.Ytcchlicokglmnaa
