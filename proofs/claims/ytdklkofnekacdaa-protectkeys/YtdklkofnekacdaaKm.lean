/- ProtectKeys: the law's terms, and what each call tells of them. ProtectKeys: what the law's walk wants of the calls. -/
import Derived.Test.YtdklkofnekacdaaTt
import Derived.Test.YtdklkofnekacdaaEq
import Derived.Test.YtdklkofnekacdaaPu
namespace Go.Proofs.Ytdklkofnekacdaa
open Go.RowKit Go.Shelf Go.Lib
set_option linter.unusedVariables false

/-- The law's boxes stay. -/
def Kq (w w' : World) : Prop := ∀ (b : Nat) (cs : Array Value) (t : Nat) (fr : Nat × Nat), w.heap[b]? = some (Obj.cells cs t fr) → t ≤ 40 → w'.heap[b]? = some (Obj.cells cs t fr)
theorem Kq.of_kc {w w' : World} (h : Kc w w') : Kq w w' := fun b cs t fr hb ht => h b cs t fr hb (by omega) (by omega)
theorem Kq.of_kz {w w' : World} (h : Kz w w') : Kq w w' := fun b cs t fr hb ht => h b cs t fr hb (by omega) (by omega)
theorem Kq.of_bel {w w' : World} (h : Below w.heap.size w w') : Kq w w' := fun b cs t fr hb _ => heap_bel hb h
/-- What a call tells, and does to both vaults. -/
def Pc (W0 : World) (V R : Nat) (f : Nat) (args : Array Value) (L0 L L0' L' : List Tm) (v : Value) : Prop := ∀ X, Rs W0 X V L0 R L → Calls Try.prog f args X fun e w' => e = .returned v ∧ Rs W0 w' V L0' R L' ∧ Kq X w'
section
variable {W0 w w' : World} {V R : Nat} {L0 L L1 L0' L' : List Tm} {f : Nat} {args : Array Value} {v : Value}
theorem Rs.prog (h : Rs W0 w V L0 R L) (ha : Ag W0 w' V L0') (hk : Kc w w') : Rs W0 w' V L0' R L := by
  obtain ⟨g, d, hr⟩ := h.rv
  exact ⟨ha, g, d, hr.kc hk⟩
theorem Pc.of_ag (h : ∀ X, Ag W0 X V L0 → Calls Try.prog f args X fun e w' => e = .returned v ∧ Ag W0 w' V L0' ∧ Kc X w') : Pc W0 V R f args L0 L L0' L v := fun X hX =>
  (h X hX.ag).mono fun e w' ⟨h1, h2, h3⟩ => ⟨h1, hX.prog h2 h3, .of_kc h3⟩
theorem Pc.of_rs (h : ∀ X, Rs W0 X V L0 R L → Calls Try.prog f args X fun e w' => e = .returned v ∧ Rs W0 w' V L0 R L' ∧ Kz X w') : Pc W0 V R f args L0 L L0 L' v := fun X hX =>
  (h X hX).mono fun e w' ⟨h1, h2, h3⟩ => ⟨h1, h2, .of_kz h3⟩
theorem Pc.of_bel (h : ∀ X, Rs W0 X V L0 R L → Calls Try.prog f args X fun e w' => e = .returned v ∧ Below X.heap.size X w') : Pc W0 V R f args L0 L L0 L v := fun X hX =>
  (h X hX).mono fun e w' ⟨h1, h2⟩ => ⟨h1, hX.go h2, .of_bel h2⟩
end
def niB (k : Nat) (S : ByteArray) (L : List Tm) : Bool := L.all fun t => !(t.of' == k && t.un.data.toList == S.data.toList)
theorem ni {k : Nat} {S x : ByteArray} {L : List Tm} (h : niB k S L = true) : (⟨2, k, 0, S, x⟩ : Tm) ∉ L := by
  intro hm
  have := List.all_eq_true.1 h _ hm
  simp at this
def cnB (L : List Tm) : Bool := L.all fun t => t.wi == 0 && t.kd ≤ 2 && (t.kd == 2 || t.un.data.toList == [])
theorem cn {L : List Tm} (h : cnB L = true) : ∀ u ∈ L, Cn u := by
  intro u hu
  have := List.all_eq_true.1 h _ hu
  simp only [Bool.and_eq_true, Bool.or_eq_true, beq_iff_eq, decide_eq_true_eq] at this
  refine ⟨this.1.1, this.1.2, this.2.imp id fun e => ?_⟩
  cases hun : u.un with
  | mk d => rw [hun] at e; simp only at e; congr 1; exact Array.toList_inj.1 e
abbrev tI (l : List UInt8) : Tm := ⟨2, 0, 0, bInit, ⟨l.toArray⟩⟩
def lA0 : List Tm := [rt, fr, fr, fr]
def lB0 (l : List UInt8) : List Tm := lA0 ++ [tI l, dt 4 bCli, dt 5 bKey, dt 5 bMask]
def lA1 (l : List UInt8) : List Tm := lB0 l ++ [dt 5 bNext, dt 8 bKey, dt 8 bMask]
def lB1 (l : List UInt8) : List Tm := lA1 l ++ [dt 4 bSer, dt 11 bKey, dt 11 bMask]
def lA2 (l : List UInt8) : List Tm := lB1 l ++ [dt 11 bNext, dt 14 bKey, dt 14 bMask]
theorem one_tI (l : List UInt8) (i : Nat) : (lA1 l)[i]? = some (tI l) ↔ i = 4 := by
  constructor
  · intro h
    have hl := (List.getElem?_eq_some_iff.1 h).1
    simp [lA1, lB0, lA0] at hl
    rcases (show i = 0 ∨ i = 1 ∨ i = 2 ∨ i = 3 ∨ i = 4 ∨ i = 5 ∨ i = 6 ∨ i = 7 ∨ i = 8 ∨ i = 9 ∨ i = 10 by omega) with rfl | rfl | rfl | rfl | rfl | rfl | rfl | rfl | rfl | rfl | rfl <;> first | rfl | (simp [lA1, lB0, lA0] at h)
  · rintro rfl; rfl
section
variable {W0 : World} {V R : Nat} {L0 L : List Tm} {l : List UInt8} {o : Option Addr} {cp : Nat}
theorem pI0 (hS : Sl W0 o l) (hl : l.length ≤ 20) : Pc W0 V R 8 #[.pointer (some ⟨V, 0, none⟩), .slice o l.length cp, .bool false] lA0 L (lB0 l) L (.tuple #[hv (nameL 5 ++ nameL 6 ++ nameL 7), .int .i64 0]) :=
  .of_ag fun X hX => initial_false (L1 := lA0 ++ [tI l]) (L2 := lA0 ++ [tI l, dt 4 bCli]) hX (by simp [lA0]) o l.length cp hl 4 5 _ (by simp [nameL_len])
    (fun X hX => hX.der (by simp [lA0]) 0 (by simp [lA0]) bInit (by decide) (by decide) o cp l (hS.bel hX.bel) (ni rfl))
    (fun X hX => by have := hX.der (by simp [lA0]) 4 (by simp [lA0]) bCli (by decide) (by decide) none 0 [] (nil_sl _) (ni rfl); exact this)
    (fun X hX => by have := make_c hX (by simp [lA0]) 5 (by simp [lA0]) (ni rfl) (ni rfl); exact this)
theorem rI0 (hS : Sl W0 o l) (hl : l.length ≤ 20) : Pc W0 V R 9 #[.pointer (some ⟨R, 0, none⟩), .slice o l.length cp, .bool false] L0 lA0 L0 (lB0 l) (.tuple #[hv (nameL 5 ++ nameL 6 ++ nameL 7), .int .i64 0]) :=
  .of_rs fun X hX => rinitial_false (L1 := lA0 ++ [tI l]) (L2 := lA0 ++ [tI l, dt 4 bCli]) hX (by simp [lA0]) o l.length cp hl 4 5 _ (by simp [nameL_len])
    (fun X hX => hX.der (cn rfl) (by simp [lA0]) 0 (by simp [lA0]) bInit o cp l (hS.bel hX.bel) (ni rfl))
    (fun X hX => by have := hX.der (cn rfl) (by simp [lA0]) 4 (by simp [lA0]) bCli none 0 [] (nil_sl _) (ni rfl); exact this)
    (fun X hX => by have := rmk_c hX (cn rfl) (by simp [lA0]) 5 (by simp [lA0]) (ni rfl) (ni rfl); exact this)
theorem pN0 : Pc W0 V R 11 #[.pointer (some ⟨V, 0, none⟩), hv (nameL 5 ++ nameL 6 ++ nameL 7)] (lB0 l) L (lA1 l) L (.tuple #[hv (nameL 8 ++ nameL 9 ++ nameL 7), .int .i64 0]) :=
  .of_ag fun X hX => next_c (L1 := lB0 l ++ [dt 5 bNext]) hX 5 8 (nameL 6) (nameL 7) (nameL 8) (nameL 9) (nameL 10) (nameL_len _) (nameL_len _) (nameL_len _) (nameL_len _) (nameL_len _)
    (fun X hX => by have := hX.der (by simp [lA0, lB0]) 5 (by simp [lA0, lB0]) bNext (by decide) (by decide) none 0 [] (nil_sl _) (ni rfl); exact this)
    (fun X hX => by have := make_c hX (by simp [lA0, lB0]) 8 (by simp [lA0, lB0]) (ni rfl) (ni rfl); exact this)
theorem rN0 : Pc W0 V R 12 #[.pointer (some ⟨R, 0, none⟩), hv (nameL 5 ++ nameL 6 ++ nameL 7)] L0 (lB0 l) L0 (lA1 l) (.tuple #[hv (nameL 8 ++ nameL 9 ++ nameL 7), .int .i64 0]) :=
  .of_rs fun X hX => rnext_c (L1 := lB0 l ++ [dt 5 bNext]) hX 5 8 (nameL 6) (nameL 7) (nameL 8) (nameL 9) (nameL 10) (nameL_len _) (nameL_len _) (nameL_len _) (nameL_len _) (nameL_len _)
    (fun X hX => by have := hX.der (cn rfl) (by simp [lA0, lB0]) 5 (by simp [lA0, lB0]) bNext none 0 [] (nil_sl _) (ni rfl); exact this)
    (fun X hX => by have := rmk_c hX (cn rfl) (by simp [lA0, lB0]) 8 (by simp [lA0, lB0]) (ni rfl) (ni rfl); exact this)
theorem pI1 (hS : Sl W0 o l) (hl : l.length ≤ 20) : Pc W0 V R 8 #[.pointer (some ⟨V, 0, none⟩), .slice o l.length cp, .bool true] (lA1 l) L (lB1 l) L (.tuple #[hv (nameL 11 ++ nameL 12 ++ nameL 13), .int .i64 0]) :=
  .of_ag fun X hX => initial_true (L1 := lA1 l) (L2 := lA1 l ++ [dt 4 bSer]) hX (by simp [lA1, lB0, lA0]) o l.length cp hl 4 11 _ (by simp [nameL_len])
    (fun X hX => hX.der_old (by simp [lA1, lB0, lA0]) 0 (by simp [lA1, lB0, lA0]) bInit (by decide) (by decide) o cp l (hS.bel hX.bel) 4 (one_tI l))
    (fun X hX => by have := hX.der (by simp [lA1, lB0, lA0]) 4 (by simp [lA1, lB0, lA0]) bSer (by decide) (by decide) none 0 [] (nil_sl _) (ni rfl); exact this)
    (fun X hX => by have := make_c hX (by simp [lA1, lB0, lA0]) 11 (by simp [lA1, lB0, lA0]) (ni rfl) (ni rfl); exact this)
theorem rI1 (hS : Sl W0 o l) (hl : l.length ≤ 20) : Pc W0 V R 9 #[.pointer (some ⟨R, 0, none⟩), .slice o l.length cp, .bool true] L0 (lA1 l) L0 (lB1 l) (.tuple #[hv (nameL 11 ++ nameL 12 ++ nameL 13), .int .i64 0]) :=
  .of_rs fun X hX => rinitial_true (L1 := lA1 l) (L2 := lA1 l ++ [dt 4 bSer]) hX (by simp [lA1, lB0, lA0]) o l.length cp hl 4 11 _ (by simp [nameL_len])
    (fun X hX => hX.der_old (cn rfl) (by simp [lA1, lB0, lA0]) 0 (by simp [lA1, lB0, lA0]) bInit o cp l (hS.bel hX.bel) 4 (one_tI l))
    (fun X hX => by have := hX.der (cn rfl) (by simp [lA1, lB0, lA0]) 4 (by simp [lA1, lB0, lA0]) bSer none 0 [] (nil_sl _) (ni rfl); exact this)
    (fun X hX => by have := rmk_c hX (cn rfl) (by simp [lA1, lB0, lA0]) 11 (by simp [lA1, lB0, lA0]) (ni rfl) (ni rfl); exact this)
theorem pN1 : Pc W0 V R 11 #[.pointer (some ⟨V, 0, none⟩), hv (nameL 11 ++ nameL 12 ++ nameL 13)] (lB1 l) L (lA2 l) L (.tuple #[hv (nameL 14 ++ nameL 15 ++ nameL 13), .int .i64 0]) :=
  .of_ag fun X hX => next_c (L1 := lB1 l ++ [dt 11 bNext]) hX 11 14 (nameL 12) (nameL 13) (nameL 14) (nameL 15) (nameL 16) (nameL_len _) (nameL_len _) (nameL_len _) (nameL_len _) (nameL_len _)
    (fun X hX => by have := hX.der (by simp [lA0, lB0, lA1, lB1]) 11 (by simp [lA0, lB0, lA1, lB1]) bNext (by decide) (by decide) none 0 [] (nil_sl _) (ni rfl); exact this)
    (fun X hX => by have := make_c hX (by simp [lA0, lB0, lA1, lB1]) 14 (by simp [lA0, lB0, lA1, lB1]) (ni rfl) (ni rfl); exact this)
theorem rN1 : Pc W0 V R 12 #[.pointer (some ⟨R, 0, none⟩), hv (nameL 11 ++ nameL 12 ++ nameL 13)] L0 (lB1 l) L0 (lA2 l) (.tuple #[hv (nameL 14 ++ nameL 15 ++ nameL 13), .int .i64 0]) :=
  .of_rs fun X hX => rnext_c (L1 := lB1 l ++ [dt 11 bNext]) hX 11 14 (nameL 12) (nameL 13) (nameL 14) (nameL 15) (nameL 16) (nameL_len _) (nameL_len _) (nameL_len _) (nameL_len _) (nameL_len _)
    (fun X hX => by have := hX.der (cn rfl) (by simp [lA0, lB0, lA1, lB1]) 11 (by simp [lA0, lB0, lA1, lB1]) bNext none 0 [] (nil_sl _) (ni rfl); exact this)
    (fun X hX => by have := rmk_c hX (cn rfl) (by simp [lA0, lB0, lA1, lB1]) 14 (by simp [lA0, lB0, lA1, lB1]) (ni rfl) (ni rfl); exact this)
end
end Go.Proofs.Ytdklkofnekacdaa
namespace Go.Proofs.Ytdklkofnekacdaa
open Go.RowKit Go.Shelf Go.Lib
set_option linter.unusedVariables false

/-- Keys: three handles. -/
def K3 (K : List UInt8) : Prop := ∃ A B C : List UInt8, A.length = 16 ∧ B.length = 16 ∧ C.length = 16 ∧ K = A ++ B ++ C
theorem K3.len {K : List UInt8} (h : K3 K) : K.length = 48 := by
  obtain ⟨A, B, C, hA, hB, hC, rfl⟩ := h
  simp [hA, hB, hC]
theorem K3.keys {K : List UInt8} (h : K3 K) (w : World) : Calls Try.prog 10 #[hv K] w fun e w' => e = .returned (hv K) ∧ Below w.heap.size w w' := by
  obtain ⟨A, B, C, hA, hB, hC, rfl⟩ := h
  exact lkeys_c w A B C hA hB hC
theorem K3.neq {K : List UInt8} (h : K3 K) (w : World) : (binOp .neq 38 (.agg (hl K).toArray) (.agg (hl K).toArray)).run Try.prog w = .ok (.bool false) w := by
  obtain ⟨A, B, C, hA, hB, hC, rfl⟩ := h
  exact neq38 A B C hA hB hC w
theorem K3.eql {K : List UInt8} (h : K3 K) (w : World) : (binOp .eql 38 (.agg (hl K).toArray) (.agg (hl K).toArray)).run Try.prog w = .ok (.bool true) w := by
  obtain ⟨A, B, C, hA, hB, hC, rfl⟩ := h
  exact eql38 A B C hA hB hC w
theorem K3.mk {A B C : List UInt8} (hA : A.length = 16) (hB : B.length = 16) (hC : C.length = 16) : K3 (A ++ B ++ C) := ⟨A, B, C, hA, hB, hC, rfl⟩
theorem K3.z : K3 z48 := ⟨z16, z16, z16, rfl, rfl, rfl, rfl⟩
structure Cs (W0 : World) (V R : Nat) (o : Option Addr) (n cp : Nat) (o2 : Option Addr) (n2 c2 : Nat) (s : List UInt8) (LA LB : Nat → List Tm) (LC LD : List Tm) (KI KN : Nat → List UInt8) (KM T : List UInt8) (eI eN eM eT : Int) : Prop where
  hI : ∀ j, j < 2 → Pc W0 V R 8 #[.pointer (some ⟨V, 0, none⟩), .slice o n cp, .bool (decide (j = 1))] (LA j) (LA j) (LB j) (LA j) (.tuple #[hv (KI j), .int .i64 eI])
  hJ : ∀ j, j < 2 → Pc W0 V R 9 #[.pointer (some ⟨R, 0, none⟩), .slice o n cp, .bool (decide (j = 1))] (LB j) (LA j) (LB j) (LB j) (.tuple #[hv (KI j), .int .i64 eI])
  hN : ∀ j, j < 2 → Pc W0 V R 11 #[.pointer (some ⟨V, 0, none⟩), hv (KI j)] (LB j) (LB j) (LA (j + 1)) (LB j) (.tuple #[hv (KN j), .int .i64 eN])
  hM : ∀ j, j < 2 → Pc W0 V R 12 #[.pointer (some ⟨R, 0, none⟩), hv (KI j)] (LA (j + 1)) (LB j) (LA (j + 1)) (LA (j + 1)) (.tuple #[hv (KN j), .int .i64 eN])
  kI : ∀ j, j < 2 → K3 (KI j)
  kN : ∀ j, j < 2 → K3 (KN j)
  mP : Pc W0 V R 13 #[.pointer (some ⟨V, 0, none⟩), hv s] (LA 2) (LA 2) LC (LA 2) (.tuple #[hv KM, .int .i64 eM])
  mR : Pc W0 V R 14 #[.pointer (some ⟨R, 0, none⟩), hv s] LC (LA 2) LC LC (.tuple #[hv KM, .int .i64 eM])
  kM : K3 KM
  tP : Pc W0 V R 15 #[.pointer (some ⟨V, 0, none⟩), .slice o n cp, .slice o2 n2 c2] LC LC LD LC (.tuple #[hv T, .int .i64 eT])
  tR : Pc W0 V R 16 #[.pointer (some ⟨R, 0, none⟩), .slice o n cp, .slice o2 n2 c2] LD LC LD LD (.tuple #[hv T, .int .i64 eT])
  kT : T.length = 16
/-- The handle that is no name. -/
def s1 : List UInt8 := [1, 0, 0, 0, 0, 0, 0, 0, 0, 0, 0, 0, 0, 0, 0, 0]
theorem s1_no : ∀ k, k < 40 → s1 ≠ nameL k := by
  have h : ((List.range 40).all fun k => !(s1 == nameL k)) = true := by decide +kernel
  intro k hk e
  have := List.all_eq_true.1 h k (List.mem_range.2 hk)
  rw [← e] at this
  simp at this
theorem z16_no (k : Nat) (hk : k < 40) : z16 ≠ nameL k := fun e => name_ne_zero k (by omega) e.symm
theorem bd29 (X : World) : (Instr.build 29 #[(0, .int .u8 1)]).run Try.prog X = .ok (hv s1) X := run_build X 29 _ _ (by kernel_rfl)
section
variable {ops : Array Oper} {rest : List Oper} {o : Oper} {a : Act} {w : World} {Q : Exit → Act → World → Prop}
theorem wb29 (hg : o.guard = none) (x : Operand) (ho : o.op = .build 29 #[(0, x)]) (hx : a.eval x = .int .u8 1) (D : List UInt8) (hD : ∀ X, (Instr.build 29 #[(0, .int .u8 1)]).run Try.prog X = .ok (hv D) X)
    (h : wpList Try.prog ops Q rest (a.put o.dst (hv D)) w) : wpList Try.prog ops Q (o :: rest) a w :=
  wpList_plain hg fun K hK => by
    unfold Oper.wp execOp
    simp only [ho, List.map_toArray, List.map_cons, List.map_nil, hx, Sem.run_bind, hD, Result.andThen_ok, Sem.run_pure]
    exact hK _ _ h
end
theorem boxT {w : World} {g t : Nat} {K : List UInt8} (h : w.heap[g]? = some (.cells (hl K).toArray t (0, 0))) : w.rangeAt g 0 (hl K) := by
  intro j v hv
  unfold World.cell?
  simp only [h, Nat.zero_add]
  simpa using hv
theorem nboxT (w : World) (t : Nat) (G H : List UInt8) : ((w.alloc (.cells (hl G).toArray t)).setRow w.heap.size (hl H).toArray).heap[w.heap.size]? = some (.cells (hl H).toArray t (0, 0)) ∧ Below w.heap.size w ((w.alloc (.cells (hl G).toArray t)).setRow w.heap.size (hl H).toArray) :=
  ⟨setRow_heap _ _ _ _ t (0, 0) (heap_alloc_new w _), bel_set (bel1 w _) (Nat.le_refl _) _⟩
theorem setT {w : World} {b b' t t' : Nat} {cs cs' : Array Value} (h : w.heap[b]? = some (.cells cs t (0, 0))) (h' : w.heap[b']? = some (.cells cs' t' (0, 0))) (ht : t ≠ t') (ds : Array Value) : (w.setRow b' ds).heap[b]? = some (.cells cs t (0, 0)) := by
  refine (setRow_other _ _ _ _ ?_).trans h
  rintro rfl
  rw [h'] at h
  injection h with h
  injection h with _ h _
  exact ht h.symm
theorem hm38 : Try.prog.eqGuardType Try.prog.depth 38 = false := by kernel_rfl
theorem hm29' : Try.prog.eqGuardType Try.prog.depth 29 = false := by kernel_rfl
/-- A comparison of arrays yields in every world. -/
theorem yl_bin' {ops : Array Oper} {S : World → Prop} {op : Oper} {a : Act} (hw : Region.wanted op (yielded ops a.tmps) = true) (bop : BinOp) (t ty : TypeId) (x y : Operand) (ho : op.op = .binOp bop t x y ty) (A B : Array Value) (hx : a.eval x = .agg A) (hy : a.eval y = .agg B)
    (hm : Try.prog.eqGuardType Try.prog.depth t = false) (v : Value) (hb : ∀ w, (binOp bop t (.agg A) (.agg B)).run Try.prog w = .ok v w) : YieldsIf Try.prog ops S op v a :=
  .inl ⟨hw, fun w _ => by
    unfold execOp
    simp only [ho, hx, hy, Sem.run_bind, run_eqGuard_agg _ _ _ _ _ _ _ hm, Result.andThen_ok, hb, Sem.run_pure]⟩
section
variable {W0 w w' : World} {V R : Nat} {L0 L : List Tm}
theorem Rs.boxed (h : Rs W0 w V L0 R L) {B t : Nat} {cs : Array Value} (hB : w.heap[B]? = some (.cells cs t (0, 0))) (ht : t ≤ 40) (hge : W0.heap.size ≤ B) (ds : Array Value) : Rs W0 (w.setRow B ds) V L0 R L := by
  obtain ⟨g, c, hv⟩ := h.rv
  refine ⟨h.ag.setAny hB (by omega) (by omega) hge ds, g, c, hv.keep fun b cs' t' hb ht' => (setRow_other _ _ _ _ ?_).trans hb⟩
  rintro rfl
  rw [hB] at hb
  injection hb with hb
  injection hb with _ hb _
  subst hb
  rcases ht' with h | h <;> omega
end
end Go.Proofs.Ytdklkofnekacdaa
