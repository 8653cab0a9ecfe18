/- caravellaw04.one of frames that hold the same: true. -/
import Derived.Test.YtaeapgkfmofjlaaDoorMd
import Derived.Deep.MidRow
namespace Go.Proofs.YtaeapgkfmofjlaaDoor
open Go.ChangeShapes Go.WideShapes Go.ChangeAt Go.RowKit
set_option linter.unusedVariables false
set_option maxRecDepth 100000

theorem eq_loop {P : Program} {w : World} (f : Nat → Bool) (body : Nat → Option Bool × Unit → Sem (ForInStep (Option Bool × Unit))) (N : Nat)
    (hb : ∀ i s, i < N → (body i s).run P w = .ok (if f i then .yield (none, ()) else .done (some false, ())) w) :
    ∀ L : List Nat, (∀ i ∈ L, i < N) → (forIn L (none, ()) body).run P w = .ok (if L.all f then (none, ()) else (some false, ())) w := by
  intro L
  induction L with
  | nil => intro _; simp [go_sem]
  | cons i t ih =>
    intro h
    rw [List.forIn_cons, Sem.run_bind, hb i _ (h i (by simp))]
    by_cases e : f i = true
    · simp only [e, if_true, Result.andThen_ok, List.all_cons, Bool.true_and]
      exact ih fun j hj => h j (by simp [hj])
    · simp only [e, Bool.false_eq_true, if_false, Result.andThen_ok, List.all_cons, Bool.false_and]
      rfl
theorem bc_get {X : List UInt8} {i : Nat} (h : i < X.length) : (bc X)[i]? = some (.int .u8 (X[i].toNat : Int)) := by simp [bc, h]
theorem hu25 : Tryd.prog.underlying 25 = some (.array 16 5) := by kernel_rfl
theorem hu26 : Tryd.prog.underlying 26 = some (.array 8 5) := by kernel_rfl
theorem hu24 : Tryd.prog.underlying 24 = some (.array 3 3) := by kernel_rfl
theorem hi25 : (Tryd.prog.info? 25).map (·.size) = some 16 := by kernel_rfl
theorem hi26 : (Tryd.prog.info? 26).map (·.size) = some 8 := by kernel_rfl
theorem hi24 : (Tryd.prog.info? 24).map (·.size) = some 3 := by kernel_rfl
theorem eqb_self (t N : Nat) (ht : Tryd.prog.underlying t = some (.array N 5)) (d : Nat) (X : List UInt8) (hX : X.length = N) (w : World) : (Op.equalIn (d + 2) t (.agg (bc X).toArray) (.agg (bc X).toArray)).run Tryd.prog w = .ok true w := by
  unfold Op.equalIn
  simp only [Sem.run_bind, run_underlying ht, Result.andThen_ok]
  go_simp
  rw [eq_loop (fun _ => true) _ N ?hb (List.range' 0 N) (by simp [List.mem_range'])]
  · simp [go_sem]
  · intro i s hi
    have a5 := Tryd.isAgg5
    rw [bc_get (by omega)]
    simp only [Sem.run_bind, a5, Result.andThen_ok, Bool.false_eq_true, if_false, go_sem]
    simp [go_sem]
theorem eql25 (X : List UInt8) (hX : X.length = 16) (w : World) : (binOp .eql 25 (.agg (bc X).toArray) (.agg (bc X).toArray)).run Tryd.prog w = .ok (.bool true) w := by
  have := eqb_self 25 16 hu25 9998 X hX w
  rw [run_eql_struct, show (10000 : Nat) = 9998 + 2 from rfl, this]
  rfl
theorem eql26 (X : List UInt8) (hX : X.length = 8) (w : World) : (binOp .eql 26 (.agg (bc X).toArray) (.agg (bc X).toArray)).run Tryd.prog w = .ok (.bool true) w := by
  have := eqb_self 26 8 hu26 9998 X hX w
  rw [run_eql_struct, show (10000 : Nat) = 9998 + 2 from rfl, this]
  rfl
theorem eql24 (a b c : Int) (w : World) : (binOp .eql 24 (.agg #[.int .i64 a, .int .i64 b, .int .i64 c]) (.agg #[.int .i64 a, .int .i64 b, .int .i64 c])).run Tryd.prog w = .ok (.bool true) w := by
  rw [run_eql_struct, show (10000 : Nat) = 9998 + 2 from rfl]
  unfold Op.equalIn
  simp only [Sem.run_bind, run_underlying hu24, Result.andThen_ok]
  go_simp
  have a3 := Tryd.isAgg3
  rw [eq_loop (fun _ => true) _ 3 ?hb (List.range' 0 3) (by simp [List.mem_range'])]
  · simp [go_sem]
  · intro i s hi
    rcases i with _ | _ | _ | i
    · simp [a3, go_sem]
    · simp [a3, go_sem]
    · simp [a3, go_sem]
    · omega
theorem neq47 (f l : Int) (w : World) : (binOp .neq 47 (.agg #[.int .i64 f, .int .i64 l]) (.agg #[.int .i64 f, .int .i64 l])).run Tryd.prog w = .ok (.bool false) w := by
  have u3 := Tryd.underlying3
  have a3 := Tryd.isAgg3
  have z3 := Tryd.sizeOf3
  have hS : Tryd.prog.underlying 47 = some (.struct (Tryd.prog.fieldsOf 47)) := by kernel_rfl
  have hp : Tryd.prog.stoodInHeld 47 = false := by kernel_rfl
  rw [run_neq_struct, show (10000 : Nat) = 9999 + 1 from rfl, run_equalIn_struct w 9999 47 _ _ hS hp]
  simp only [Program.fieldsOf, Tryd.underlying47]
  go_simp
theorem wpList_load_mid_g {P : Program} {ops : Array Oper} {rest : List Oper} {o : Oper} {a : Act} {w : World} {Q : Exit → Act → World → Prop} (hw : Region.wanted o (yielded ops a.tmps) = true) (ty : TypeId) (x : Operand) (ho : o.op = .load ty x)
    (b q : Nat) (hx : a.eval x = .pointer (some ⟨b, q, none⟩)) (cs : List Value) (d : TypeDesc) (hc : w.rangeAt b q cs)
    (hu : P.underlying ty = some d) (hd : d.isRow = true) (hi : (P.info? ty).map (·.size) = some cs.length)
    (h : wpList P ops Q rest (a.put o.dst (.agg cs.toArray)) w) : wpList P ops Q (o :: rest) a w :=
  BigFrame.wpList_want hw fun _ hK => wp_load_mid ty x ho b q hx cs d hc hu hd hi (hK _ _ h)
/-- What one looks at of a frame in a box. -/
structure Bx (w : World) (F : Nat) (f : Fr) (d : Da) : Prop where
  c0 : w.cell? ⟨F, 0, none⟩ = some (.int .i64 f.k)
  c1 : w.cell? ⟨F, 1, none⟩ = some (.int .i64 f.s)
  c2 : w.cell? ⟨F, 2, none⟩ = some (.int .i64 f.o)
  c3 : w.cell? ⟨F, 3, none⟩ = some (.slice d.oD d.D.length d.cD)
  c4 : w.cell? ⟨F, 4, none⟩ = some (.bool f.fin)
  c5 : w.cell? ⟨F, 5, none⟩ = some (.bool f.len)
  c6 : w.cell? ⟨F, 6, none⟩ = some (.int .i64 f.lim)
  c7 : w.cell? ⟨F, 7, none⟩ = some (.int .i64 f.code)
  c8 : w.cell? ⟨F, 8, none⟩ = some (.int .i64 f.of)
  c9 : w.cell? ⟨F, 9, none⟩ = some (.slice d.oA d.A.length d.cA)
  c10 : w.cell? ⟨F, 10, none⟩ = some (.int .i64 f.del)
  c11 : w.rangeAt F 11 [.int .i64 f.e0, .int .i64 f.e1, .int .i64 f.e2]
  c14 : w.cell? ⟨F, 14, none⟩ = some (.int .i64 f.seq)
  c15 : w.cell? ⟨F, 15, none⟩ = some (.int .i64 f.ret)
  c16 : w.cell? ⟨F, 16, none⟩ = some (.slice d.oI d.I.length d.cI)
  c17 : w.rangeAt F 17 (bc d.R)
  c33 : w.rangeAt F 33 (bc d.T)
  c41 : w.cell? ⟨F, 41, none⟩ = some (.int .i64 f.cnt)
theorem Fm.bx {w : World} {F : Nat} {f : Fr} {d : Da} (h : Fm w F f) (ho : On f d) : Bx w F f d := by
  have hR : ∀ (k : Nat) (L1 L2 : List Value) (Z : List Value), f.cells = L1 ++ (Z ++ L2) → L1.length = k → w.rangeAt F k Z := by
    intro k L1 L2 Z he hk j v hj
    refine h.at (k + j) _ ?_
    have hlt := (List.getElem?_eq_some_iff.1 hj).1
    rw [he, List.getElem?_append_right (by omega), List.getElem?_append_left (by omega), hk, Nat.add_sub_cancel_left]
    exact hj
  refine ⟨h.at 0 _ rfl, h.at 1 _ rfl, h.at 2 _ rfl, (h.at 3 _ rfl).trans (by rw [ho.vD]), h.at 4 _ rfl, h.at 5 _ rfl, h.at 6 _ rfl, h.at 7 _ rfl, h.at 8 _ rfl, (h.at 9 _ rfl).trans (by rw [ho.vA]), h.at 10 _ rfl, ?_, h.at 14 _ rfl, h.at 15 _ rfl, (h.at 16 _ rfl).trans (by rw [ho.vI]), ?_, ?_, h.at 41 _ ho.c41⟩
  · exact hR 11 [.int .i64 f.k, .int .i64 f.s, .int .i64 f.o, f.D, .bool f.fin, .bool f.len, .int .i64 f.lim, .int .i64 f.code, .int .i64 f.of, f.A, .int .i64 f.del] ([.int .i64 f.seq, .int .i64 f.ret, f.I] ++ (f.rs ++ (f.pt ++ [.int .i64 f.cnt]))) _ rfl rfl
  · rw [← ho.vR]
    exact hR 17 [.int .i64 f.k, .int .i64 f.s, .int .i64 f.o, f.D, .bool f.fin, .bool f.len, .int .i64 f.lim, .int .i64 f.code, .int .i64 f.of, f.A, .int .i64 f.del, .int .i64 f.e0, .int .i64 f.e1, .int .i64 f.e2, .int .i64 f.seq, .int .i64 f.ret, f.I] (f.pt ++ [.int .i64 f.cnt]) _ rfl rfl
  · rw [← ho.vT]
    refine hR 33 ([.int .i64 f.k, .int .i64 f.s, .int .i64 f.o, f.D, .bool f.fin, .bool f.len, .int .i64 f.lim, .int .i64 f.code, .int .i64 f.of, f.A, .int .i64 f.del, .int .i64 f.e0, .int .i64 f.e1, .int .i64 f.e2, .int .i64 f.seq, .int .i64 f.ret, f.I] ++ f.rs) [.int .i64 f.cnt] _ (by simp [Fr.cells]) ?_
    rw [ho.vR, List.length_append, bc_length, ho.r16]
    rfl
end Go.Proofs.YtaeapgkfmofjlaaDoor
