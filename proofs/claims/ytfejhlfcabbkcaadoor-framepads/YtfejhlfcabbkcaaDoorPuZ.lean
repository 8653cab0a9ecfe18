/- What the putter's padding answers: contracts. -/
import Derived.Test.YtfejhlfcabbkcaaDoorPuP
namespace Go.Proofs.YtfejhlfcabbkcaaDoor
open Go.ChangeShapes Go.WideShapes Go.ChangeAt Go.RowKit
set_option linter.unusedVariables false

theorem run_append_zeros0 {P : Program} (w : World) (base : Nat) (ty : TypeId) (i : TypeInfo) (ht : P.underlying 27 = some (.slice 5)) (ht3 : P.underlying 3 = some (.int .i64)) (hi : P.info? 5 = some i) (hz : i.zero = some (.int .u8 0)) (hsize : i.size = 1) (hby : i.bytes = 1)
    (v : Value) (n : Nat) (xs : List Value) (hown : w.ownsRow base 5 1 v n xs) (hne : v ≠ .slice none 0 0) :
    (Builtin.append_ #[27, 3] ty #[v, .int .i64 0]).run P w = .ok v w := by
  rcases hown.2 with ⟨rfl, rfl⟩ | ⟨g, cap, cur, rfl, hbg, hg, hnc, hcm, hcs, htake⟩
  · exact absurd rfl hne
  · have hwr : IntKind.i64.wrap 0 = 0 := by decide
    simp [Builtin.append_, run_underlying ht, run_underlying ht3, sizeOf, typeInfo, zeroValue, hi, hz, hsize, hby, asInt, asIntOf, hwr, hnc]
    rfl
theorem bc_zeros (m : Nat) : List.replicate m (Value.int .u8 0) = bc (List.replicate m 0) := by simp [bc, List.map_replicate]

/-- 'append(v, make([]byte, m)...)' onto a row of the call's own, as one step of a region that draws its order. -/
theorem step_append_zeros {P : Program} {w : World} {ops : Array Oper} {o : Oper} {a : Act} {K : Act → World → Prop} {Q : Exit → Act → World → Prop} {E : Prop} (hgd : o.guard = none) (s x : Operand)
    (ho : o.op = .call { callee := .builtin .append, args := #[s, x], argTypes := #[27, 3] })
    (base : Nat) (i : TypeInfo) (ht : P.underlying 27 = some (.slice 5)) (ht3 : P.underlying 3 = some (.int .i64)) (hi : P.info? 5 = some i) (hz : i.zero = some (.int .u8 0)) (hsize : i.size = 1) (hby : i.bytes = 1)
    (v : Value) (n : Nat) (xs : List Value) (hs : a.eval s = v) (hown : w.ownsRow base 5 1 v n xs) (hne : v ≠ .slice none 0 0) (m : Nat) (hx : a.eval x = .int .i64 (m : Int)) (hb : n + m ≤ 140737488355328) (hbase : base ≤ w.heap.size)
    (h : ∀ v' w', w'.ownsRow base 5 1 v' (n + (List.replicate m (0 : UInt8)).length) (xs ++ bc (List.replicate m 0)) → w.grownBy w' v.ownBlock → K (a.put o.dst v') w') : if Region.wanted o (yielded ops a.tmps) = true then Oper.wp P o a w K Q else E := by
  have hw : Region.wanted o (yielded ops a.tmps) = true := by simp [Region.wanted, hgd]
  rw [if_pos hw]
  by_cases h0 : m = 0
  · subst h0
    have hr := run_append_zeros0 (P := P) w base o.type i ht ht3 hi hz hsize hby v n xs hown hne
    unfold Oper.wp execOp
    simp only [ho, resolve, invoke, builtin, Sem.run_bind, Sem.run_pure, Result.andThen_ok, List.map_toArray, List.map_cons, List.map_nil, hs, hx, Int.natCast_zero, hr]
    exact h v w (by simpa [bc] using hown) ⟨rfl, rfl, rfl, Nat.le_refl _, fun _ _ _ => rfl⟩
  · obtain ⟨v', w', hr, h2, h3⟩ := run_append_zeros (P := P) w base o.type i ht ht3 hi hz hsize hby v n xs hown hne m h0 (by omega) hb hbase
    unfold Oper.wp execOp
    simp only [ho, resolve, invoke, builtin, Sem.run_bind, Sem.run_pure, Result.andThen_ok, List.map_toArray, List.map_cons, List.map_nil, hs, hx, hr]
    refine h v' w' ?_ h3
    rw [List.length_replicate, ← bc_zeros]
    exact h2

set_option maxRecDepth 10000 in
theorem ppadding_no (p B : Nat) (v : Value) (X : List UInt8) (r : Bool) (a : Addr) (n : Int) (w : World) (h : Pu w p B v X r) (ha : w.cell? a = some (.int .i64 n)) (hn : 1048576 < n) :
    Calls Tryd.prog 66 #[.pointer (some ⟨p, 0, none⟩), .pointer (some a)] w fun e w' => e = .returned (.tuple #[]) ∧ (∃ v', Pu w' p B v' X true) ∧ Gr p B w w' := by
  have HP := mkHid h
  have c1 := h.c1
  have f1 := h.fr 1
  clear h
  go_enter Tryd.func66, Tryd.ntmps66
  go_wp2
  refine bodyPost_ret (results_none rfl _ _ _) rfl ?_
  exact ⟨rfl, ⟨_, HP.out.set1 true⟩, Gr.set p B 1 w _⟩

set_option maxRecDepth 10000 in
theorem ppadding_yes (p B : Nat) (v : Value) (X : List UInt8) (r : Bool) (a : Addr) (m : Nat) (w : World) (h : Pu w p B v X r) (hB : B ≤ w.heap.size) (hX0 : 0 < X.length) (hX : X.length ≤ 17592186044416) (ha : w.cell? a = some (.int .i64 (m + 1 : Int))) (hn : m < 1048576) :
    Calls Tryd.prog 66 #[.pointer (some ⟨p, 0, none⟩), .pointer (some a)] w fun e w' => e = .returned (.tuple #[]) ∧ (∃ v', Pu w' p B v' (X ++ List.replicate m 0) r) ∧ Gr p B w w' := by
  obtain ⟨i0, hi, hz0, hz1, hz2⟩ := info_parts info5
  have HP := mkHid h
  obtain ⟨o, c, rfl⟩ := own_val h.own
  have HNE : Hid (Value.slice o X.length c ≠ .slice none 0 0) := by intro e; injection e with e1 e2 e3; omega
  have c0 := h.c0
  have hd : decide ((1048576 : Int) < (m : Int) + 1) = false := decide_eq_false (by omega)
  have hsub : (m : Int) + 1 - 1 = m := by omega
  have hwm : IntKind.i64.wrap (m : Int) = m := by rw [IntKind.wrap_i64]; omega
  obtain ⟨Z, hZ⟩ : ∃ Z, List.replicate m (0 : UInt8) = Z := ⟨_, rfl⟩
  rw [hZ]
  have HZ := mkHid hZ
  clear h hZ
  go_enter Tryd.func66, Tryd.ntmps66
  go_wp2
  go_region_law ((refine step_append_zeros rfl (.tmp 15) (.tmp 19) rfl B i0 Tryd.underlying27 Tryd.underlying3 hi hz0 hz1 hz2 (.slice o X.length c) X.length (bc X) rfl HP.out.drew.own HNE.out m rfl (by omega) hB ?_; rw [HZ.out]; intro v' w2 hown hgrow; obtain ⟨o', cc', rfl, m0, mf, HQ⟩ := pu_after ((Gr.refl p B w).drew) HP.out.drew hown hgrow; clear hown hgrow))
  all_goals
    go_wp2
    go_end0
    exact ⟨rfl, ⟨_, HQ.out.1⟩, HQ.out.2⟩
end Go.Proofs.YtfejhlfcabbkcaaDoor
