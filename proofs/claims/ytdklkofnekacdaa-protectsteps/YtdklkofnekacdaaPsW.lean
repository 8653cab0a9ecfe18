/- ProtectSteps, the walk. -/
import Derived.Test.YtdklkofnekacdaaPu
namespace Go.Proofs.Ytdklkofnekacdaa
open Go.RowKit Go.Shelf Go.Lib
set_option linter.unusedVariables false

theorem step_append_g {P : Program} {ops : Array Oper} {o : Oper} {a : Act} {w : World} {K : Act → World → Prop} {Q : Exit → Act → World → Prop} {E : Prop}
    (hw : Region.wanted o (yielded ops a.tmps) = true) (d x : Operand) (dT sT : TypeId) (hop : o.op = Op.call { callee := Callee.builtin Builtin.append, args := #[d, x], argTypes := #[dT, sT] })
    (v u : Value) (hd : a.eval d = v) (hx : a.eval x = u) {v' : Value} {w' : World} (hr : (Builtin.append_ #[dT, sT] o.type #[v, u]).run P w = .ok v' w') (hK : K (a.put o.dst v') w') :
    if Region.wanted o (yielded ops a.tmps) = true then Oper.wp P o a w K Q else E := by
  rw [if_pos hw]
  unfold Oper.wp
  simp [execOp, hop, resolve, invoke, builtin, hd, hx, hr, Result.andThen]
  exact hK
theorem wpList_append_run' {P : Program} {ops : Array Oper} {rest : List Oper} {o : Oper} {a : Act} {w : World} {Q : Exit → Act → World → Prop}
    (hg : o.guard = none) (d x : Operand) (dT sT : TypeId) (hop : o.op = Op.call { callee := Callee.builtin Builtin.append, args := #[d, x], argTypes := #[dT, sT] })
    (v u : Value) (hd : a.eval d = v) (hx : a.eval x = u) {v' : Value} {w' : World} (hr : (Builtin.append_ #[dT, sT] o.type #[v, u]).run P w = .ok v' w') (hK : wpList P ops Q rest (a.put o.dst v') w') :
    wpList P ops Q (o :: rest) a w :=
  wpList_plain hg fun K hK' => (by
    unfold Oper.wp
    simp [execOp, hop, resolve, invoke, builtin, hd, hx, hr, Result.andThen]
    exact hK' _ _ hK)
theorem and_15 (a : Int) : 0 ≤ bits .and .i64 a 15 ∧ bits .and .i64 a 15 ≤ 15 := by
  have h : (BitVec.ofInt 64 a &&& BitVec.ofInt 64 15).toNat ≤ 15 := by
    rw [BitVec.toNat_and]
    exact Nat.and_le_right
  have e : bits .and .i64 a 15 = IntKind.i64.wrap ((BitVec.ofInt 64 a &&& BitVec.ofInt 64 15).toNat : Int) := rfl
  rw [e, IntKind.wrap_i64]
  omega
theorem beF {i j : Nat} (h : i ≠ j) (hi : i < 1000) (hj : j < 1000) (X : World) : (binOp .eql 29 (.agg (hl (nameL i)).toArray) (.agg (hl (nameL j)).toArray)).run Try.prog X = .ok (.bool false) X := by
  have := eql28 (nameL i) (nameL j) (nameL_len _) (nameL_len _) X
  rw [nne h hi hj] at this
  exact this
theorem bnF (i : Nat) (X : World) : (binOp .neq 29 (.agg (hl (nameL i)).toArray) (.agg (hl (nameL i)).toArray)).run Try.prog X = .ok (.bool false) X := by
  have := neq28 (nameL i) (nameL i) (nameL_len _) (nameL_len _) X
  rw [beq_self_eq_true] at this
  exact this
theorem hm29 : Try.prog.eqGuardType Try.prog.depth 29 = false := by kernel_rfl
/-- A comparison of arrays yields in every world. -/
theorem yl_bin {ops : Array Oper} {S : World → Prop} {op : Oper} {a : Act} (hw : Region.wanted op (yielded ops a.tmps) = true) (bop : BinOp) (t ty : TypeId) (x y : Operand) (ho : op.op = .binOp bop t x y ty) (A B : Array Value) (hx : a.eval x = .agg A) (hy : a.eval y = .agg B)
    (hm : Try.prog.eqGuardType Try.prog.depth t = false) (v : Value) (hb : ∀ w, (binOp bop t (.agg A) (.agg B)).run Try.prog w = .ok v w) : YieldsIf Try.prog ops S op v a :=
  .inl ⟨hw, fun w _ => by
    unfold execOp
    simp only [ho, hx, hy, Sem.run_bind, run_eqGuard_agg _ _ _ _ _ _ _ hm, Result.andThen_ok, hb, Sem.run_pure]⟩
/-- A new box of keys. -/
theorem nbox33 (w : World) (H : List UInt8) : ((w.alloc (.cells (hl z48).toArray 33)).setRow w.heap.size (hl H).toArray).heap[w.heap.size]? = some (.cells (hl H).toArray 33 (0, 0)) ∧ Below w.heap.size w ((w.alloc (.cells (hl z48).toArray 33)).setRow w.heap.size (hl H).toArray) :=
  ⟨setRow_heap _ _ _ _ 33 (0, 0) (heap_alloc_new w _), bel_set (bel1 w _) (Nat.le_refl _) _⟩
theorem Pq.step {W0 W9 W10 : World} {V B i g c : Nat} {l : List UInt8} (h : Pq W0 W9 V B i l (some ⟨g, 0, none⟩) c (i + 1)) (hgB : g ≠ B) (hge : W0.heap.size ≤ B) (ha : Ag W0 W10 V (LL l (i + 1))) (hk : Kc W9 W10) : W10.heap[B]? = some (.cells (hl (kk i)).toArray 33 (0, 0)) ∧ Pq W0 (W10.setRow B (hl (kk (i + 1))).toArray) V B (i + 1) l (some ⟨g, 0, none⟩) c (i + 1) := by
  have hb := hk _ _ _ _ h.bx (by decide) (by decide)
  refine ⟨hb, ha.setAny hb (by decide) (by decide) hge _, setRow_heap _ _ _ _ 33 (0, 0) hb, ?_⟩
  obtain ⟨h0, h1 | ⟨g', cap, cur, e, h1, h2, h3⟩⟩ := h.row
  · exact ⟨h0, .inl h1⟩
  · refine ⟨h0, .inr ⟨g', cap, cur, e, h1, (setRow_other _ _ _ _ ?_).trans (hk _ _ _ _ h2 (by decide) (by decide)), h3⟩⟩
    injection e with e _ _
    injection e with e
    injection e with e
    omega
set_option maxRecDepth 100000 in
set_option maxHeartbeats 4000000 in
theorem steps_walk (o : Option Addr) (cp : Nat) (l : List UInt8) (num : Int) (w : World) (hS : Sl w o l) : Calls Try.prog 4 #[.slice o l.length cp, .int .i64 num] w fun e w' => e = .returned (.bool true) ∧ Below w.heap.size w w' := by
  obtain ⟨hn0, hn1⟩ := and_15 num
  obtain ⟨q, hq⟩ : ∃ q : Nat, bits .and .i64 num 15 = (q : Int) := ⟨(bits .and .i64 num 15).toNat, by omega⟩
  have hq15 : q ≤ 15 := by omega
  clear hn0 hn1
  obtain ⟨NL, hNL⟩ : ∃ NL, l.length = NL := ⟨_, rfl⟩
  rw [hNL]
  have HNL : Aside _ := hNL
  have HSL : Aside (Sl w o l) := hS
  clear hNL hS
  go_enter Try.func4, Try.ntmps4
  go_wp2_with fail
  refine (new_c _).mono ?_
  rintro e W1 ⟨V, Gb, c, M, rfl, hv1, hb⟩
  have HA : Aside (Ag w W1 V [rt]) := ⟨hb, Gb, c, M, hv1⟩
  clear hv1 hb
  by_cases hbig : 20 < NL
  · have j1 : (20 : Int) < (NL : Int) := by omega
    have j2 : decide ((20 : Int) < (NL : Int)) = true := by simpa using j1
    go_wp2
    go_ret
    exact ⟨rfl, HA.out.bel⟩
  have j1 : ¬ (20 : Int) < (NL : Int) := by omega
  have j2 : decide ((20 : Int) < (NL : Int)) = false := by simpa using j1
  have HIA : Aside (∀ X, Ag w X V [rt] → Calls Try.prog 8 #[.pointer (some ⟨V, 0, none⟩), .slice o NL cp, .bool false] X fun e w' => e = .returned (.tuple #[hv (nameL 2 ++ nameL 3 ++ nameL 4), .int .i64 0]) ∧ Ag w w' V (La l) ∧ Kc X w') := fun X hX => by
    have := init_a hX o cp HSL.out (by have := HNL.out; omega)
    rw [HNL.out] at this
    exact this
  have HIB : Aside (∀ X, Ag w X V (La l) → Calls Try.prog 8 #[.pointer (some ⟨V, 0, none⟩), .slice o NL cp, .bool true] X fun e w' => e = .returned (.tuple #[hv (nameL 5 ++ nameL 6 ++ nameL 7), .int .i64 0]) ∧ Ag w w' V (Lc l) ∧ Kc X w') := fun X hX => by
    have := init_b hX o cp HSL.out (by have := HNL.out; omega)
    rw [HNL.out] at this
    exact this
  have HFR : Aside (∀ X, Ag w X V (Lc l) → Calls Try.prog 18 #[.pointer (some ⟨V, 0, none⟩)] X fun e w' => e = .returned (hv (nameL 8)) ∧ Ag w w' V (Lc l ++ [fr]) ∧ Kc X w') := fun X hX => hX.newK (by simp)
  have HM8 : Aside (∀ X, Ag w X V (Lc l ++ [fr]) → Calls Try.prog 13 #[.pointer (some ⟨V, 0, none⟩), hv (nameL 8)] X fun e w' => e = .returned (.tuple #[hv (kk 0), .int .i64 0]) ∧ Ag w w' V (LL l 0) ∧ Kc X w') := fun X hX => make_8 hX
  have HRA : Aside (∀ (X : World) (g : Nat), X.heap[g]? = some (.cells (hl (nameL 2 ++ nameL 3 ++ nameL 4)).toArray 33 (0, 0)) → X.rangeAt g 16 (hl (nameL 3)) ∧ X.rangeAt g 32 (hl (nameL 4))) := fun X g hX => by
    have := split48 (nameL_len _) (nameL_len _) (box48 hX)
    simpa using this.2
  have HRB : Aside (∀ (X : World) (g : Nat), X.heap[g]? = some (.cells (hl (nameL 5 ++ nameL 6 ++ nameL 7)).toArray 33 (0, 0)) → X.rangeAt g 16 (hl (nameL 6)) ∧ X.rangeAt g 32 (hl (nameL 7))) := fun X g hX => by
    have := split48 (nameL_len _) (nameL_len _) (box48 hX)
    simpa using this.2
  have e33 := eq33
  have e36 := eqF (show 3 ≠ 6 by omega) (by omega) (by omega)
  have e47 := eqF (show 4 ≠ 7 by omega) (by omega) (by omega)
  have e34 := eqF (show 3 ≠ 4 by omega) (by omega) (by omega)
  have m3 : (Try.prog.info? 29).map (·.size) = some (hl (nameL 3)).length := hi28.trans (by simp [nameL_len])
  have m4 : (Try.prog.info? 29).map (·.size) = some (hl (nameL 4)).length := hi28.trans (by simp [nameL_len])
  have m6 : (Try.prog.info? 29).map (·.size) = some (hl (nameL 6)).length := hi28.trans (by simp [nameL_len])
  have m7 : (Try.prog.info? 29).map (·.size) = some (hl (nameL 7)).length := hi28.trans (by simp [nameL_len])
  have la : (nameL 2 ++ nameL 3 ++ nameL 4).length = 48 := by simp [nameL_len]
  have lb : (nameL 5 ++ nameL 6 ++ nameL 7).length = 48 := by simp [nameL_len]
  have l8 := nameL_len 8
  have lk0 := kk_len 0
  generalize nameL 2 ++ nameL 3 ++ nameL 4 = Ka at *
  generalize nameL 5 ++ nameL 6 ++ nameL 7 = Kb at *
  generalize hl (nameL 3) = Z3 at *
  generalize hl (nameL 4) = Z4 at *
  generalize hl (nameL 6) = Z6 at *
  generalize hl (nameL 7) = Z7 at *
  generalize nameL 8 = N8 at *
  generalize hK0 : kk 0 = K0 at *
  have HK0 : Aside _ := hK0
  clear hK0
  have E33 : Aside _ := e33
  have E36 : Aside _ := e36
  have E47 : Aside _ := e47
  have E34 : Aside _ := e34
  clear e33 e36 e47 e34
  go_wp2_with fail
  refine Calls.mono (HIA.out _ HA.out) ?_
  rintro e W2 ⟨rfl, ha, hkc⟩
  have HA' : Aside (Ag w W2 V (La l)) := ha
  clear HA ha hkc
  have HA : Aside (Ag w W2 V (La l)) := HA'.out
  clear HA'
  go_wp2_with (refine st33 rfl (.tmp 6) (.tmp 28) rfl W2.heap.size Ka rfl rfl z48 (heap_alloc_new W2 _) la rfl (Hid.out ?_))
  rw [hz33]
  have HBn := (nbox33 W2 Ka).2
  have X6' : Aside _ := (nbox33 W2 Ka).1
  have HA' : Aside (Ag w ((W2.alloc (.cells (hl z48).toArray 33)).setRow W2.heap.size (hl Ka).toArray) V (La l)) := HA.out.go HBn
  have g6 : w.heap.size ≤ W2.heap.size := HA.out.bel.size
  clear HA HBn
  generalize (W2.alloc (.cells (hl z48).toArray 33)).setRow W2.heap.size (hl Ka).toArray = W3 at *
  generalize W2.heap.size = B6 at *
  have HA : Aside (Ag w W3 V (La l)) := HA'.out
  have X6 : Aside _ := X6'.out
  clear HA' X6'
  refine mkHid ?_
  go_wp2_with fail
  refine Calls.mono (HIB.out _ HA.out) ?_
  rintro e W4 ⟨rfl, ha, hkc⟩
  have HA' : Aside (Ag w W4 V (Lc l)) := ha
  have X6' : Aside _ := hkc _ _ _ _ X6.out (by decide) (by decide)
  clear HA ha hkc X6
  have HA : Aside (Ag w W4 V (Lc l)) := HA'.out
  have X6 : Aside _ := X6'.out
  clear HA' X6'
  go_wp2_with (refine st33 rfl (.tmp 8) (.tmp 34) rfl W4.heap.size Kb rfl rfl z48 (heap_alloc_new W4 _) lb rfl (Hid.out ?_))
  rw [hz33]
  have HBn := (nbox33 W4 Kb).2
  have X8' : Aside _ := (nbox33 W4 Kb).1
  have HA' : Aside (Ag w ((W4.alloc (.cells (hl z48).toArray 33)).setRow W4.heap.size (hl Kb).toArray) V (Lc l)) := HA.out.go HBn
  have g8 : w.heap.size ≤ W4.heap.size := HA.out.bel.size
  have X6' : Aside _ := heap_bel X6.out HBn
  clear HA HBn X6
  generalize (W4.alloc (.cells (hl z48).toArray 33)).setRow W4.heap.size (hl Kb).toArray = W5 at *
  generalize W4.heap.size = B8 at *
  have HA : Aside (Ag w W5 V (Lc l)) := HA'.out
  have X6 : Aside _ := X6'.out
  have X8 : Aside _ := X8'.out
  clear HA' X6' X8'
  refine mkHid ?_
  have ra := HRA.out _ _ X6.out
  have rb := HRB.out _ _ X8.out
  have R3 : Aside _ := ra.1
  have R4 : Aside _ := ra.2
  have R6 : Aside _ := rb.1
  have R7 : Aside _ := rb.2
  clear ra rb
  have e33 := E33.out
  have e36 := E36.out
  have e47 := E47.out
  have e34 := E34.out
  go_wp2_with (first | (refine ld33g rfl (.tmp 6) rfl B6 rfl Ka X6.out la ?_) | (refine ld33g rfl (.tmp 8) rfl B8 rfl Kb X8.out lb ?_) | (refine ldmg rfl (.tmp 48) rfl B6 16 rfl Z3 R3.out m3 ?_) | (refine ldmg rfl (.tmp 50) rfl B8 16 rfl Z6 R6.out m6 ?_) | (refine ldmg rfl (.tmp 55) rfl B6 32 rfl Z4 R4.out m4 ?_) | (refine ldmg rfl (.tmp 57) rfl B8 32 rfl Z7 R7.out m7 ?_) | (refine ldmg rfl (.tmp 62) rfl B6 16 rfl Z3 R3.out m3 ?_) | (refine ldmg rfl (.tmp 64) rfl B6 32 rfl Z4 R4.out m4 ?_))
  clear e33 e36 e47 e34 E33 E36 E47 E34 R3 R4 R6 R7 HRA HRB X6 X8 HIA HIB m3 m4 m6 m7 la lb
  refine Calls.mono (HFR.out _ HA.out) ?_
  rintro e W6 ⟨rfl, ha, hkc⟩
  have HA' : Aside (Ag w W6 V (Lc l ++ [fr])) := ha
  clear HA ha hkc
  have HA : Aside (Ag w W6 V (Lc l ++ [fr])) := HA'.out
  clear HA'
  go_wp2_with fail
  refine Calls.mono (HM8.out _ HA.out) ?_
  rintro e W7 ⟨rfl, ha, hkc⟩
  have HA' : Aside (Ag w W7 V (LL l 0)) := ha
  clear HA ha hkc
  have HA : Aside (Ag w W7 V (LL l 0)) := HA'.out
  clear HA'
  go_wp2_with (refine st33 rfl (.tmp 10) (.tmp 73) rfl W7.heap.size K0 rfl rfl z48 (heap_alloc_new W7 _) lk0 rfl (Hid.out ?_))
  rw [hz33]
  have HBn := (nbox33 W7 K0).2
  have X10' : Aside _ := (nbox33 W7 K0).1
  have HA' : Aside (Ag w ((W7.alloc (.cells (hl z48).toArray 33)).setRow W7.heap.size (hl K0).toArray) V (LL l 0)) := HA.out.go HBn
  have g10 : w.heap.size ≤ W7.heap.size := HA.out.bel.size
  clear HA HBn
  generalize (W7.alloc (.cells (hl z48).toArray 33)).setRow W7.heap.size (hl K0).toArray = W8 at *
  generalize W7.heap.size = B10 at *
  have HA : Aside (Ag w W8 V (LL l 0)) := HA'.out
  have X10 : Aside _ := X10'.out
  clear HA' X10'
  refine mkHid ?_
  have HP : Aside (Pq w W8 V B10 0 l none 0 0) := ⟨HA.out, by rw [HK0.out]; exact X10.out, ⟨rfl, .inl ⟨rfl, rfl⟩⟩⟩
  clear HA X10 HFR HM8 HK0
  go_wp2_with fail
  go_loopg [7, 11, 12] (q + 2) (fun kx s7 s11 s12 wr => ∃ (i ct : Nat) (os : Option Addr), s12 = .int .i64 (i : Int) ∧ s7 = .int .i64 0 ∧ s11 = .slice os i ct ∧ i ≤ q + 1 ∧ q + 1 - i ≤ kx ∧ Aside (Pq w wr V B10 i l os ct i ∧ ∀ g, os = some ⟨g, 0, none⟩ → g ≠ B10))
  case atStart => exact ⟨0, 0, none, rfl, rfl, rfl, by omega, by omega, ⟨HP.out, fun g h => by cases h⟩⟩
  case round =>
    obtain ⟨i, ct, os, rfl, rfl, rfl, hi, hg, HQ⟩ := hrel
    clear HP
    by_cases hlt : i ≤ q
    · have i1 : (i : Int) ≤ (q : Int) := by omega
      have i1' : decide ((i : Int) ≤ (q : Int)) = true := by simpa using i1
      have iw : IntKind.i64.wrap ((i : Int) + 1) = (i : Int) + 1 := by rw [IntKind.wrap_i64]; omega
      have HNE : Aside _ := HQ.out.2
      have HQ1 : Aside (Pq w wr V B10 i l os ct i) := HQ.out.1
      clear HQ
      go_wp2_with fail
      go_loopg [13] i (fun kx s13 wx => ∃ j : Nat, s13 = .int .i64 (j : Int) ∧ j ≤ i ∧ i - j ≤ kx ∧ Aside (Pq w wx V B10 i l os ct i))
      case atStart => exact ⟨0, rfl, by omega, by omega, HQ1.out⟩
      case round =>
        obtain ⟨j, rfl, hj, hg2, HQj⟩ := hrel
        clear HQ1
        by_cases hlt2 : j < i
        · as_aux_lemma =>
          have k1 : (j : Int) < (i : Int) := by omega
          have k0 : (0 : Int) ≤ (j : Int) := by omega
          have kw : IntKind.i64.wrap ((j : Int) + 1) = (j : Int) + 1 := by rw [IntKind.wrap_i64]; omega
          obtain ⟨g, rfl⟩ : ∃ g, os = some ⟨g, 0, none⟩ := by
            obtain ⟨_, h | ⟨g, cap, cur, e, _⟩⟩ := HQj.out.row
            · omega
            · injection e with e; exact ⟨g, e⟩
          have hr1 := split48 (nameL_len _) (nameL_len _) (row33 HQj.out.row hlt2)
          have hr2 := split48 (nameL_len _) (nameL_len _) (box48 HQj.out.bx)
          simp only [Nat.zero_add] at hr2
          have HR1 : Aside _ := hr1
          have HR2 : Aside _ := hr2
          clear hr1 hr2
          have BK : Aside _ := beF (show 9 + 3 * j ≠ 9 + 3 * i by omega) (by omega) (by omega)
          have BS : Aside _ := beF (show 8 + 3 * j ≠ 8 + 3 * i by omega) (by omega) (by omega)
          have BM : Aside _ := bnF 10
          have mk : (Try.prog.info? 29).map (·.size) = some (hl (nameL (9 + 3 * j))).length := hi28.trans (by simp [nameL_len])
          have ms : (Try.prog.info? 29).map (·.size) = some (hl (nameL (8 + 3 * j))).length := hi28.trans (by simp [nameL_len])
          have nk : (Try.prog.info? 29).map (·.size) = some (hl (nameL (9 + 3 * i))).length := hi28.trans (by simp [nameL_len])
          have ns : (Try.prog.info? 29).map (·.size) = some (hl (nameL (8 + 3 * i))).length := hi28.trans (by simp [nameL_len])
          have mm : (Try.prog.info? 29).map (·.size) = some (hl (nameL 10)).length := hi28.trans (by simp [nameL_len])
          have hmu := hu28
          have HQd : Aside (Pq w wr.drew V B10 i l (some ⟨g, 0, none⟩) ct i) := HQj.out.bel (bel_drew wr)
          clear HQj
          generalize hl (nameL (8 + 3 * j)) = Zs at *
          generalize hl (nameL (9 + 3 * j)) = Zk at *
          generalize hl (nameL (8 + 3 * i)) = Ys at *
          generalize hl (nameL (9 + 3 * i)) = Yk at *
          generalize hl (nameL 10) = Zm at *
          go_wp2_with fail
          refine wp_region_held_drew (S := fun X => (X.rangeAt g (j * 48) Zs ∧ X.rangeAt g (j * 48 + 16) Zk ∧ X.rangeAt g (j * 48 + 32) Zm) ∧ (X.rangeAt B10 0 Ys ∧ X.rangeAt B10 16 Yk ∧ X.rangeAt B10 32 Zm)) (by kernel_rfl) ⟨HR1.out, HR2.out⟩ (fun hHeld => ?_)
          refine wpAnyH_take (i := 0) (v := .slice (some ⟨g, 0, none⟩) i ct) rfl (by kernel_rfl) (by kernel_rfl) (by kernel_rfl) (fun _ _ _ h => h) (Or.inl ⟨by rfl, by intro w hs; go_simp⟩) hHeld ?_
          refine norm_any' (fun K hK => ?_)
          go_simp
          refine hK _ _ ?_
          clear hK K
          refine wpAnyH_take (i := 1) (v := .int .i64 (j : Int)) rfl (by kernel_rfl) (by kernel_rfl) (by kernel_rfl) (fun _ _ _ h => h) (Or.inl ⟨by rfl, by intro w hs; go_simp⟩) hHeld ?_
          refine norm_any' (fun K hK => ?_)
          go_simp
          refine hK _ _ ?_
          clear hK K
          refine wpAnyH_take (i := 2) (v := .pointer (some ⟨g, j * 48, none⟩)) rfl (by kernel_rfl) (by kernel_rfl) (by kernel_rfl) (fun _ _ _ h => h) (Or.inl ⟨by rfl, by intro w hs; go_simp⟩) hHeld ?_
          refine norm_any' (fun K hK => ?_)
          go_simp
          refine hK _ _ ?_
          clear hK K
          refine wpAnyH_take (i := 3) (v := .pointer (some ⟨g, j * 48 + 16, none⟩)) rfl (by kernel_rfl) (by kernel_rfl) (by kernel_rfl) (fun _ _ _ h => h) (Or.inl ⟨by rfl, by intro w hs; go_simp⟩) hHeld ?_
          refine norm_any' (fun K hK => ?_)
          go_simp
          refine hK _ _ ?_
          clear hK K
          refine wpAnyH_take (i := 4) (v := .agg Zk.toArray) rfl (by kernel_rfl) (by kernel_rfl) (by kernel_rfl) (fun _ _ _ h => h) (yieldsIf_load_mid (by rfl) 29 _ rfl g (j * 48 + 16) rfl Zk _ (fun X h => h.1.2.1) hmu rfl mk) hHeld ?_
          refine norm_any' (fun K hK => ?_)
          go_simp
          refine hK _ _ ?_
          clear hK K
          refine wpAnyH_take (i := 5) (v := .pointer (some ⟨B10, 16, none⟩)) rfl (by kernel_rfl) (by kernel_rfl) (by kernel_rfl) (fun _ _ _ h => h) (Or.inl ⟨by rfl, by intro w hs; go_simp⟩) hHeld ?_
          refine norm_any' (fun K hK => ?_)
          go_simp
          refine hK _ _ ?_
          clear hK K
          refine wpAnyH_take (i := 6) (v := .agg Yk.toArray) rfl (by kernel_rfl) (by kernel_rfl) (by kernel_rfl) (fun _ _ _ h => h) (yieldsIf_load_mid (by rfl) 29 _ rfl B10 16 rfl Yk _ (fun X h => h.2.2.1) hmu rfl nk) hHeld ?_
          refine norm_any' (fun K hK => ?_)
          go_simp
          refine hK _ _ ?_
          clear hK K
          refine wpAnyH_take (i := 7) (v := .bool false) rfl (by kernel_rfl) (by kernel_rfl) (by kernel_rfl) (fun _ _ _ h => h) (yl_bin (by rfl) .eql 29 29 _ _ rfl Zk.toArray Yk.toArray rfl rfl hm29 _ BK.out) hHeld ?_
          refine norm_any' (fun K hK => ?_)
          go_simp
          refine hK _ _ ?_
          clear hK K
          refine wpAnyH_take (i := 8) (v := .bool false) rfl (by kernel_rfl) (by kernel_rfl) (by kernel_rfl) (fun _ _ _ h => h) (Or.inl ⟨by rfl, by intro w hs; go_simp⟩) hHeld ?_
          refine norm_any' (fun K hK => ?_)
          go_simp
          refine hK _ _ ?_
          clear hK K
          refine wpAnyH_take (i := 9) (v := .slice (some ⟨g, 0, none⟩) i ct) rfl (by kernel_rfl) (by kernel_rfl) (by kernel_rfl) (fun _ _ _ h => h) (Or.inl ⟨by rfl, by intro w hs; go_simp⟩) hHeld ?_
          refine norm_any' (fun K hK => ?_)
          go_simp
          refine hK _ _ ?_
          clear hK K
          refine wpAnyH_take (i := 10) (v := .int .i64 (j : Int)) rfl (by kernel_rfl) (by kernel_rfl) (by kernel_rfl) (fun _ _ _ h => h) (Or.inl ⟨by rfl, by intro w hs; go_simp⟩) hHeld ?_
          refine norm_any' (fun K hK => ?_)
          go_simp
          refine hK _ _ ?_
          clear hK K
          refine wpAnyH_take (i := 11) (v := .pointer (some ⟨g, j * 48, none⟩)) rfl (by kernel_rfl) (by kernel_rfl) (by kernel_rfl) (fun _ _ _ h => h) (Or.inl ⟨by rfl, by intro w hs; go_simp⟩) hHeld ?_
          refine norm_any' (fun K hK => ?_)
          go_simp
          refine hK _ _ ?_
          clear hK K
          refine wpAnyH_take (i := 12) (v := .pointer (some ⟨g, j * 48, none⟩)) rfl (by kernel_rfl) (by kernel_rfl) (by kernel_rfl) (fun _ _ _ h => h) (Or.inl ⟨by rfl, by intro w hs; go_simp⟩) hHeld ?_
          refine norm_any' (fun K hK => ?_)
          go_simp
          refine hK _ _ ?_
          clear hK K
          refine wpAnyH_take (i := 13) (v := .agg Zs.toArray) rfl (by kernel_rfl) (by kernel_rfl) (by kernel_rfl) (fun _ _ _ h => h) (yieldsIf_load_mid (by rfl) 29 _ rfl g (j * 48) rfl Zs _ (fun X h => h.1.1) hmu rfl ms) hHeld ?_
          refine norm_any' (fun K hK => ?_)
          go_simp
          refine hK _ _ ?_
          clear hK K
          refine wpAnyH_take (i := 14) (v := .pointer (some ⟨B10, 0, none⟩)) rfl (by kernel_rfl) (by kernel_rfl) (by kernel_rfl) (fun _ _ _ h => h) (Or.inl ⟨by rfl, by intro w hs; go_simp⟩) hHeld ?_
          refine norm_any' (fun K hK => ?_)
          go_simp
          refine hK _ _ ?_
          clear hK K
          refine wpAnyH_take (i := 15) (v := .agg Ys.toArray) rfl (by kernel_rfl) (by kernel_rfl) (by kernel_rfl) (fun _ _ _ h => h) (yieldsIf_load_mid (by rfl) 29 _ rfl B10 0 rfl Ys _ (fun X h => h.2.1) hmu rfl ns) hHeld ?_
          refine norm_any' (fun K hK => ?_)
          go_simp
          refine hK _ _ ?_
          clear hK K
          refine wpAnyH_take (i := 16) (v := .bool false) rfl (by kernel_rfl) (by kernel_rfl) (by kernel_rfl) (fun _ _ _ h => h) (yl_bin (by rfl) .eql 29 29 _ _ rfl Zs.toArray Ys.toArray rfl rfl hm29 _ BS.out) hHeld ?_
          refine norm_any' (fun K hK => ?_)
          go_simp
          refine hK _ _ ?_
          clear hK K
          refine wpAnyH_take (i := 17) (v := .bool false) rfl (by kernel_rfl) (by kernel_rfl) (by kernel_rfl) (fun _ _ _ h => h) (Or.inl ⟨by rfl, by intro w hs; go_simp⟩) hHeld ?_
          refine norm_any' (fun K hK => ?_)
          go_simp
          refine hK _ _ ?_
          clear hK K
          refine wpAnyH_take (i := 18) (v := .bool false) rfl (by kernel_rfl) (by kernel_rfl) (by kernel_rfl) (fun _ _ _ h => h) (Or.inl ⟨by rfl, by intro w hs; go_simp⟩) hHeld ?_
          refine norm_any' (fun K hK => ?_)
          go_simp
          refine hK _ _ ?_
          clear hK K
          refine wpAnyH_take (i := 19) (v := .slice (some ⟨g, 0, none⟩) i ct) rfl (by kernel_rfl) (by kernel_rfl) (by kernel_rfl) (fun _ _ _ h => h) (Or.inl ⟨by rfl, by intro w hs; go_simp⟩) hHeld ?_
          refine norm_any' (fun K hK => ?_)
          go_simp
          refine hK _ _ ?_
          clear hK K
          refine wpAnyH_take (i := 20) (v := .int .i64 (j : Int)) rfl (by kernel_rfl) (by kernel_rfl) (by kernel_rfl) (fun _ _ _ h => h) (Or.inl ⟨by rfl, by intro w hs; go_simp⟩) hHeld ?_
          refine norm_any' (fun K hK => ?_)
          go_simp
          refine hK _ _ ?_
          clear hK K
          refine wpAnyH_take (i := 21) (v := .pointer (some ⟨g, j * 48, none⟩)) rfl (by kernel_rfl) (by kernel_rfl) (by kernel_rfl) (fun _ _ _ h => h) (Or.inl ⟨by rfl, by intro w hs; go_simp⟩) hHeld ?_
          refine norm_any' (fun K hK => ?_)
          go_simp
          refine hK _ _ ?_
          clear hK K
          refine wpAnyH_take (i := 22) (v := .pointer (some ⟨g, j * 48 + 32, none⟩)) rfl (by kernel_rfl) (by kernel_rfl) (by kernel_rfl) (fun _ _ _ h => h) (Or.inl ⟨by rfl, by intro w hs; go_simp⟩) hHeld ?_
          refine norm_any' (fun K hK => ?_)
          go_simp
          refine hK _ _ ?_
          clear hK K
          refine wpAnyH_take (i := 23) (v := .agg Zm.toArray) rfl (by kernel_rfl) (by kernel_rfl) (by kernel_rfl) (fun _ _ _ h => h) (yieldsIf_load_mid (by rfl) 29 _ rfl g (j * 48 + 32) rfl Zm _ (fun X h => h.1.2.2) hmu rfl mm) hHeld ?_
          refine norm_any' (fun K hK => ?_)
          go_simp
          refine hK _ _ ?_
          clear hK K
          refine wpAnyH_take (i := 24) (v := .pointer (some ⟨B10, 32, none⟩)) rfl (by kernel_rfl) (by kernel_rfl) (by kernel_rfl) (fun _ _ _ h => h) (Or.inl ⟨by rfl, by intro w hs; go_simp⟩) hHeld ?_
          refine norm_any' (fun K hK => ?_)
          go_simp
          refine hK _ _ ?_
          clear hK K
          refine wpAnyH_take (i := 25) (v := .agg Zm.toArray) rfl (by kernel_rfl) (by kernel_rfl) (by kernel_rfl) (fun _ _ _ h => h) (yieldsIf_load_mid (by rfl) 29 _ rfl B10 32 rfl Zm _ (fun X h => h.2.2.2) hmu rfl mm) hHeld ?_
          refine norm_any' (fun K hK => ?_)
          go_simp
          refine hK _ _ ?_
          clear hK K
          refine wpAnyH_take (i := 26) (v := .bool false) rfl (by kernel_rfl) (by kernel_rfl) (by kernel_rfl) (fun _ _ _ h => h) (yl_bin (by rfl) .neq 29 29 _ _ rfl Zm.toArray Zm.toArray rfl rfl hm29 _ BM.out) hHeld ?_
          refine norm_any' (fun K hK => ?_)
          go_simp
          refine hK _ _ ?_
          clear hK K
          refine wpAnyH_take (i := 27) (v := .bool false) rfl (by kernel_rfl) (by kernel_rfl) (by kernel_rfl) (fun _ _ _ h => h) (Or.inl ⟨by rfl, by intro w hs; go_simp⟩) hHeld ?_
          refine norm_any' (fun K hK => ?_)
          go_simp
          refine hK _ _ ?_
          clear hK K
          refine wpAnyH_done (by kernel_rfl) ?_ _
          clear hHeld BK BS BM
          go_wp2
          go_roundg (i - (j + 1))
          case measure => omega
          case rel => exact ⟨j + 1, by simp, by omega, Nat.le_refl _, HQd.out⟩
        · obtain rfl : j = i := by omega
          have k1 : ¬ ((j : Int) < (j : Int)) := by omega
          have HQd : Aside (Pq w wr.drew V B10 j l os ct j) := HQj.out.bel (bel_drew wr)
          have HHA : Aside (∀ X, Pq w X V B10 j l os ct j → Calls Try.prog 19 #[.pointer (some ⟨V, 0, none⟩), .slice (some ⟨B10, 16, none⟩) 16 16, .slice none 0 0] X fun e w' => e = .returned (.bool true) ∧ Below X.heap.size X w') := fun X hX => hX.hidA (by omega)
          have HHB : Aside (∀ X kk, Pq w X V B10 j l os ct j → X.heap[kk]? = some (.cells #[.slice (some ⟨B10, 0, none⟩) 16 16] 22 (0, 0)) → Calls Try.prog 19 #[.pointer (some ⟨V, 0, none⟩), .slice (some ⟨B10, 16, none⟩) 16 16, .slice (some ⟨kk, 0, none⟩) 1 1] X fun e w' => e = .returned (.bool false) ∧ Below X.heap.size X w') := fun X kk hX hk => hX.hidB (by omega) kk hk
          clear HQj
          go_wp2_with fail
          refine wp_region_held_drew (S := fun _ => True) (by kernel_rfl) trivial (fun hHeld => ?_)
          refine wpAnyH_take (i := 0) (v := .int .i64 0) rfl (by kernel_rfl) (by kernel_rfl) (by kernel_rfl) (fun _ _ _ h => h) (Or.inl ⟨by rfl, by intro w hs; go_simp⟩) hHeld ?_
          refine norm_any' (fun K hK => ?_)
          go_simp
          refine hK _ _ ?_
          clear hK K
          refine wpAnyH_take (i := 1) (v := .bool false) rfl (by kernel_rfl) (by kernel_rfl) (by kernel_rfl) (fun _ _ _ h => h) (Or.inl ⟨by rfl, by intro w hs; go_simp⟩) hHeld ?_
          refine norm_any' (fun K hK => ?_)
          go_simp
          refine hK _ _ ?_
          clear hK K
          refine wpAnyH_take (i := 2) (v := .bool false) rfl (by kernel_rfl) (by kernel_rfl) (by kernel_rfl) (fun _ _ _ h => h) (Or.inl ⟨by rfl, by intro w hs; go_simp⟩) hHeld ?_
          refine norm_any' (fun K hK => ?_)
          go_simp
          refine hK _ _ ?_
          clear hK K
          refine wpAnyH_take (i := 3) (v := .pointer (some ⟨V, 0, none⟩)) rfl (by kernel_rfl) (by kernel_rfl) (by kernel_rfl) (fun _ _ _ h => h) (Or.inl ⟨by rfl, by intro w hs; go_simp⟩) hHeld ?_
          refine norm_any' (fun K hK => ?_)
          go_simp
          refine hK _ _ ?_
          clear hK K
          refine wpAnyH_take (i := 4) (v := .pointer (some ⟨B10, 16, none⟩)) rfl (by kernel_rfl) (by kernel_rfl) (by kernel_rfl) (fun _ _ _ h => h) (Or.inl ⟨by rfl, by intro w hs; go_simp⟩) hHeld ?_
          refine norm_any' (fun K hK => ?_)
          go_simp
          refine hK _ _ ?_
          clear hK K
          refine wpAnyH_take (i := 5) (v := .slice (some ⟨B10, 16, none⟩) 16 16) rfl (by kernel_rfl) (by kernel_rfl) (by kernel_rfl) (fun _ _ _ h => h) (Or.inl ⟨by rfl, by intro w hs; go_simp⟩) hHeld ?_
          refine norm_any' (fun K hK => ?_)
          go_simp
          refine hK _ _ ?_
          clear hK K
          refine wpAnyH_take (i := 7) (v := .pointer (some ⟨V, 0, none⟩)) rfl (by kernel_rfl) (by kernel_rfl) (by kernel_rfl) (fun _ _ _ h => h) (Or.inl ⟨by rfl, by intro w hs; go_simp⟩) hHeld ?_
          refine norm_any' (fun K hK => ?_)
          go_simp
          refine hK _ _ ?_
          clear hK K
          refine wpAnyH_take (i := 8) (v := .pointer (some ⟨B10, 16, none⟩)) rfl (by kernel_rfl) (by kernel_rfl) (by kernel_rfl) (fun _ _ _ h => h) (Or.inl ⟨by rfl, by intro w hs; go_simp⟩) hHeld ?_
          refine norm_any' (fun K hK => ?_)
          go_simp
          refine hK _ _ ?_
          clear hK K
          refine wpAnyH_take (i := 9) (v := .slice (some ⟨B10, 16, none⟩) 16 16) rfl (by kernel_rfl) (by kernel_rfl) (by kernel_rfl) (fun _ _ _ h => h) (Or.inl ⟨by rfl, by intro w hs; go_simp⟩) hHeld ?_
          refine norm_any' (fun K hK => ?_)
          go_simp
          refine hK _ _ ?_
          clear hK K
          refine wpAnyH_take (i := 10) (v := .pointer (some ⟨B10, 0, none⟩)) rfl (by kernel_rfl) (by kernel_rfl) (by kernel_rfl) (fun _ _ _ h => h) (Or.inl ⟨by rfl, by intro w hs; go_simp⟩) hHeld ?_
          refine norm_any' (fun K hK => ?_)
          go_simp
          refine hK _ _ ?_
          clear hK K
          refine wpAnyH_take (i := 11) (v := .slice (some ⟨B10, 0, none⟩) 16 16) rfl (by kernel_rfl) (by kernel_rfl) (by kernel_rfl) (fun _ _ _ h => h) (Or.inl ⟨by rfl, by intro w hs; go_simp⟩) hHeld ?_
          refine norm_any' (fun K hK => ?_)
          go_simp
          refine hK _ _ ?_
          clear hK K
          refine wpAnyH_ready (rs := [6, 12]) (by kernel_rfl) (by simp) (AllReadyH.cons rfl (fun K hK => ?_) (AllReadyH.cons rfl (fun K hK => ?_) AllReadyH.nil))
          · as_aux_lemma =>
            skip
            go_simp
            refine Calls.mono (HHA.out _ HQd.out) ?_
            rintro e Y1 ⟨rfl, hz⟩
            have HQ1 : Aside (Pq w Y1 V B10 j l os ct j) := HQd.out.bel hz
            clear hz
            refine hK.out _ _ trivial (fun hHeld => ?_)
            clear hK K
            refine norm_any' (fun K hK => ?_)
            go_simp
            refine hK _ _ ?_
            clear hK K
            refine wpAnyH_ready (rs := [12]) (by kernel_rfl) (by simp) (AllReadyH.cons rfl (fun K hK => ?_) AllReadyH.nil)
            have HQ2 : Aside (Pq w (Y1.alloc (.cells #[.slice (some ⟨B10, 0, none⟩) 16 16] 22)) V B10 j l os ct j) := HQ1.out.bel (bel1 _ _)
            have HK2 : Aside _ := heap_alloc_new Y1 (.cells #[.slice (some ⟨B10, 0, none⟩) 16 16] 22)
            go_simp
            refine hK.out _ _ trivial (fun hHeld => ?_)
            clear hK K
            refine norm_any' (fun K hK => ?_)
            go_simp
            refine hK _ _ ?_
            clear hK K
            refine wpAnyH_ready (rs := [13]) (by kernel_rfl) (by simp) (AllReadyH.cons rfl (fun K hK => ?_) AllReadyH.nil)
            go_simp
            refine Calls.mono (HHB.out _ _ HQ2.out HK2.out) ?_
            rintro e Y3 ⟨rfl, hz⟩
            have HQ3 : Aside (Pq w Y3 V B10 j l os ct j) := HQ2.out.bel hz
            clear hz
            refine hK.out _ _ trivial (fun hHeld => ?_)
            clear hK K
            refine norm_any' (fun K hK => ?_)
            go_simp
            refine hK _ _ ?_
            clear hK K
            refine wpAnyH_take (i := 14) (v := .bool false) rfl (by kernel_rfl) (by kernel_rfl) (by kernel_rfl) (fun _ _ _ h => h) (Or.inl ⟨by rfl, by intro w hs; go_simp⟩) hHeld ?_
            refine norm_any' (fun K hK => ?_)
            go_simp
            refine hK _ _ ?_
            clear hK K
            refine wpAnyH_take (i := 15) (v := .bool false) rfl (by kernel_rfl) (by kernel_rfl) (by kernel_rfl) (fun _ _ _ h => h) (Or.inl ⟨by rfl, by intro w hs; go_simp⟩) hHeld ?_
            refine norm_any' (fun K hK => ?_)
            go_simp
            refine hK _ _ ?_
            clear hK K
            refine wpAnyH_done (by kernel_rfl) ?_ _
            clear hHeld HHA HHB
            have hpq := HQ3.out
            have hY := hpq.bel (bel1 Y3 (.cells (hl (kk j)).toArray 33))
            obtain ⟨g2, c2, W9, hrun, hp9, hgB⟩ := hY.push (b := Y3.heap.size) (by omega) rfl (heap_alloc_new Y3 _) HNE.out (by have := (Array.getElem?_eq_some_iff.1 hpq.bx).1; simp; omega)
            have HNX : Aside (∀ W10, Ag w W10 V (LL l (j + 1)) → Kc W9 W10 → W10.heap[B10]? = some (.cells (hl (kk j)).toArray 33 (0, 0)) ∧ Pq w (W10.setRow B10 (hl (kk (j + 1))).toArray) V B10 (j + 1) l (some ⟨g2, 0, none⟩) c2 (j + 1)) := fun W10 ha hk => hp9.step hgB g10 ha hk
            have HNT : Aside _ := hp9.next (by omega)
            have HB9 : Aside _ := hp9.bx
            have HBY : Aside _ := hpq.bx
            have lkj := kk_len j
            have lkn := kk_len (j + 1)
            have HGB : Aside (g2 ≠ B10) := hgB
            have HRUN : Aside _ := hrun
            clear hrun hp9 hgB hY hpq HQd
            generalize kk j = Kj at *
            generalize kk (j + 1) = Kn at *
            have hfold := fold48 lkj
            go_wp2_with (first | (refine ld33 rfl (.tmp 10) rfl B10 rfl Kj HBY.out lkj ?_) | (refine wpList_append_run' rfl _ _ 53 53 rfl _ _ rfl rfl HRUN.out (Hid.out ?_)))
            clear hfold HRUN HBY
            refine mkHid ?_
            go_wp2_with (refine ld33 rfl (.tmp 10) rfl B10 rfl Kj HB9.out lkj ?_)
            refine Calls.mono HNT.out ?_
            rintro e W10 ⟨rfl, ha, hk⟩
            obtain ⟨hx, hq⟩ := HNX.out W10 ha hk
            have HX : Aside _ := hx
            have HQn : Aside _ := hq
            clear hx hq ha hk HNX HNT HB9
            go_wp2_with (refine st33 rfl (.tmp 10) (.tmp 139) rfl B10 Kn rfl rfl Kj HX.out lkn lkj ?_)
            go_roundg (q + 1 - (j + 1))
            case measure => omega
            case rel => exact ⟨j + 1, c2, some ⟨g2, 0, none⟩, by simp, rfl, rfl, by omega, Nat.le_refl _, ⟨HQn.out, fun g h => by injection h with h; injection h with h; subst h; exact HGB.out⟩⟩
          · as_aux_lemma =>
            skip
            have HQ2 : Aside (Pq w (wr.drew.alloc (.cells #[.slice (some ⟨B10, 0, none⟩) 16 16] 22)) V B10 j l os ct j) := HQd.out.bel (bel1 _ _)
            have HK2 : Aside _ := heap_alloc_new wr.drew (.cells #[.slice (some ⟨B10, 0, none⟩) 16 16] 22)
            go_simp
            refine hK.out _ _ trivial (fun hHeld => ?_)
            clear hK K
            refine norm_any' (fun K hK => ?_)
            go_simp
            refine hK _ _ ?_
            clear hK K
            refine wpAnyH_ready (rs := [6]) (by kernel_rfl) (by simp) (AllReadyH.cons rfl (fun K hK => ?_) AllReadyH.nil)
            go_simp
            refine Calls.mono (HHA.out _ HQ2.out) ?_
            rintro e Y1 ⟨rfl, hz⟩
            have HQ1 : Aside (Pq w Y1 V B10 j l os ct j) := HQ2.out.bel hz
            have HK1 : Aside _ := heap_bel HK2.out hz
            clear hz
            refine hK.out _ _ trivial (fun hHeld => ?_)
            clear hK K
            refine norm_any' (fun K hK => ?_)
            go_simp
            refine hK _ _ ?_
            clear hK K
            refine wpAnyH_ready (rs := [13]) (by kernel_rfl) (by simp) (AllReadyH.cons rfl (fun K hK => ?_) AllReadyH.nil)
            go_simp
            refine Calls.mono (HHB.out _ _ HQ1.out HK1.out) ?_
            rintro e Y3 ⟨rfl, hz⟩
            have HQ3 : Aside (Pq w Y3 V B10 j l os ct j) := HQ1.out.bel hz
            clear hz
            refine hK.out _ _ trivial (fun hHeld => ?_)
            clear hK K
            refine norm_any' (fun K hK => ?_)
            go_simp
            refine hK _ _ ?_
            clear hK K
            refine wpAnyH_take (i := 14) (v := .bool false) rfl (by kernel_rfl) (by kernel_rfl) (by kernel_rfl) (fun _ _ _ h => h) (Or.inl ⟨by rfl, by intro w hs; go_simp⟩) hHeld ?_
            refine norm_any' (fun K hK => ?_)
            go_simp
            refine hK _ _ ?_
            clear hK K
            refine wpAnyH_take (i := 15) (v := .bool false) rfl (by kernel_rfl) (by kernel_rfl) (by kernel_rfl) (fun _ _ _ h => h) (Or.inl ⟨by rfl, by intro w hs; go_simp⟩) hHeld ?_
            refine norm_any' (fun K hK => ?_)
            go_simp
            refine hK _ _ ?_
            clear hK K
            refine wpAnyH_done (by kernel_rfl) ?_ _
            clear hHeld HHA HHB
            have hpq := HQ3.out
            have hY := hpq.bel (bel1 Y3 (.cells (hl (kk j)).toArray 33))
            obtain ⟨g2, c2, W9, hrun, hp9, hgB⟩ := hY.push (b := Y3.heap.size) (by omega) rfl (heap_alloc_new Y3 _) HNE.out (by have := (Array.getElem?_eq_some_iff.1 hpq.bx).1; simp; omega)
            have HNX : Aside (∀ W10, Ag w W10 V (LL l (j + 1)) → Kc W9 W10 → W10.heap[B10]? = some (.cells (hl (kk j)).toArray 33 (0, 0)) ∧ Pq w (W10.setRow B10 (hl (kk (j + 1))).toArray) V B10 (j + 1) l (some ⟨g2, 0, none⟩) c2 (j + 1)) := fun W10 ha hk => hp9.step hgB g10 ha hk
            have HNT : Aside _ := hp9.next (by omega)
            have HB9 : Aside _ := hp9.bx
            have HBY : Aside _ := hpq.bx
            have lkj := kk_len j
            have lkn := kk_len (j + 1)
            have HGB : Aside (g2 ≠ B10) := hgB
            have HRUN : Aside _ := hrun
            clear hrun hp9 hgB hY hpq HQd
            generalize kk j = Kj at *
            generalize kk (j + 1) = Kn at *
            have hfold := fold48 lkj
            go_wp2_with (first | (refine ld33 rfl (.tmp 10) rfl B10 rfl Kj HBY.out lkj ?_) | (refine wpList_append_run' rfl _ _ 53 53 rfl _ _ rfl rfl HRUN.out (Hid.out ?_)))
            clear hfold HRUN HBY
            refine mkHid ?_
            go_wp2_with (refine ld33 rfl (.tmp 10) rfl B10 rfl Kj HB9.out lkj ?_)
            refine Calls.mono HNT.out ?_
            rintro e W10 ⟨rfl, ha, hk⟩
            obtain ⟨hx, hq⟩ := HNX.out W10 ha hk
            have HX : Aside _ := hx
            have HQn : Aside _ := hq
            clear hx hq ha hk HNX HNT HB9
            go_wp2_with (refine st33 rfl (.tmp 10) (.tmp 139) rfl B10 Kn rfl rfl Kj HX.out lkn lkj ?_)
            go_roundg (q + 1 - (j + 1))
            case measure => omega
            case rel => exact ⟨j + 1, c2, some ⟨g2, 0, none⟩, by simp, rfl, rfl, by omega, Nat.le_refl _, ⟨HQn.out, fun g h => by injection h with h; injection h with h; subst h; exact HGB.out⟩⟩
    · have i1 : ¬ ((i : Int) ≤ (q : Int)) := by omega
      have i1' : decide ((i : Int) ≤ (q : Int)) = false := by simpa using i1
      go_wp2
      go_ret
      exact ⟨rfl, HQ.out.1.ag.bel⟩
end Go.Proofs.Ytdklkofnekacdaa
