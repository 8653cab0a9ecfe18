/- VaultSeals: what stands there while the law goes on. -/
import Derived.Test.YthhoknkdmmldbaaSg
import Derived.Deep.Upon
namespace Go.Proofs.Ythhoknkdmmldbaa
open Go.RowKit Go.Shelf Go.Lib
set_option linter.unusedVariables false

theorem step_append_g {P : Program} {ops : Array Oper} {o : Oper} {a : Act} {w : World} {K : Act → World → Prop} {Q : Exit → Act → World → Prop} {E : Prop}
    (hw : Region.wanted o (yielded ops a.tmps) = true) (d x : Operand) (dT sT : TypeId) (hop : o.op = Op.call { callee := Callee.builtin Builtin.append, args := #[d, x], argTypes := #[dT, sT] })
    (v u : Value) (hd : a.eval d = v) (hx : a.eval x = u) {v' : Value} {w' : World} (hr : (Builtin.append_ #[dT, sT] o.type #[v, u]).run P w = .ok v' w') (hK : K (a.put o.dst v') w') :
    if Region.wanted o (yielded ops a.tmps) = true then Oper.wp P o a w K Q else E := by
  rw [if_pos hw]
  unfold Oper.wp
  simp [execOp, hop, resolve, invoke, builtin, hd, hx, hr, Result.andThen]
  exact hK
theorem and_24 (a : Int) : 0 ≤ bits .and .i64 a 16777215 ∧ bits .and .i64 a 16777215 ≤ 16777215 := by
  have h : (BitVec.ofInt 64 a &&& BitVec.ofInt 64 16777215).toNat ≤ 16777215 := by
    rw [BitVec.toNat_and]
    exact Nat.and_le_right
  have e : bits .and .i64 a 16777215 = IntKind.i64.wrap ((BitVec.ofInt 64 a &&& BitVec.ofInt 64 16777215).toNat : Int) := rfl
  rw [e, IntKind.wrap_i64]
  omega
theorem a2 (w : World) (o1 o2 : Obj) : ((w.alloc o1).alloc o2).heap[w.heap.size]? = some o1 ∧ ((w.alloc o1).alloc o2).heap[w.heap.size + 1]? = some o2 ∧ Below w.heap.size w ((w.alloc o1).alloc o2) := ⟨nth' (new' rfl), new' (by simp), (bel1 w _).alloc (by simp) _⟩
/-- One more. -/
theorem ap2x {X : World} {n₀ k : Nat} {v : Value} {l : List UInt8} {x : UInt8} (hk : X.heap[k]? = some (.cells #[.int .u8 (x.toNat : Int)] 5 (0, 0))) (hn : n₀ ≤ X.heap.size) (hown : X.ownsRow n₀ 5 1 v l.length (hl l)) (hll : l.length ≤ 140737488351232) :
    ∃ g c X', (Builtin.append_ #[38, 38] 38 #[v, .slice (some ⟨k, 0, none⟩) 1 1]).run Try.prog X = .ok (.slice (some ⟨g, 0, none⟩) (l.length + 1) c) X' ∧ Sl X' (some ⟨g, 0, none⟩) (l ++ [x]) ∧ Gw X X' n₀ := by
  obtain ⟨i, hi, hz, hs, hb⟩ := inf5
  have hcell : ∀ j u, [Value.int .u8 (x.toNat : Int)][j]? = some u → X.cell? ((⟨k, 0, none⟩ : Addr).add j) = some u := by
    intro j u hu
    rw [Addr.add_mid]
    simp only [World.cell?, hk, Nat.zero_add]
    simpa using hu
  obtain ⟨v', w', hrun, hown', hgr, _, _⟩ := run_append_own_at (P := Try.prog) X n₀ 38 38 5 i (.int .u8 0) 1 1 Try.underlying38 hi hz hs hb rfl (by decide) _ _ _ hown ⟨k, 0, none⟩ 1 1 [.int .u8 (x.toNat : Int)] rfl hcell (by simp [Value.oneCell']) (by unfold maxLen; omega) (by omega) hn
  have e : hl l ++ [.int .u8 (x.toNat : Int)] = hl (l ++ [x]) := by rw [hl_app]; rfl
  rw [e] at hown'
  have hg2 := own_gw hown hgr
  have hcopy := hown'
  obtain ⟨_, h | ⟨g, cap, cur, rfl, _⟩⟩ := hcopy
  · omega
  · exact ⟨g, cap, w', hrun, own_sl hown' (by simp), hg2⟩
/-- One byte of a row of one's own is turned. -/
theorem own_turn {X : World} {n₀ n₁ g n c j : Nat} {l : List UInt8} {y : UInt8} (h : X.ownsRow n₁ 5 1 (.slice (some ⟨g, 0, none⟩) n c) n (hl l)) (hn : l.length = n) (hj : j < n) (h64 : n ≤ 140737488355328) :
    X.cell? ⟨g, j, none⟩ = some (.int .u8 ((l[j]'(by omega)).toNat : Int)) ∧ X.frozen? ⟨g, j, none⟩ = false ∧ By n₀ (X.setCell ⟨g, j, none⟩ (.int .u8 (y.toNat : Int))) (some ⟨g, 0, none⟩) c (l.set j y) ∧ Below n₁ X (X.setCell ⟨g, j, none⟩ (.int .u8 (y.toNat : Int))) ∧ n ≤ c := by
  obtain ⟨_, h | ⟨g', cap, cur, e, h1, h2, h3, h4, h5, h6⟩⟩ := h
  · cases h.1
  · injection e with e1 e2 e3
    injection e1 with e1
    injection e1 with e1
    subst e1
    subst e3
    have get : ∀ i (hi : i < n), cur[i]? = some (.int .u8 ((l[i]'(by omega)).toNat : Int)) := by
      intro i hi
      have e : (hl l)[i]? = some (.int .u8 (l[i].toNat : Int)) := hl_get (by omega)
      rw [← h6, Nat.mul_one, List.getElem?_take_of_lt (by omega)] at e
      simpa using e
    have hrow : (X.setCell ⟨g, j, none⟩ (.int .u8 (y.toNat : Int))).heap[g]? = some (.cells (cur.setIfInBounds j (.int .u8 (y.toNat : Int))) 5 (0, 0)) := by
      rw [setCell_eq_setRow X g j _ 5 (0, 0) _ h2]
      exact setRow_heap X g _ _ 5 (0, 0) h2
    refine ⟨by simp only [World.cell?, h2]; exact get j hj, by simp [World.frozen?, h2], ⟨fun i hi => ⟨g, 0, rfl, ?_⟩, by simp; omega, by simp; omega, by unfold maxLen at h4; omega, fun _ => ⟨g, 0, rfl, .inr ⟨_, 5, _, hrow, .inl rfl⟩⟩⟩, ?_, h3⟩
    · simp only [World.cell?, hrow, Nat.zero_add]
      have hi' : i < n := by simp at hi; omega
      by_cases e : j = i
      · subst e
        have : j < cur.size := by omega
        simp [this]
      · rw [Array.getElem?_setIfInBounds_ne e, get i hi']
        simp [List.getElem_set_ne e]
    · rw [setCell_eq_setRow X g j _ 5 (0, 0) _ h2]
      exact ⟨rfl, rfl, rfl, by simp, fun k hk => setRow_other _ _ _ _ (by omega)⟩
theorem xor1 : ∀ x : Fin 256, bits .xor .u8 (x.val : Int) 1 = ((x.val ^^^ 1 : Nat) : Int) := by decide +kernel
theorem xor1' (b : UInt8) : bits .xor .u8 (b.toNat : Int) 1 = (((b ^^^ 1).toNat : Nat) : Int) := by
  have := xor1 ⟨b.toNat, b.toNat_lt⟩
  rw [this]
  rfl
theorem xor1_ne (b : UInt8) : b ^^^ 1 ≠ b := by
  intro h
  have h1 := congrArg (fun x => x ^^^ b) h
  simp only [UInt8.xor_self] at h1
  rw [UInt8.xor_comm b 1, UInt8.xor_assoc, UInt8.xor_self, UInt8.xor_zero] at h1
  cases h1
/-- The vault, both boxes, the sealed text. -/
structure Sg (W0 w : World) (V B8 B9 g cg N : Nat) (L : List Tm) : Prop where
  ag : Ag W0 w V L
  b8 : w.heap[B8]? = some (.cells (hl (nameL 1)).toArray 28 (0, 0))
  b9 : w.heap[B9]? = some (.cells (hl (nameL 2)).toArray 28 (0, 0))
  sb : By W0.heap.size w (some ⟨g, 0, none⟩) cg (zn N 3)
section
variable {W0 w w' : World} {V B8 B9 g cg N : Nat} {L : List Tm}
theorem Sg.bel (h : Sg W0 w V B8 B9 g cg N L) (hb : Below w.heap.size w w') : Sg W0 w' V B8 B9 g cg N L :=
  ⟨h.ag.go hb, heap_bel h.b8 hb, heap_bel h.b9 hb, h.sb.bel hb⟩
theorem sg_seal (h : Ag W0 w V [rt, fr, fr]) (h8 : w.heap[B8]? = some (.cells (hl (nameL 1)).toArray 28 (0, 0))) (h9 : w.heap[B9]? = some (.cells (hl (nameL 2)).toArray 28 (0, 0))) (n : Int) (hn : 0 ≤ n) (oa op : Option Addr) (ca cp : Nat) (la lp : List UInt8) (hSa : Sl w oa la) (hSp : Sl w op lp) (hlp : lp.length ≤ 65536) :
    Calls Try.prog 18 #[.pointer (some ⟨V, 0, none⟩), hv (nameL 1), .int .i64 n, .slice oa la.length ca, .slice op lp.length cp] w fun e w' => ∃ g cg, e = .returned (.tuple #[.slice (some ⟨g, 0, none⟩) (lp.length + 16) cg, .int .i64 0]) ∧ Sg W0 w' V B8 B9 g cg lp.length (L4s n la lp) := by
  obtain ⟨G, c, M, hv⟩ := h.va
  refine (seal_yes hv (by simp) 1 (by simp) n hn oa op ca cp la lp hSa hSp hlp).mono ?_
  rintro e w' ⟨i, g, cg, rfl, hm, hby⟩
  obtain ⟨rfl, h1, h2⟩ := h.made_new (by simp) hv hm
  exact ⟨g, cg, rfl, h1, h2 _ _ h8, h2 _ _ h9, hby⟩
theorem Sg.opn_yes (n : Int) (hn : 0 ≤ n) (oa : Option Addr) (ca : Nat) (la lp : List UInt8) (h : Sg W0 w V B8 B9 g cg N (L4s n la lp)) (hSa : Sl w oa la) (hN : lp.length = N) (hN6 : N ≤ 65536) :
    Calls Try.prog 19 #[.pointer (some ⟨V, 0, none⟩), hv (nameL 1), .int .i64 n, .slice oa la.length ca, .slice (some ⟨g, 0, none⟩) (N + 16) cg] w fun e w' => (∃ gx cx, e = .returned (.tuple #[.slice (some ⟨gx, 0, none⟩) N cx, .int .i64 0]) ∧ Sl w' (some ⟨gx, 0, none⟩) lp) ∧ Sg W0 w' V B8 B9 g cg N (L4s n la lp) ∧ Below w.heap.size w w' := by
  obtain ⟨G, c, M, hv⟩ := h.ag.va
  have := open_c hv (small4 (by omega)) (by simp) 1 (by simp) n hn oa (some ⟨g, 0, none⟩) ca cg la (zn N 3) hSa h.sb
  rw [zn_len] at this
  refine this.mono ?_
  rintro e w' ⟨⟨S, gx, cx, ho, rfl, hb⟩ | ⟨hno, _⟩, hbe⟩
  · obtain ⟨_, _, _, rfl, _⟩ := op_iff.1 ho
    rw [ba_size, hN]
    exact ⟨⟨gx, cx, rfl, hb.sl⟩, h.bel hbe, hbe⟩
  · exact absurd (op_iff.2 ⟨rfl, rfl, rfl, rfl, by rw [hN]⟩) (hno _)
theorem Sg.opn_no {n : Int} {la lp : List UInt8} (h : Sg W0 w V B8 B9 g cg N (L4s n la lp)) (k : Nat) (hk : k < 4) (m : Int) (hm : 0 ≤ m) (ob : Option Addr) (cb : Nat) (lb : List UInt8) (hs : Sl w ob lb) (og : Option Addr) (cc : Nat) (lc : List UInt8) (hby : By W0.heap.size w og cc lc) (hN : lp.length = N) (hN6 : N ≤ 65536) (hno : ¬ (k = 1 ∧ m = n ∧ lb = la ∧ lc = zn N 3)) :
    Calls Try.prog 19 #[.pointer (some ⟨V, 0, none⟩), hv (nameL k), .int .i64 m, .slice ob lb.length cb, .slice og lc.length cc] w fun e w' => e = .returned (.tuple #[.slice none 0 0, .int .i64 20]) ∧ Sg W0 w' V B8 B9 g cg N (L4s n la lp) ∧ Below w.heap.size w w' := by
  obtain ⟨G, c, M, hv⟩ := h.ag.va
  refine (open_c hv (small4 (by omega)) (by simp) k (by simpa using hk) m hm ob og cb cc lb lc hs hby).mono ?_
  rintro e w' ⟨⟨S, gx, cx, ho, rfl, hb⟩ | ⟨_, rfl⟩, hbe⟩
  · obtain ⟨a1, a2, a3, _, a5⟩ := op_iff.1 ho
    rw [hN] at a5
    exact absurd ⟨a1, a2, a3, a5⟩ hno
  · exact ⟨rfl, h.bel hbe, hbe⟩
end
end Go.Proofs.Ythhoknkdmmldbaa
