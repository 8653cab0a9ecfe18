/- outbox: the bytes that a piece has. -/
import Derived.Test.YtfgfomkhlhiiiaaObN
import Derived.Maps.AppendAt
namespace Go.Proofs.YtfgfomkhlhiiiaaR
open Go.RowKit Go.Shelf Go.Lib Go.Maps
set_option linter.unusedVariables false

theorem step_append_run {P : Program} {ops : Array Oper} {o : Oper} {a : Act} {w : World} {K : Act → World → Prop} {Q : Exit → Act → World → Prop} {E : Prop}
    (hg : o.guard = none) (d x : Operand) (dT sT : TypeId) (hop : o.op = Op.call { callee := Callee.builtin Builtin.append, args := #[d, x], argTypes := #[dT, sT] })
    (v u : Value) (hd : a.eval d = v) (hx : a.eval x = u) {v' : Value} {w' : World} (hr : (Builtin.append_ #[dT, sT] o.type #[v, u]).run P w = .ok v' w') (hK : K (a.put o.dst v') w') :
    if Region.wanted o (yielded ops a.tmps) = true then Oper.wp P o a w K Q else E := by
  have hw : Region.wanted o (yielded ops a.tmps) = true := by simp [Region.wanted, hg]
  rw [if_pos hw]
  unfold Oper.wp
  simp [execOp, hop, resolve, invoke, builtin, hd, hx, hr, Result.andThen]
  exact hK

/-- Bytes as values. -/
def bs (l : List UInt8) : List Value := l.map (fun x => .int .u8 (x.toNat : Int))
theorem bs_len (l : List UInt8) : (bs l).length = l.length := by simp [bs]
theorem bs_one (l : List UInt8) : ∀ u ∈ bs l, u.oneCell' = true := by
  intro u hu
  obtain ⟨x, _, rfl⟩ := List.mem_map.1 hu
  rfl
theorem info5 : (Try.prog.info? 5).map (fun i => (i.zero, i.size, i.bytes)) = some (some (.int .u8 0), 1, 1) := by kernel_rfl
theorem inf5 : ∃ i, Try.prog.info? 5 = some i ∧ i.zero = some (.int .u8 0) ∧ i.size = 1 ∧ i.bytes = 1 := by
  have h := info5
  cases hi : Try.prog.info? 5 with
  | none => rw [hi] at h; cases h
  | some i =>
    rw [hi] at h
    simp only [Option.map_some, Option.some.injEq, Prod.mk.injEq] at h
    exact ⟨i, rfl, h.1, h.2.1, h.2.2⟩

/-- Some bytes of a row, put behind nothing. -/
theorem run_copied (w : World) (ty : TypeId) (g n cp k m cc : Nat) (T : List UInt8) (h : w.ownsRow 0 5 1 (.slice (some ⟨g, 0, none⟩) n cp) n (bs T)) (hk : k + m ≤ n) (hm : 0 < m) (hn : n ≤ 4611686018427387903) (hn2 : n ≤ 140737488355328) :
    ∃ v' w', (Builtin.append_ #[32, 32] ty #[.slice none 0 0, .slice (some ⟨g, k, none⟩) m cc]).run Try.prog w = .ok v' w' ∧ w'.ownsRow w.heap.size 5 1 v' m (bs ((T.drop k).take m)) ∧ Below w.heap.size w w' := by
  have hT : T.length = n := by have := h.1; rw [bs_len] at this; omega
  obtain ⟨i5, hi5, hz5, hs5, hb5⟩ := inf5
  have hcell : ∀ j u, (bs ((T.drop k).take m))[j]? = some u → w.cell? ((⟨g, k, none⟩ : Addr).add j) = some u := by
    intro j u hu
    have hj : j < m := by
      have := (List.getElem?_eq_some_iff.1 hu).1
      rw [bs_len, List.length_take] at this
      omega
    have := h.cells (g := g) rfl (k + j) u (by
      rw [← hu]
      simp [bs, hj])
    have e : (⟨g, k, none⟩ : Addr).add j = (⟨g, 0, none⟩ : Addr).add (k + j) := by
      simp only [Addr.add]
      by_cases j0 : j = 0
      · subst j0
        by_cases k0 : k = 0
        · subst k0; simp
        · simp [k0]
      · simp [j0]
    rw [e]
    exact this
  obtain ⟨v', w', h1, h2, h3, _⟩ := run_append_own_at (P := Try.prog) w w.heap.size 32 ty 5 i5 (.int .u8 0) 1 1 Try.underlying32 hi5 hz5 hs5 hb5 rfl (by decide) (.slice none 0 0) 0 [] (World.ownsRow_nil w _ _ _) ⟨g, k, none⟩ m cc (bs ((T.drop k).take m)) (by rw [bs_len, List.length_take, List.length_drop]; omega) hcell (bs_one _) (by unfold maxLen; omega) (by omega) (Nat.le_refl _)
  rw [Nat.zero_add, List.nil_append] at h2
  exact ⟨v', w', h1, h2, h3.os, h3.tape, h3.output, h3.size, fun k hk => h3.block k hk (by simp [Value.ownBlock])⟩

set_option maxRecDepth 100000 in
theorem copied_ob (w : World) (b g n cp : Nat) (fr to_ base : Int) (T : List UInt8) (h : w.ownsRow 0 5 1 (.slice (some ⟨g, 0, none⟩) n cp) n (bs T)) (c1 : w.cell? ⟨b, 1, none⟩ = some (.slice (some ⟨g, 0, none⟩) n cp)) (c2 : w.cell? ⟨b, 2, none⟩ = some (.int .i64 base)) (h0 : 0 ≤ base) (h1 : base ≤ fr) (h2 : fr < to_) (h3 : to_ ≤ base + n) (hb : base + n ≤ 4611686018427387903) (hn2 : n ≤ 140737488355328) :
    Calls Try.prog 29 #[.pointer (some ⟨b, 0, none⟩), .int .i64 fr, .int .i64 to_] w fun e w' => ∃ v', e = .returned v' ∧ w'.ownsRow w.heap.size 5 1 v' (to_ - fr).toNat (bs ((T.drop (fr - base).toNat).take (to_ - fr).toNat)) ∧ Below w.heap.size w w' := by
  obtain ⟨k, hk⟩ : ∃ k : Nat, fr - base = (k : Int) := ⟨(fr - base).toNat, by omega⟩
  obtain ⟨q, hq⟩ : ∃ q : Nat, to_ - base = (q : Int) := ⟨(to_ - base).toNat, by omega⟩
  have hm : (to_ - fr).toNat = q - k := by omega
  have hcap : n ≤ cp := by
    rcases h.2 with ⟨h', _⟩ | ⟨g', cap, cur, h', _, _, hc, _⟩
    · cases h'
    · cases h'; exact hc
  have hcm : cp ≤ maxLen := by
    rcases h.2 with ⟨h', _⟩ | ⟨g', cap, cur, h', _, _, hc, hx, _⟩
    · cases h'
    · cases h'; exact hx
  have hrun := fun ty cc => run_copied w.drew ty g n cp k (q - k) cc T h (by omega) (by omega) (by omega) hn2
  rw [hm, show (fr - base).toNat = k by omega]
  have e1 : IntKind.i64.wrap (k : Int) = (k : Int) := by rw [IntKind.wrap_i64]; omega
  have e2 : IntKind.i64.wrap (q : Int) = (q : Int) := by rw [IntKind.wrap_i64]; omega
  have e3 : max (q : Int) 0 = (q : Int) := by omega
  have z1 : k ≤ q := by omega
  have z2 : q ≤ cp := by omega
  have z3 : ¬ cp = k := by omega
  have HR : Aside _ := hrun
  clear hrun h hcm
  go_enter Try.func29, Try.ntmps29
  go_wp2_with fail
  have mixed : Try.prog.follows Departure.mixedOrders = true := by kernel_rfl
  obtain ⟨v', w2, hr2, hown, hbel⟩ := HR.out 32 (cp - k)
  have HO : Aside _ := hown
  have HB : Aside _ := hbel
  clear hown hbel
  go_region_law_o (refine step_append_run rfl _ _ 32 32 rfl _ _ rfl (by simp [Act.eval, Act.put]) hr2 ?_)
  all_goals try go_wp2
  all_goals go_ret
  all_goals exact ⟨v', rfl, HO.out, HB.out.os, HB.out.tape, HB.out.output, HB.out.size, HB.out.block⟩

end Go.Proofs.YtfgfomkhlhiiiaaR
