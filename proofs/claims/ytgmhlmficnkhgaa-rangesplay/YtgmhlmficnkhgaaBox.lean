/- A list of spans in a variable of its own: one span is laid behind it in a round of a loop over a set. -/
import Derived.Test.YtgmhlmficnkhgaaOrd
namespace Go.Proofs.Ytgmhlmficnkhgaa
open Go.RowKit Go.Shelf Go.Lib
set_option linter.unusedVariables false

attribute [local go_sem] Oper.semAt_some

/-- A variable that holds a list of spans. -/
def Bx (W : World) (Ls : Nat) (o : Option Addr) (c : Nat) (L : List (Int × Int)) : Prop := W.heap[Ls]? = some (.cells #[.slice o L.length c] 26 (0, 0)) ∧ Rs W o c L ∧ c ≤ maxLen
theorem Bx.lt {W : World} {Ls : Nat} {o : Option Addr} {c : Nat} {L : List (Int × Int)} (h : Bx W Ls o c L) : Ls < W.heap.size := (Array.getElem?_eq_some_iff.1 h.1).1
theorem Bx.cell {W : World} {Ls : Nat} {o : Option Addr} {c : Nat} {L : List (Int × Int)} (h : Bx W Ls o c L) : W.cell? ⟨Ls, 0, none⟩ = some (.slice o L.length c) := by simp [World.cell?, h.1]
theorem Bx.row {W : World} {Ls : Nat} {o : Option Addr} {c : Nat} {L : List (Int × Int)} (h : Bx W Ls o c L) (k : Nat) (hk : o = some ⟨k, 0, none⟩) : ∃ X, W.heap[k]? = some (.cells X 50 (0, 0)) := by
  rcases h.2.1 with ⟨h', _⟩ | ⟨g, R, h', hA, _⟩
  · rw [h'] at hk; cases hk
  · rw [h'] at hk
    obtain rfl : g = k := by simpa using hk
    exact ⟨_, hA⟩
theorem Bx.ne {W : World} {Ls : Nat} {o : Option Addr} {c : Nat} {L : List (Int × Int)} (h : Bx W Ls o c L) : o ≠ some ⟨Ls, 0, none⟩ := by
  intro e
  obtain ⟨X, hX⟩ := h.row Ls e
  have := h.1.symm.trans hX
  simp at this
theorem Bx_kept {A B : World} {row : Option Nat} {n S c : Nat} {o : Option Addr} {L : List (Int × Int)} (h : Bx A S o c L) (hg : A.grownBy B row) (hr : ∀ r, row = some r → n ≤ r ∧ ∃ o : Obj, A.heap[r]? = some o ∧ o.isCells = false) : Bx B S o c L := by
  refine ⟨kept_cells h.1 hg hr, ?_, h.2.2⟩
  rcases h.2.1 with h' | ⟨g, R, ho, hA, hR⟩
  · exact .inl h'
  · exact .inr ⟨g, R, ho, kept_cells hA hg hr, hR⟩

/-- One span behind the list. -/
theorem push_box (W : World) (Ls cc : Nat) (oc : Option Addr) (pre : List (Int × Int)) (x y : Int) (h : Bx W Ls oc cc pre) (hsz : pre.length ≤ 65536) :
    ∃ g c' w3, (∀ ty, (Builtin.append_ #[26, 26] ty #[.slice oc pre.length cc, .slice (some ⟨W.heap.size, 0, none⟩) 1 1]).run Try.prog (W.alloc (.cells #[.int .i64 x, .int .i64 y] 50)) = .ok (.slice (some ⟨g, 0, none⟩) (pre.length + 1) c') w3) ∧
      Chg (fun k => oc = some ⟨k, 0, none⟩) W w3 ∧ w3.cell? ⟨Ls, 0, none⟩ = some (.slice oc pre.length cc) ∧ w3.frozen? ⟨Ls, 0, none⟩ = false ∧
      Bx (w3.setCell ⟨Ls, 0, none⟩ (.slice (some ⟨g, 0, none⟩) (pre.length + 1) c')) Ls (some ⟨g, 0, none⟩) c' (pre ++ [(x, y)]) ∧
      Chg (fun k => k = Ls ∨ oc = some ⟨k, 0, none⟩) W (w3.setCell ⟨Ls, 0, none⟩ (.slice (some ⟨g, 0, none⟩) (pre.length + 1) c')) ∧ (some ⟨g, 0, none⟩ = oc ∨ W.heap.size ≤ g) := by
  have hT : At (W.alloc (.cells #[.int .i64 x, .int .i64 y] 50)) W.heap.size (fl [(x, y)] ++ []) := at_alloc W _
  have hC0 : Chg (fun k => oc = some ⟨k, 0, none⟩) W (W.alloc (.cells #[.int .i64 x, .int .i64 y] 50)) := (Chg.refl _ W).alloc _
  obtain ⟨g, c', w3, hrun, hr, hm, hch, hg⟩ : ∃ g c' w3, (∀ ty, (Builtin.append_ #[26, 26] ty #[.slice oc pre.length cc, .slice (some ⟨W.heap.size, 0, none⟩) 1 1]).run Try.prog (W.alloc (.cells #[.int .i64 x, .int .i64 y] 50)) = .ok (.slice (some ⟨g, 0, none⟩) (pre.length + 1) c') w3) ∧ Rs w3 (some ⟨g, 0, none⟩) c' (pre ++ [(x, y)]) ∧ c' ≤ maxLen ∧ Chg (fun k => oc = some ⟨k, 0, none⟩) W w3 ∧ (some ⟨g, 0, none⟩ = oc ∨ W.heap.size ≤ g) := by
    have hs : Src Try.prog 2 26 (.slice (some ⟨W.heap.size, 0, none⟩) 1 1) 1 (fl [(x, y)]) (W.alloc (.cells #[.int .i64 x, .int .i64 y] 50)) := src2 _ ⟨W.heap.size, 0, none⟩ 1 [(x, y)] (At.src (A := []) hT rfl)
    by_cases hroom : pre.length + 1 ≤ cc
    · rcases h.2.1 with ⟨rfl, rfl, rfl⟩ | ⟨g, R, rfl, hA, hR⟩
      · simp at hroom
      · have hA' : At (W.alloc (.cells #[.int .i64 x, .int .i64 y] 50)) g (fl pre ++ R) := At.alloc (w := W) hA _
        have hrun := fun ty => run_append2_room _ ty g pre.length cc _ _ 1 [(x, y)] hA' hs hroom (by simp; omega) rfl
        refine ⟨g, cc, _, hrun, .inr ⟨g, R.drop 2, rfl, ?_, by simp; omega⟩, h.2.2, hC0.set g _ (.inl rfl), .inl rfl⟩
        have e := over_eq (X := fl pre ++ R) (P := fl pre) (Q := R.take 2) (S := R.drop 2) (M := fl [(x, y)]) (o := pre.length * 2) (by rw [List.append_assoc, List.take_append_drop]) (by simp) (by simp [fl]; omega)
        rw [e, fl_append]
        exact hA'.set _
    · have hb : (oc = none ∧ pre = []) ∨ ∃ g X, oc = some ⟨g, 0, none⟩ ∧ At (W.alloc (.cells #[.int .i64 x, .int .i64 y] 50)) g (fl pre ++ X) := by
        rcases h.2.1 with ⟨h1, h2, _⟩ | ⟨g, R, h1, h2, _⟩
        · exact .inl ⟨h1, h2⟩
        · exact .inr ⟨g, R, h1, At.alloc (w := W) h2 _⟩
      obtain ⟨c', hc', hrun0, hmax⟩ := run_append2_grow (W.alloc (.cells #[.int .i64 x, .int .i64 y] 50)) 26 oc pre.length cc pre [(x, y)] _ 1 rfl rfl hb hs (by omega) (by omega)
      refine ⟨_, c', _, fun ty => hrun0, .inr ⟨_, zs (c' - (pre.length + 1)), rfl, ?_, by simp; omega⟩, hmax, (hC0.drew).alloc _, .inr (by simp)⟩
      rw [fl_append]
      exact at_alloc _ _
  refine ⟨g, c', w3, hrun, hch, ?_⟩
  have hS : w3.heap[Ls]? = some (.cells #[.slice oc pre.length cc] 26 (0, 0)) := (hch.2.2.2.2 Ls h.lt (fun e => h.ne e)).trans h.1
  refine ⟨by simp [World.cell?, hS], by simp [World.frozen?, hS], ⟨?_, ?_, hm⟩, ?_, hg⟩
  · rw [setCell_eq_setRow w3 Ls 0 _ 26 (0, 0) _ hS, setRow_heap w3 Ls _ _ 26 (0, 0) hS]
    simp
  · rw [setCell_eq_setRow w3 Ls 0 _ 26 (0, 0) _ hS]
    rcases hr with ⟨h', _⟩ | ⟨q, R, hq, hA, hR⟩
    · cases h'
    · refine .inr ⟨q, R, hq, At.other hA _ ?_, hR⟩
      rintro rfl
      have := hS.symm.trans hA
      simp at this
  · rw [setCell_eq_setRow w3 Ls 0 _ 26 (0, 0) _ hS]
    exact (hch.mono (fun k _ hk => .inr hk)).set Ls _ (.inl (.inl rfl))

/-- What stands between two rounds of a loop that collects a set's spans. -/
def BoxI (w : World) (Ls : Nat) (pre : List (Int × Int)) (W : World) : Prop :=
  (∃ oc cc, Bx W Ls oc cc pre ∧ (∀ g, oc = some ⟨g, 0, none⟩ → w.heap.size ≤ g)) ∧ Chg (fun k => k = Ls) w W
theorem chg_kept {w A B : World} {X : Nat → Prop} {row : Option Nat} {n : Nat} (h : Chg X w A) (hn : w.heap.size ≤ n) (hg : A.grownBy B row) (hr : ∀ r, row = some r → n ≤ r ∧ ∃ o : Obj, A.heap[r]? = some o ∧ o.isCells = false) : Chg X w B :=
  ⟨hg.os.trans h.1, hg.tape.trans h.2.1, hg.output.trans h.2.2.1, Nat.le_trans h.2.2.2.1 hg.size, fun k hk hx => (hg.block k (Nat.lt_of_lt_of_le hk h.2.2.2.1) (fun e => by have := (hr k e.symm).1; omega)).trans (h.2.2.2.2 k hk hx)⟩
theorem BoxI_own (w : World) (Ls n : Nat) (hn : w.heap.size ≤ n) : OwnFrom n (BoxI w Ls) := by
  rintro s A B row ⟨⟨oc, cc, h1, h2⟩, h4⟩ hg hr
  exact ⟨⟨oc, cc, Bx_kept h1 hg hr, h2⟩, chg_kept h4 hn hg hr⟩
theorem box_body {w W : World} {Ls cc c' g : Nat} {oc : Option Addr} {pre L' : List (Int × Int)} {w' : World} (hS : Bx W Ls oc cc pre) (hown : ∀ g, oc = some ⟨g, 0, none⟩ → w.heap.size ≤ g) (hb : Chg (fun k => k = Ls) w W)
    (h1 : Bx w' Ls (some ⟨g, 0, none⟩) c' L') (h2 : Chg (fun k => k = Ls ∨ oc = some ⟨k, 0, none⟩) W w') (h3 : some ⟨g, 0, none⟩ = oc ∨ W.heap.size ≤ g) (n₀ : Nat) :
    KeepsFrom n₀ W w' ∧ Kq (fun k => k = Ls) ⟨Ls, 0, none⟩ W w' ∧ BoxI w Ls L' w' := by
  refine ⟨⟨h2.2.2.2.1, fun k o _ hk ho => ?_⟩, ⟨h2.2.2.2.1, fun k A t hk hx hn => ?_, fun k n c hk e => ?_⟩, ⟨_, c', h1, ?_⟩, ?_⟩
  · refine (h2.2.2.2.2 k (Array.getElem?_eq_some_iff.1 hk).1 ?_).trans hk
    rintro (rfl | e)
    · rw [hS.1] at hk; cases hk; simp [Obj.isCells] at ho
    · obtain ⟨X, hX⟩ := hS.row k e
      rw [hX] at hk; cases hk; simp [Obj.isCells] at ho
  · refine h2.2.2.2.2 k (Array.getElem?_eq_some_iff.1 hk).1 ?_
    rintro (rfl | e)
    · exact hx rfl
    · exact hn _ _ (e ▸ hS.cell)
  · rw [h1.cell] at e
    obtain ⟨rfl, rfl, rfl⟩ : g = k ∧ L'.length = n ∧ c' = c := by simpa using e
    rcases h3 with h3 | hl
    · exact ⟨_, _, h3 ▸ hS.cell⟩
    · omega
  · intro q hq
    obtain rfl : g = q := by simpa using hq
    rcases h3 with h3 | hl
    · exact hown g h3.symm
    · exact Nat.le_trans hb.2.2.2.1 hl
  · refine ⟨h2.1.trans hb.1, h2.2.1.trans hb.2.1, h2.2.2.1.trans hb.2.2.1, Nat.le_trans hb.2.2.2.1 h2.2.2.2.1, fun k hk hx => (h2.2.2.2.2 k (Nat.lt_of_lt_of_le hk hb.2.2.2.1) ?_).trans (hb.2.2.2.2 k hk hx)⟩
    rintro (e | e)
    · exact hx e
    · have := hown k e; omega
/-- An append in a round, by its run. -/
theorem wpListIn_append_run {n l : Nat} {P : Program} {ops : Array Oper} {rest : List Oper} {o : Oper} {a : Act} {w : World} {Q : Exit → Act → World → Prop}
    (hg : o.guard = none) (d x : Operand) (dT sT : TypeId) (hop : o.op = Op.call { callee := Callee.builtin Builtin.append, args := #[d, x], argTypes := #[dT, sT] })
    (v u : Value) (hd : a.eval d = v) (hx : a.eval x = u) {v' : Value} {w' : World} (hr : (Builtin.append_ #[dT, sT] o.type #[v, u]).run P w = .ok v' w') (hK : wpListIn (Fence.wide.inRound l) n P ops Q rest (a.put o.dst v') w') :
    wpListIn (Fence.wide.inRound l) n P ops Q (o :: rest) a w :=
  wpListIn_plain hg fun K hK' => oper_round (by rw [hop]; intro c e; cases e) (by
    unfold Oper.wp
    simp [execOp, hop, resolve, invoke, builtin, hd, hx, hr, Result.andThen]
    exact hK' _ _ hK)
theorem neq50 (a b c d : Int) (w : World) : (binOp .neq 50 (.agg #[.int .i64 a, .int .i64 b]) (.agg #[.int .i64 c, .int .i64 d])).run Try.prog w = .ok (.bool (!(a == c && b == d))) w := by
  have u3 := Try.underlying3
  have a3 := Try.isAgg3
  have z3 := Try.sizeOf3
  have hS : Try.prog.underlying 50 = some (.struct (Try.prog.fieldsOf 50)) := by kernel_rfl
  have hp : Try.prog.stoodInHeld 50 = false := by kernel_rfl
  rw [run_neq_struct, show (10000 : Nat) = 9999 + 1 from rfl, run_equalIn_agg w 9999 50 _ _ hS hp]
  simp only [Program.fieldsOf, Try.underlying50]
  go_simp
  by_cases h1 : a = c <;> by_cases h2 : b = d <;> simp [h1, h2]
/-- The last number of spans that came. -/
def lastOf (pre : List (Int × Int)) : Int := (pre.getLast?.map (·.2)).getD (-2)
theorem lastOf_snoc (pre : List (Int × Int)) (x : Int × Int) : lastOf (pre ++ [x]) = x.2 := by simp [lastOf]
theorem lastOf_le {L pre : List (Int × Int)} {x : Int × Int} (hO : Ok L) (hp : pre ++ [x] <+: L) : lastOf pre + 2 ≤ x.1 ∧ x.1 ≤ x.2 ∧ -2 ≤ lastOf pre ∧ lastOf pre ≤ 4611686018427387903 := by
  obtain ⟨t, rfl⟩ := hp
  obtain ⟨h1, _, _⟩ := Ok_append.1 hO
  obtain ⟨h2, h3, h4⟩ := Ok_append.1 h1
  have hx := h3.2 x (by simp)
  unfold lastOf
  cases hl : pre.getLast? with
  | none => simp; omega
  | some p =>
    have hm : p ∈ pre := List.mem_of_getLast? hl
    have a := h4 p hm x (by simp)
    have b := h2.2 p hm
    simp
    omega
/-- What stands between two rounds of the loop that compares. -/
def CmpI (w : World) (Ib Lt : Nat) (L pre : List (Int × Int)) (W : World) : Prop :=
  pre <+: L ∧ W.heap[Ib]? = some (.cells #[.int .i64 pre.length] 3 (0, 0)) ∧ W.heap[Lt]? = some (.cells #[.int .i64 (lastOf pre)] 3 (0, 0)) ∧ Chg (fun k => k = Ib ∨ k = Lt) w W
theorem CmpI_own (w : World) (Ib Lt : Nat) (L : List (Int × Int)) (n : Nat) (hn : w.heap.size ≤ n) : OwnFrom n (CmpI w Ib Lt L) := by
  rintro s A B row ⟨h1, h2, h3, h4⟩ hg hr
  exact ⟨h1, kept_cells h2 hg hr, kept_cells h3 hg hr, chg_kept h4 hn hg hr⟩
theorem keeps_set {W : World} {b : Nat} {X : Array Value} {t : TypeId} (hb : W.heap[b]? = some (.cells X t (0, 0))) (Y : Array Value) (n₀ : Nat) : KeepsFrom n₀ W (W.setRow b Y) := by
  refine ⟨by simp, fun k o _ hk ho => ?_⟩
  by_cases e : k = b
  · subst e; rw [hb] at hk; cases hk; simp [Obj.isCells] at ho
  · exact (setRow_other W b k Y e).trans hk
theorem cmp_body {w6 W : World} {Ib Lt : Nat} {ys pre : List (Int × Int)} {xa xb : Int} (hne : Ib ≠ Lt) (hI : W.heap[Ib]? = some (.cells #[.int .i64 pre.length] 3 (0, 0))) (hLt : W.heap[Lt]? = some (.cells #[.int .i64 (lastOf pre)] 3 (0, 0)))
    (hcW : Chg (fun k => k = Ib ∨ k = Lt) w6 W) (hp : pre ++ [(xa, xb)] <+: ys) (n₀ : Nat) :
    KeepsFrom n₀ W ((W.drew.setCell ⟨Lt, 0, none⟩ (.int .i64 xb)).setCell ⟨Ib, 0, none⟩ (.int .i64 ((pre.length : Int) + 1))) ∧ Kq (fun k => k = Ib ∨ k = Lt) ⟨Ib, 0, none⟩ W ((W.drew.setCell ⟨Lt, 0, none⟩ (.int .i64 xb)).setCell ⟨Ib, 0, none⟩ (.int .i64 ((pre.length : Int) + 1))) ∧
      CmpI w6 Ib Lt ys (pre ++ [(xa, xb)]) ((W.drew.setCell ⟨Lt, 0, none⟩ (.int .i64 xb)).setCell ⟨Ib, 0, none⟩ (.int .i64 ((pre.length : Int) + 1))) := by
  have hL' : W.drew.heap[Lt]? = some (.cells #[.int .i64 (lastOf pre)] 3 (0, 0)) := hLt
  have hI' : W.drew.heap[Ib]? = some (.cells #[.int .i64 pre.length] 3 (0, 0)) := hI
  rw [setCell_eq_setRow W.drew Lt 0 _ 3 (0, 0) _ hL']
  have hI2 : (W.drew.setRow Lt (#[Value.int .i64 (lastOf pre)].setIfInBounds 0 (.int .i64 xb))).heap[Ib]? = some (.cells #[.int .i64 pre.length] 3 (0, 0)) := (setRow_other _ Lt Ib _ hne).trans hI'
  rw [setCell_eq_setRow _ Ib 0 _ 3 (0, 0) _ hI2]
  have hrest : ∀ k, k ≠ Ib → k ≠ Lt → ((W.drew.setRow Lt (#[Value.int .i64 (lastOf pre)].setIfInBounds 0 (.int .i64 xb))).setRow Ib (#[Value.int .i64 pre.length].setIfInBounds 0 (.int .i64 ((pre.length : Int) + 1)))).heap[k]? = W.heap[k]? := fun k h1 h2 => (setRow_other _ Ib k _ h1).trans (setRow_other _ Lt k _ h2)
  have hIn : ((W.drew.setRow Lt (#[Value.int .i64 (lastOf pre)].setIfInBounds 0 (.int .i64 xb))).setRow Ib (#[Value.int .i64 pre.length].setIfInBounds 0 (.int .i64 ((pre.length : Int) + 1)))).heap[Ib]? = some (.cells #[.int .i64 ((pre.length : Int) + 1)] 3 (0, 0)) := by
    rw [setRow_heap _ Ib _ _ 3 (0, 0) hI2]; simp
  refine ⟨⟨by simp, fun k o _ hk ho => ?_⟩, ⟨by simp, fun k A t hk hx _ => hrest k (fun e => hx (.inl e)) (fun e => hx (.inr e)), fun k n c hk e => ?_⟩, hp, ?_, ?_, ?_⟩
  · by_cases e1 : k = Ib
    · subst e1; rw [hI] at hk; cases hk; simp [Obj.isCells] at ho
    · by_cases e2 : k = Lt
      · subst e2; rw [hLt] at hk; cases hk; simp [Obj.isCells] at ho
      · exact (hrest k e1 e2).trans hk
  · unfold World.cell? at e
    rw [hIn] at e
    simp at e
  · rw [hIn]; simp
  · rw [lastOf_snoc, setRow_other _ Ib Lt _ (fun e => hne e.symm), setRow_heap _ Lt _ _ 3 (0, 0) hL']; simp
  · exact ⟨hcW.1, hcW.2.1, hcW.2.2.1, by simpa using hcW.2.2.2.1, fun k hk hx => (hrest k (fun e => hx (.inl e)) (fun e => hx (.inr e))).trans (hcW.2.2.2.2 k hk hx)⟩
/-- What stands behind both loops. -/
structure Fin (R : Nat) (w : World) (A B : Nat) (oa ob : Option Addr) (L : List (Int × Int)) (Ib M D1 D2 : Nat) (W : World) : Prop where
  o : Ob R w A B oa ob L L W
  i : W.heap[Ib]? = some (.cells #[.int .i64 M] 3 (0, 0))
  d1 : W.heap[D1]? = some (.deferred (some []))
  d2 : W.heap[D2]? = some (.deferred (some []))
theorem Fin.below {R : Nat} {w : World} {A B : Nat} {oa ob : Option Addr} {L : List (Int × Int)} {Ib M D1 D2 : Nat} {W W' : World} (h : Fin R w A B oa ob L Ib M D1 D2 W) (hb : Below W.heap.size W W') : Fin R w A B oa ob L Ib M D1 D2 W' :=
  ⟨h.o.below hb, (hb.block _ (Array.getElem?_eq_some_iff.1 h.i).1).trans h.i, (hb.block _ (Array.getElem?_eq_some_iff.1 h.d1).1).trans h.d1, (hb.block _ (Array.getElem?_eq_some_iff.1 h.d2).1).trans h.d2⟩
theorem keeps_set_drew {W : World} {b : Nat} {X : Array Value} {t : TypeId} (hb : W.heap[b]? = some (.cells X t (0, 0))) (Y : Array Value) (n₀ : Nat) : KeepsFrom n₀ W (W.drew.setRow b Y) := by
  refine ⟨by simp, fun k o _ hk ho => ?_⟩
  by_cases e : k = b
  · subst e; rw [hb] at hk; cases hk; simp [Obj.isCells] at ho
  · exact (setRow_other W.drew b k Y e).trans hk
theorem Fin.ends {w : World} {A B : Nat} {oa ob : Option Addr} {L : List (Int × Int)} {Ib M D1 D2 : Nat} {W : World} (h : Fin w.heap.size w A B oa ob L Ib M D1 D2 W) (h12 : D1 ≠ D2) (h1 : w.heap.size < D1) (h2 : w.heap.size < D2) :
    (W.setCell ⟨w.heap.size, 0, none⟩ (.bool true)).heap[D2]? = some (.deferred (some [])) ∧ ((W.setCell ⟨w.heap.size, 0, none⟩ (.bool true)).putObj D2 (.deferred none)).heap[D1]? = some (.deferred (some [])) ∧
    (((W.setCell ⟨w.heap.size, 0, none⟩ (.bool true)).putObj D2 (.deferred none)).putObj D1 (.deferred none)).cell? ⟨w.heap.size, 0, none⟩ = some (.bool true) ∧
    Below w.heap.size w (((W.setCell ⟨w.heap.size, 0, none⟩ (.bool true)).putObj D2 (.deferred none)).putObj D1 (.deferred none)) := by
  have hs := h.o.set (.bool true)
  have e : ∀ k, k ≠ w.heap.size → (W.setCell ⟨w.heap.size, 0, none⟩ (.bool true)).heap[k]? = W.heap[k]? := fun k hk => by
    rw [setCell_eq_setRow W w.heap.size 0 _ 4 (0, 0) _ h.o.box]
    exact setRow_other W _ k _ hk
  have k2 := (e D2 (by omega)).trans h.d2
  have k1 : ((W.setCell ⟨w.heap.size, 0, none⟩ (.bool true)).putObj D2 (.deferred none)).heap[D1]? = some (.deferred (some [])) := (World.putObj_heap_other (by omega)).trans ((e D1 (by omega)).trans h.d1)
  refine ⟨k2, k1, ?_, ?_⟩
  · rw [cell?_putObj_other _ (by show w.heap.size ≠ D1; omega), cell?_putObj_other _ (by show w.heap.size ≠ D2; omega)]
    exact hs.2
  · exact (hs.1.trans (belowK_b (w := w) (Nat.le_refl _) _ D2 _ _ (by omega) k2 rfl rfl)).trans (belowK_b (w := w) (Nat.le_refl _) _ D1 _ _ (by omega) k1 rfl rfl)
theorem wp_named {P : Program} {c : Code} {Q : Exit → Act → World → Prop} {t : Array Value} {ds : List Deferred} {w : World} (h : ∀ tm : Array Value, tm = t → Code.wp P c Q { tmps := tm, defers := ds } w) : Code.wp P c Q { tmps := t, defers := ds } w := h t rfl
end Go.Proofs.Ytgmhlmficnkhgaa
