/- streams: rows of ints; the map of streams; number. -/
import Derived.Test.YtijndpjdmiljkaaGreatDoorSj
import Derived.Laws.OwnMore
import Derived.Maps.AppendAt
namespace Go.Proofs.YtijndpjdmiljkaaGreatDoor
open Go.ChangeShapes Go.WideShapes Go.ChangeAt Go.RowKit Go.Maps
set_option linter.unusedVariables false
set_option maxRecDepth 100000

/-- A row of ints of one's own. -/
def iv (zs : List Int) : List Value := zs.map (Value.int .i64)
def Iy (n : Nat) (X : World) (v : Value) (zs : List Int) : Prop := X.ownsRow n 3 1 v zs.length (iv zs)
/-- Nothing turns but blocks of ints that are not older than n. -/
structure Gi (n : Nat) (w w' : World) : Prop where
  os : w'.os = w.os
  tape : w'.tape = w.tape
  output : w'.output = w.output
  size : w.heap.size ≤ w'.heap.size
  block : ∀ k, k < w.heap.size → (k < n ∨ ∀ cs fr, w.heap[k]? ≠ some (.cells cs 3 fr)) → w'.heap[k]? = w.heap[k]?
theorem Gi.below {n : Nat} {w w' : World} (h : Gi n w w') (hn : n ≤ w.heap.size) : Below n w w' :=
  ⟨h.os, h.tape, h.output, h.size, fun k hk => h.block k (by omega) (.inl hk)⟩
theorem Iy.nil (n : Nat) (X : World) : Iy n X (.slice none 0 0) [] := ⟨rfl, .inl ⟨rfl, rfl⟩⟩
theorem Iy.keep {n : Nat} {X X' : World} {v : Value} {zs : List Int} (h : Iy n X v zs) (g : ∀ k, k < X.heap.size → n ≤ k → (∃ cs, X.heap[k]? = some (.cells cs 3 (0, 0))) → X'.heap[k]? = X.heap[k]?) : Iy n X' v zs := by
  obtain ⟨h1, h2 | ⟨k, cap, cur, e, h3, h4, h5⟩⟩ := h
  · exact ⟨h1, .inl h2⟩
  · exact ⟨h1, .inr ⟨k, cap, cur, e, h3, (g k ((Array.getElem?_eq_some_iff.1 h4).1) h3 ⟨_, h4⟩).trans h4, h5⟩⟩
theorem Iy.bel {n : Nat} {X X' : World} {v : Value} {zs : List Int} (h : Iy n X v zs) (hb : Below X.heap.size X X') : Iy n X' v zs := h.keep (fun k hk _ _ => hb.block k hk)
theorem own_val3 {B n : Nat} {w : World} {v : Value} {xs : List Value} (h : w.ownsRow B 3 1 v n xs) : ∃ o c, v = .slice o n c := by
  obtain ⟨_, ⟨h, h2⟩ | ⟨g, cap, cur, h, _⟩⟩ := h
  · exact ⟨none, 0, by rw [h, h2]⟩
  · exact ⟨_, _, h⟩
theorem Iy.at {n : Nat} {X : World} {o : Option Addr} {c : Nat} {zs : List Int} (h : Iy n X (.slice o zs.length c) zs) (i : Nat) (hi : i < zs.length) : ∃ g, o = some ⟨g, 0, none⟩ ∧ X.cell? ⟨g, i, none⟩ = some (.int .i64 zs[i]) := by
  obtain ⟨_, ⟨_, h2⟩ | ⟨g, cap, cur, e, k1, k2, k3, k4, k5, k6⟩⟩ := h
  · omega
  · simp only [Value.slice.injEq] at e
    refine ⟨g, e.1, ?_⟩
    have h6 : cur.toList.take zs.length = iv zs := by rw [Nat.mul_one] at k6; exact k6
    have h7 : (cur.toList.take zs.length)[i]? = (iv zs)[i]? := by rw [h6]
    rw [List.getElem?_take, if_pos hi] at h7
    have h8 : cur[i]? = cur.toList[i]? := by simp
    simp only [World.cell?, k2]
    rw [show (cur[i]? : Option Value) = _ from h8, h7]
    simp [iv, List.getElem?_eq_getElem hi]
theorem inf3 : ∃ i, Tryz.prog.info? 3 = some i ∧ i.zero = some (.int .i64 0) ∧ i.size = 1 ∧ i.bytes = 8 := by
  have : (Tryz.prog.info? 3).map (fun i => (i.zero, i.size, i.bytes)) = some (some (.int .i64 0), 1, 8) := by kernel_rfl
  cases h : Tryz.prog.info? 3 with
  | none => rw [h] at this; cases this
  | some i =>
    rw [h] at this
    simp only [Option.map_some, Option.some.injEq, Prod.mk.injEq] at this
    exact ⟨i, rfl, this.1, this.2.1, this.2.2⟩
theorem app_i {n : Nat} {X : World} {o : Option Addr} {c : Nat} {zs : List Int} (h : Iy n X (.slice o zs.length c) zs) (hn : n ≤ X.heap.size) (z : Int) (hl : zs.length ≤ 15638572500000) :
    ∃ o' c' X', (Builtin.append_ #[45, 45] 45 #[.slice o zs.length c, .slice (some ⟨X.heap.size, 0, none⟩) 1 1]).run Tryz.prog (X.alloc (.cells #[.int .i64 z] 3)) = .ok (.slice o' (zs ++ [z]).length c') X' ∧ Iy n X' (.slice o' (zs ++ [z]).length c') (zs ++ [z]) ∧ Gi n X X' := by
  obtain ⟨i0, hi, hz0, hz1, hz2⟩ := inf3
  have hb := bel1 X (.cells #[.int .i64 z] 3)
  have h' : Iy n (X.alloc (.cells #[.int .i64 z] 3)) (.slice o zs.length c) zs := h.bel hb
  have hnew := heap_alloc_new X (.cells #[.int .i64 z] 3)
  obtain ⟨v', w', hrun, hown', hgr, _, _⟩ := run_append_own_at (P := Tryz.prog) (X.alloc (.cells #[.int .i64 z] 3)) n 45 45 3 i0 (.int .i64 0) 1 8 Tryz.underlying45 hi hz0 hz1 hz2 rfl (by decide) _ _ _ h' ⟨X.heap.size, 0, none⟩ 1 1 [.int .i64 z] rfl (fun j u hu => by
    have hj := (List.getElem?_eq_some_iff.1 hu).1
    simp at hj
    subst hj
    rw [Addr.add_lit]
    simp only [World.cell?, hnew]
    simpa using hu) (by simp [Value.oneCell']) (by unfold maxLen; omega) (by omega) (Nat.le_trans hn hb.size)
  have hown2 : w'.ownsRow n 3 1 v' (zs ++ [z]).length (iv (zs ++ [z])) := by
    have e : iv (zs ++ [z]) = iv zs ++ [.int .i64 z] := by simp [iv]
    rw [e, List.length_append]
    exact hown'
  obtain ⟨o', c', rfl⟩ := own_val3 hown2
  refine ⟨o', c', w', hrun, hown2, hgr.os.trans hb.os, hgr.tape.trans hb.tape, hgr.output.trans hb.output, Nat.le_trans hb.size hgr.size, fun k hk hc => ?_⟩
  refine (hgr.block k (Nat.lt_of_lt_of_le hk hb.size) ?_).trans (hb.block k hk)
  intro e
  obtain ⟨_, ⟨hv, _⟩ | ⟨g, cap, cur, he, k1, k2, k3⟩⟩ := h
  · rw [hv] at e; simp [Value.ownBlock] at e
  · rw [he] at e
    simp [Value.ownBlock] at e
    subst e
    rcases hc with hc | hc
    · omega
    · exact hc _ _ k2

/-- The map of streams: what it holds at each number. -/
def Sm (W : World) (sb n : Nat) (F : Int → Value) : Prop :=
  ∃ D : DataW Value, W.ownsMap Tryz.prog 3 Rv sb n D ∧ IsMap D ∧ ∀ a : Int, 0 ≤ a → a ≤ 4611686018427387903 → D.atKey (.int .i64 a) (.held (.pointer none)) = .held (F a)
theorem wfi {a : Int} (h0 : 0 ≤ a) (h1 : a ≤ 4611686018427387903) : (Lit.int .i64 a).wf = true := by
  simp only [Lit.wf, IntKind.min, IntKind.max, IntKind.signed, IntKind.bits, Bool.and_eq_true, decide_eq_true_eq, if_true]
  omega
theorem zeroSP (w : World) : (zeroValue 107).run Tryz.prog w = .ok (.pointer none) w := by kernel_rfl
theorem Sm.lt {W : World} {sb n : Nat} {F : Int → Value} (h : Sm W sb n F) : sb < W.heap.size := by
  obtain ⟨D, h, _⟩ := h
  exact h.lt
theorem Sm.kept {W W' : World} {sb n : Nat} {F : Int → Value} (h : Sm W sb n F) (hb : W'.heap[sb]? = W.heap[sb]?) : Sm W' sb n F := by
  obtain ⟨D, ⟨es, clock, h1, h2, h3, h4⟩, hI, hat⟩ := h
  exact ⟨D, ⟨es, clock, hb.trans h1, h2, h3, h4⟩, hI, hat⟩
theorem Sm.look {W : World} {sb n : Nat} {F : Int → Value} (h : Sm W sb n F) (a : Int) (h0 : 0 ≤ a) (h1 : a ≤ 4611686018427387903) :
    (Instr.lookup 80 (.map (some sb)) (.int .i64 a) false).run Tryz.prog W = .ok (F a) W := by
  obtain ⟨D, hD, _, hat⟩ := h
  obtain ⟨v, ps, hrun, hv⟩ := hD.lookup law3 Tryz.underlying80 (zeroSP W) (zd := .held (.pointer none)) (zp := []) rfl (keyOf_int_mk Tryz.underlying3 (wfi h0 h1))
  rw [hat a h0 h1] at hv
  simp only [Rv, Option.some.injEq, Prod.mk.injEq, DataW.held.injEq] at hv
  rw [hrun, hv.1]
theorem Sm.put {W : World} {sb n : Nat} {F : Int → Value} (h : Sm W sb n F) (a : Int) (h0 : 0 ≤ a) (h1 : a ≤ 4611686018427387903) (hn : n < 9000000000000000000) (v : Value) :
    ∃ W', (Instr.mapUpdate 80 (.map (some sb)) (.int .i64 a) v).run Tryz.prog W = .ok () W' ∧ Sm W' sb (n + 1) (fun b => if b = a then v else F b) ∧ Chg (fun j => j = sb) W W' := by
  obtain ⟨D, hD, hI, hat⟩ := h
  obtain ⟨W', hrun, h1', h2⟩ := hD.update law3 Tryz.underlying80 (by unfold maxLen; omega) (keyOf_int_mk Tryz.underlying3 (wfi h0 h1)) (show Rv v = some (.held v, []) from rfl)
  refine ⟨W', hrun, ⟨_, h1', hI.put _ _, fun b b0 b1 => ?_⟩, ⟨h2.os, h2.tape, h2.output, h2.size, fun k hk hx => h2.block k hk (by simpa using hx)⟩⟩
  by_cases e : b = a
  · subst e
    simp only [if_true]
    exact atKey_put_same hI (show WideAt.IsKeyLit (.int .i64 _) from trivial) _ _
  · rw [atKey_put_other (by intro e'; injection e' with _ e'; exact e e'), hat b b0 b1]
    show _ = DataW.held (if b = a then v else F b)
    rw [if_neg e]
theorem Sm.made {W : World} {sb : Nat} (h : W.heap[sb]? = some (.map #[] 0)) : Sm W sb 0 (fun _ => .pointer none) := by
  have hlt := (Array.getElem?_eq_some_iff.1 h).1
  refine ⟨.map [], ?_, ⟨_, rfl⟩, fun a _ _ => rfl⟩
  have := World.ownsMap_made (H := Value) W Tryz.prog 3 Rv
  obtain ⟨es, clock, q1, q2, q3, q4⟩ := this
  rw [heap_alloc_new] at q1
  simp only [Option.some.injEq, Obj.map.injEq] at q1
  obtain ⟨rfl, rfl⟩ := q1
  exact ⟨#[], 0, h, q2, q3, q4⟩
theorem or_nat (a b : Nat) (ha : a < 4611686018427387904) (hb : b < 4611686018427387904) : bits .or .i64 (a : Int) (b : Int) = ((a ||| b : Nat) : Int) := by
  refine (bits_nat .i64 62 (by decide) (fun n h0 h1 => ?_) a b (by simpa using ha) (by simpa using hb)).2
  rw [IntKind.wrap_i64]
  have : (2 : Int) ^ 62 = 4611686018427387904 := by decide
  omega
theorem or_join (p b : Nat) (hb : b < 4) : 4 * p ||| b = 4 * p + b := by
  have := Nat.two_pow_add_eq_or_of_lt (i := 2) hb p
  simpa using this.symm
theorem number_c (p : Nat) (s u : Bool) (w : World) (hp : p < 1000000000000000000) : Calls Tryz.prog 48 #[.int .i64 (p : Int), .bool s, .bool u] w fun e w' => e = .returned (.int .i64 (sid p s u)) ∧ w' = w := by
  have f0 : wrap64 ((p : Int) * 4) = ((4 * p : Nat) : Int) := by
    unfold wrap64
    omega
  have f1 : bits .or .i64 ((4 * p : Nat) : Int) 1 = ((4 * p + 1 : Nat) : Int) := by
    rw [show (1 : Int) = ((1 : Nat) : Int) from rfl, or_nat _ _ (by omega) (by decide), or_join p 1 (by decide)]
  have f2 : bits .or .i64 ((4 * p : Nat) : Int) 2 = ((4 * p + 2 : Nat) : Int) := by
    rw [show (2 : Int) = ((2 : Nat) : Int) from rfl, or_nat _ _ (by omega) (by decide), or_join p 2 (by decide)]
  have f3 : bits .or .i64 ((4 * p + 1 : Nat) : Int) 2 = ((4 * p + 3 : Nat) : Int) := by
    rw [show (2 : Int) = ((2 : Nat) : Int) from rfl, or_nat _ _ (by omega) (by decide)]
    rw [← or_join p 1 (by decide), Nat.or_assoc, show (1 ||| 2 : Nat) = 3 from rfl, or_join p 3 (by decide)]
  obtain ⟨a, ha⟩ : ∃ a : Int, a = ((4 * p : Nat) : Int) := ⟨_, rfl⟩
  obtain ⟨b, hb⟩ : ∃ a : Int, a = ((4 * p + 1 : Nat) : Int) := ⟨_, rfl⟩
  obtain ⟨c, hc⟩ : ∃ a : Int, a = ((4 * p + 2 : Nat) : Int) := ⟨_, rfl⟩
  obtain ⟨d, hd⟩ : ∃ a : Int, a = ((4 * p + 3 : Nat) : Int) := ⟨_, rfl⟩
  have s1 : a = sid p false false := by rw [ha]; simp [sid]
  have s2 : b = sid p true false := by rw [hb]; simp [sid]
  have s3 : c = sid p false true := by rw [hc]; simp [sid]
  have s4 : d = sid p true true := by rw [hd]; simp [sid]; omega
  rw [← ha] at f0 f1 f2
  rw [← hb] at f1 f3
  rw [← hc] at f2
  rw [← hd] at f3
  have HF : Hid (wrap64 ((p : Int) * 4) = a ∧ bits .or .i64 a 1 = b ∧ bits .or .i64 a 2 = c ∧ bits .or .i64 b 2 = d) := ⟨f0, f1, f2, f3⟩
  have HS : Hid (a = sid p false false ∧ b = sid p true false ∧ c = sid p false true ∧ d = sid p true true) := ⟨s1, s2, s3, s4⟩
  clear ha hb hc hd s1 s2 s3 s4 hp f0 f1 f2 f3
  cases s <;> cases u
  all_goals
    go_enter Tryz.func48, Tryz.ntmps48
    go_wp2
    go_ret
    refine ⟨?_, rfl⟩
    obtain ⟨s1, s2, s3, s4⟩ := HS.out
    obtain ⟨f0, f1, f2, f3⟩ := HF.out
    first
      | (show Ending.returned (.int .i64 (wrap64 ((p : Int) * 4))) = _; rw [f0, s1])
      | (show Ending.returned (.int .i64 (bits .or .i64 (wrap64 ((p : Int) * 4)) 2)) = _; rw [f0, f2, s3])
      | (show Ending.returned (.int .i64 (bits .or .i64 (wrap64 ((p : Int) * 4)) 1)) = _; rw [f0, f1, s2])
      | (show Ending.returned (.int .i64 (bits .or .i64 (bits .or .i64 (wrap64 ((p : Int) * 4)) 1) 2)) = _; rw [f0, f1, f3, s4])
end Go.Proofs.YtijndpjdmiljkaaGreatDoor
