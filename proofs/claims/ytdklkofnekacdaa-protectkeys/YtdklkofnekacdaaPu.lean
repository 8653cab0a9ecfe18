/- ProtectSteps: the first keys. -/
import Derived.Test.YtdklkofnekacdaaPt
namespace Go.Proofs.Ytdklkofnekacdaa
open Go.RowKit Go.Shelf Go.Lib
set_option linter.unusedVariables false

abbrev t1 (l : List UInt8) : Tm := ⟨2, 0, 0, bInit, ⟨l.toArray⟩⟩
abbrev La (l : List UInt8) : List Tm := [rt, t1 l, dt 1 bCli, dt 2 bKey, dt 2 bMask]
abbrev Lc (l : List UInt8) : List Tm := [rt, t1 l, dt 1 bCli, dt 2 bKey, dt 2 bMask, dt 1 bSer, dt 5 bKey, dt 5 bMask]
section
variable {W0 w w' : World} {V : Nat} {L : List Tm} {l : List UInt8}
theorem Ag.newK (h : Ag W0 w V L) (hle : L.length ≤ 1000000) : Calls Try.prog 18 #[.pointer (some ⟨V, 0, none⟩)] w fun e w' => e = .returned (hv (nameL L.length)) ∧ Ag W0 w' V (L ++ [fr]) ∧ Kc w w' := by
  obtain ⟨G, c, M, hv⟩ := h.va
  refine (fresh_c hv hle).mono ?_
  rintro e w' ⟨rfl, G', c', h1, h2, h3⟩
  exact ⟨rfl, ⟨h.bel.trans (h2.bel hv), G', c', M, h1⟩, Kc.of_vc h2 hv⟩
theorem nil_sl (w : World) : Sl w none [] := fun j hj => absurd hj (by simp)
theorem init_a (h : Ag W0 w V [rt]) (o : Option Addr) (cp : Nat) (hS : Sl W0 o l) (hl : l.length ≤ 20) : Calls Try.prog 8 #[.pointer (some ⟨V, 0, none⟩), .slice o l.length cp, .bool false] w fun e w' => e = .returned (.tuple #[hv (nameL 2 ++ nameL 3 ++ nameL 4), .int .i64 0]) ∧ Ag W0 w' V (La l) ∧ Kc w w' :=
  initial_false (L1 := [rt, t1 l]) (L2 := [rt, t1 l, dt 1 bCli]) h (by simp) o l.length cp hl 1 2 _ (by simp [nameL_len])
    (fun X hX => hX.der (by simp) 0 (by simp) bInit (by decide) (by decide) o cp l (hS.bel hX.bel) (by simp))
    (fun X hX => hX.der (by simp) 1 (by simp) bCli (by decide) (by decide) none 0 [] (nil_sl _) (by simp))
    (fun X hX => make_c hX (by simp) 2 (by simp) (by simp) (by simp))
theorem one_t1 (l : List UInt8) (i : Nat) : (La l)[i]? = some (t1 l) ↔ i = 1 := by
  constructor
  · intro h
    have hl := (List.getElem?_eq_some_iff.1 h).1
    simp at hl
    rcases (show i = 0 ∨ i = 1 ∨ i = 2 ∨ i = 3 ∨ i = 4 by omega) with rfl | rfl | rfl | rfl | rfl <;> simp at h ⊢
  · rintro rfl; rfl
theorem init_b (h : Ag W0 w V (La l)) (o : Option Addr) (cp : Nat) (hS : Sl W0 o l) (hl : l.length ≤ 20) : Calls Try.prog 8 #[.pointer (some ⟨V, 0, none⟩), .slice o l.length cp, .bool true] w fun e w' => e = .returned (.tuple #[hv (nameL 5 ++ nameL 6 ++ nameL 7), .int .i64 0]) ∧ Ag W0 w' V (Lc l) ∧ Kc w w' :=
  initial_true (L1 := La l) (L2 := La l ++ [dt 1 bSer]) h (by simp) o l.length cp hl 1 5 _ (by simp [nameL_len])
    (fun X hX => hX.der_old (by simp) 0 (by simp) bInit (by decide) (by decide) o cp l (hS.bel hX.bel) 1 (one_t1 l))
    (fun X hX => hX.der (by simp) 1 (by simp) bSer (by decide) (by decide) none 0 [] (nil_sl _) (by
      intro hm
      simp only [List.mem_cons, List.not_mem_nil, or_false] at hm
      rcases hm with h | h | h | h | h
      · cases h
      · exact lb13 (un_eq h).symm
      · exact lb14 (un_eq h).symm
      · exact lb11 (un_eq h)
      · exact lb12 (un_eq h)))
    (fun X hX => make_c hX (by simp) 5 (by simp) (by simp) (by simp))
theorem make_8 (h : Ag W0 w V (Lc l ++ [fr])) : Calls Try.prog 13 #[.pointer (some ⟨V, 0, none⟩), hv (nameL 8)] w fun e w' => e = .returned (.tuple #[hv (kk 0), .int .i64 0]) ∧ Ag W0 w' V (LL l 0) ∧ Kc w w' := by
  have := make_c h (by simp) 8 (by simp) (by simp) (by simp)
  exact this
end
theorem fold_zip (l : List Value) : ∀ (n : Nat) (A : Array Value), n + l.length ≤ A.size → ((l.zipIdx n).foldl (fun (cs : Array Value) (x : Value × Nat) => cs.setIfInBounds x.snd x.fst) A).toList = A.toList.take n ++ l ++ A.toList.drop (n + l.length) := by
  induction l with
  | nil => intro n A h; simp
  | cons v l ih =>
    intro n A h
    simp only [List.length_cons] at h
    rw [List.zipIdx_cons, List.foldl_cons, ih (n + 1) _ (by simp; omega)]
    have e1 : (A.setIfInBounds n v).toList.take (n + 1) = A.toList.take n ++ [v] := by
      rw [Array.toList_setIfInBounds, List.take_succ_eq_append_getElem (by simp; omega), List.take_set_of_le (Nat.le_refl _)]
      simp
    have e2 : (A.setIfInBounds n v).toList.drop (n + 1 + l.length) = A.toList.drop (n + (l.length + 1)) := by
      rw [Array.toList_setIfInBounds, List.drop_set_of_lt (by omega), show n + 1 + l.length = n + (l.length + 1) by omega]
    simp only [List.length_cons]
    rw [e1, e2]
    simp
theorem fold48 {K : List UInt8} (h : K.length = 48) : List.foldl (fun (cs : Array Value) (x : Value × Nat) => cs.setIfInBounds x.snd x.fst) #[.int .u8 0, .int .u8 0, .int .u8 0, .int .u8 0, .int .u8 0, .int .u8 0, .int .u8 0, .int .u8 0, .int .u8 0, .int .u8 0, .int .u8 0, .int .u8 0, .int .u8 0, .int .u8 0, .int .u8 0, .int .u8 0, .int .u8 0, .int .u8 0, .int .u8 0, .int .u8 0, .int .u8 0, .int .u8 0, .int .u8 0, .int .u8 0, .int .u8 0, .int .u8 0, .int .u8 0, .int .u8 0, .int .u8 0, .int .u8 0, .int .u8 0, .int .u8 0, .int .u8 0, .int .u8 0, .int .u8 0, .int .u8 0, .int .u8 0, .int .u8 0, .int .u8 0, .int .u8 0, .int .u8 0, .int .u8 0, .int .u8 0, .int .u8 0, .int .u8 0, .int .u8 0, .int .u8 0, .int .u8 0] (hl K).zipIdx = (hl K).toArray := by
  apply Array.toList_inj.1
  rw [fold_zip (hl K) 0 _ (by simp [h])]
  simp [h]
section
variable {ops : Array Oper} {rest : List Oper} {o : Oper} {a : Act} {w : World} {Q : Exit → Act → World → Prop}
theorem ldmg (hw : Region.wanted o (yielded ops a.tmps) = true) (x : Operand) (ho : o.op = .load 29 x) (b off : Nat) (hx : a.eval x = .pointer (some ⟨b, off, none⟩)) (cs : List Value) (hc : w.rangeAt b off cs) (hi : (Try.prog.info? 29).map (·.size) = some cs.length)
    (h : wpList Try.prog ops Q rest (a.put o.dst (.agg cs.toArray)) w) : wpList Try.prog ops Q (o :: rest) a w :=
  wpList_step fun K hK => by
    simp only [hw, if_true]
    exact wp_load_mid 29 x ho b off hx cs _ hc hu28 rfl hi (hK _ _ h)
theorem ld33g (hw : Region.wanted o (yielded ops a.tmps) = true) (x : Operand) (ho : o.op = .load 33 x) (g : Nat) (hx : a.eval x = .pointer (some ⟨g, 0, none⟩)) (H : List UInt8) (hg : w.heap[g]? = some (.cells (hl H).toArray 33 (0, 0))) (hs : H.length = 48)
    (h : wpList Try.prog ops Q rest (a.put o.dst (hv H)) w) : wpList Try.prog ops Q (o :: rest) a w :=
  wpList_step fun K hK => by
    simp only [hw, if_true]
    exact wp_load_row 33 x ho g hx 33 _ (0, 0) _ hg u33 rfl (hi33.trans (by simp [hs])) (hK _ _ h)
end
theorem nne {i j : Nat} (h : i ≠ j) (hi : i < 1000) (hj : j < 1000) : (nameL i == nameL j) = false := by
  have : nameL i ≠ nameL j := fun e => h (name_inj (by omega) (by omega) e)
  simpa using this
theorem eqF {i j : Nat} (h : i ≠ j) (hi : i < 1000) (hj : j < 1000) (X : World) : (Op.equalIn 10000 29 (.agg (hl (nameL i)).toArray) (.agg (hl (nameL j)).toArray)).run Try.prog X = .ok false X := by
  have := equalIn_h 29 hu28 9998 (nameL i) (nameL j) (nameL_len _) (nameL_len _) X
  rw [nne h hi hj] at this
  exact this
theorem eqT' (i : Nat) (X : World) : (Op.equalIn 10000 29 (.agg (hl (nameL i)).toArray) (.agg (hl (nameL i)).toArray)).run Try.prog X = .ok true X := by
  have := equalIn_h 29 hu28 9998 (nameL i) (nameL i) (nameL_len _) (nameL_len _) X
  rw [beq_self_eq_true] at this
  exact this
theorem eq33 (X : World) : (Op.equalIn 10000 33 (.agg (hl (nameL 2 ++ nameL 3 ++ nameL 4)).toArray) (.agg (hl (nameL 5 ++ nameL 6 ++ nameL 7)).toArray)).run Try.prog X = .ok false X := by
  kernel_rfl
end Go.Proofs.Ytdklkofnekacdaa
