/- HelloStream: the bytes and the ends as they lie. -/
import Derived.Test.YtcchlicokglmnaaSq
import Derived.Laws.OwnMore
namespace Go.Proofs.Ytcchlicokglmnaa
open Go.ChangeShapes Go.WideShapes Go.ChangeAt Go.RowKit Go.Lib
set_option linter.unusedVariables false

def iv (zs : List Nat) : List Value := zs.map (fun z : Nat => Value.int .i64 (z : Int))
/-- A row of ints of one's own. -/
def Iy (n : Nat) (X : World) (v : Value) (zs : List Nat) : Prop := X.ownsRow n 3 1 v zs.length (iv zs)
/-- Nothing turns but blocks of ints that are not older than n. -/
structure Gi (n : Nat) (w w' : World) : Prop where
  os : w'.os = w.os
  tape : w'.tape = w.tape
  output : w'.output = w.output
  size : w.heap.size ≤ w'.heap.size
  block : ∀ k, k < w.heap.size → (k < n ∨ ∀ cs fr, w.heap[k]? ≠ some (.cells cs 3 fr)) → w'.heap[k]? = w.heap[k]?
theorem Gi.below {n : Nat} {w w' : World} (h : Gi n w w') (hn : n ≤ w.heap.size) : Below n w w' :=
  ⟨h.os, h.tape, h.output, h.size, fun k hk => h.block k (by omega) (.inl hk)⟩
theorem By.gi {n m : Nat} {X X' : World} {v : Value} {l : List UInt8} (h : By n X v l) (g : Gi m X X') : By n X' v l := by
  obtain ⟨h1, h2 | ⟨k, cap, cur, e, h3, h4, h5⟩⟩ := h
  · exact ⟨h1, .inl h2⟩
  · exact ⟨h1, .inr ⟨k, cap, cur, e, h3, (g.block k (lt_block h4) (.inr fun cs fr q => by rw [h4] at q; injection q with q; injection q with _ q _; cases q)).trans h4, h5⟩⟩
theorem Iy.gq {n m : Nat} {X X' : World} {v : Value} {zs : List Nat} (h : Iy n X v zs) (g : Gq m X X') : Iy n X' v zs := by
  obtain ⟨h1, h2 | ⟨k, cap, cur, e, h3, h4, h5⟩⟩ := h
  · exact ⟨h1, .inl h2⟩
  · exact ⟨h1, .inr ⟨k, cap, cur, e, h3, (g.block k (lt_block h4) (.inr fun cs fr q => by rw [h4] at q; injection q with q; injection q with _ q _; cases q)).trans h4, h5⟩⟩
theorem Iy.bel {n : Nat} {X X' : World} {v : Value} {zs : List Nat} (h : Iy n X v zs) (hb : Below X.heap.size X X') : Iy n X' v zs := h.gq (m := n) (Gq.of_below hb)
theorem own_val3 {B n : Nat} {w : World} {v : Value} {xs : List Value} (h : w.ownsRow B 3 1 v n xs) : ∃ o c, v = .slice o n c := by
  obtain ⟨_, ⟨h, h2⟩ | ⟨g, cap, cur, h, _⟩⟩ := h
  · exact ⟨none, 0, by rw [h, h2]⟩
  · exact ⟨_, _, h⟩
theorem inf3 : ∃ i, Try.prog.info? 3 = some i ∧ i.zero = some (.int .i64 0) ∧ i.size = 1 ∧ i.bytes = 8 := by
  have : (Try.prog.info? 3).map (fun i => (i.zero, i.size, i.bytes)) = some (some (.int .i64 0), 1, 8) := by kernel_rfl
  cases h : Try.prog.info? 3 with
  | none => rw [h] at this; cases this
  | some i =>
    rw [h] at this
    simp only [Option.map_some, Option.some.injEq, Prod.mk.injEq] at this
    exact ⟨i, rfl, this.1, this.2.1, this.2.2⟩
set_option maxRecDepth 10000 in
theorem app_i {n : Nat} {X : World} {o : Option Addr} {c : Nat} {zs : List Nat} (h : Iy n X (.slice o zs.length c) zs) (hn : n ≤ X.heap.size) (z : Nat) (hl : zs.length ≤ 1000000) :
    ∃ o' c' X', (Builtin.append_ #[46, 46] 46 #[.slice o zs.length c, .slice (some ⟨X.heap.size, 0, none⟩) 1 1]).run Try.prog (X.alloc (.cells #[.int .i64 (z : Int)] 3)) = .ok (.slice o' (zs ++ [z]).length c') X' ∧ Iy n X' (.slice o' (zs ++ [z]).length c') (zs ++ [z]) ∧ Gi n X X' := by
  obtain ⟨i0, hi, hz0, hz1, hz2⟩ := inf3
  have hb := bl1 X (.cells #[.int .i64 (z : Int)] 3)
  have h' : Iy n (X.alloc (.cells #[.int .i64 (z : Int)] 3)) (.slice o zs.length c) zs := h.bel hb
  have hnew := heap_alloc_new X (.cells #[.int .i64 (z : Int)] 3)
  obtain ⟨v', w', hrun, hown', hgr, _, _⟩ := run_append_own_at (P := Try.prog) (X.alloc (.cells #[.int .i64 (z : Int)] 3)) n 46 46 3 i0 (.int .i64 0) 1 8 Try.underlying46 hi hz0 hz1 hz2 rfl (by decide) _ _ _ h' ⟨X.heap.size, 0, none⟩ 1 1 [.int .i64 (z : Int)] rfl (fun j u hu => by
    have hj := (List.getElem?_eq_some_iff.1 hu).1
    simp at hj
    subst hj
    rw [Addr.add_lit]
    simp only [World.cell?, hnew]
    simpa using hu) (by simp [Value.oneCell']) (by unfold maxLen; omega) (by omega) (Nat.le_trans hn hb.size)
  have hown2 : w'.ownsRow n 3 1 v' (zs ++ [z]).length (iv (zs ++ [z])) := by
    have e : iv (zs ++ [z]) = iv zs ++ [.int .i64 (z : Int)] := by simp [iv]
    rw [e, List.length_append]
    exact hown'
  obtain ⟨o', c', rfl⟩ := own_val3 hown2
  refine ⟨o', c', w', hrun, hown2, hgr.os.trans hb.os, hgr.tape.trans hb.tape, hgr.output.trans hb.output, Nat.le_trans hb.size hgr.size, fun k hk hc => ?_⟩
  refine (hgr.block k (Nat.lt_of_lt_of_le hk hb.size) ?_).trans (hb.block k hk)
  intro e
  obtain ⟨_, ⟨hv, _⟩ | ⟨g, cap, cur, he, k1, k2, k3⟩⟩ := h
  · rw [hv] at e; simp [Value.ownBlock] at e
  · rw [he] at e
    simp [Value.ownBlock] at e
    subst e
    rcases hc with hc | hc
    · omega
    · exact hc _ _ k2
/-- The ends of all. -/
def En (gs : List Msg) : List Nat := (List.range gs.length).map fun i => enA gs (i + 1)
theorem En_len (gs : List Msg) : (En gs).length = gs.length := by simp [En]
theorem En_app (gs : List Msg) (m : Msg) : En (gs ++ [m]) = En gs ++ [(All (gs ++ [m])).length] := by
  unfold En
  rw [List.length_append, List.length_singleton, List.range_succ, List.map_append]
  congr 1
  · apply List.map_congr_left
    intro i hi
    rw [List.mem_range] at hi
    unfold enA
    rw [List.take_append_of_le_length (by omega)]
  · simp only [List.map_cons, List.map_nil]
    unfold enA
    rw [List.take_of_length_le (by simp)]
/-- The law's state. -/
structure Lo (w X : World) (gs : List Msg) (o5 : Option Addr) (c5 : Nat) (o6 : Option Addr) (c6 : Nat) : Prop where
  bel : Below w.heap.size w X
  by5 : By w.heap.size X (.slice o5 (All gs).length c5) (All gs)
  iy6 : Iy w.heap.size X (.slice o6 gs.length c6) (En gs)
  ok : ∀ g ∈ gs, putE g = 0 ∧ g.len
section
variable {w X X' : World} {gs : List Msg} {o5 : Option Addr} {c5 : Nat} {o6 : Option Addr} {c6 : Nat}
theorem Lo.start (w : World) : Lo w w [] none 0 none 0 := ⟨Below.refl _ _, ⟨rfl, .inl ⟨rfl, rfl⟩⟩, ⟨rfl, .inl ⟨rfl, rfl⟩⟩, fun g h => by cases h⟩
theorem Lo.go (h : Lo w X gs o5 c5 o6 c6) (hb : Below X.heap.size X X') : Lo w X' gs o5 c5 o6 c6 :=
  ⟨h.bel.trans (hb.mono h.bel.size), By.below h.by5 hb, h.iy6.bel hb, h.ok⟩
/-- One more message. -/
theorem Lo.push (h : Lo w X gs o5 c5 o6 c6) (m : Msg) (h0 : putE m = 0) (hm : m.len) (hl : gs.length ≤ 100) (bo : Option Addr) (bc' : Nat) (hs : Sl X bo (putL m)) (hn : bo = none → (putL m).length = 0 ∧ bc' = 0) :
    ∃ o5' c5' X1 o6' c6' X2, (Builtin.append_ #[25, 25] 25 #[.slice o5 (All gs).length c5, .slice bo (putL m).length bc']).run Try.prog X = .ok (.slice o5' (All (gs ++ [m])).length c5') X1 ∧
      (Builtin.append_ #[46, 46] 46 #[.slice o6 gs.length c6, .slice (some ⟨X1.heap.size, 0, none⟩) 1 1]).run Try.prog (X1.alloc (.cells #[.int .i64 ((All (gs ++ [m])).length : Int)] 3)) = .ok (.slice o6' (gs ++ [m]).length c6') X2 ∧ Lo w X2 (gs ++ [m]) o5' c5' o6' c6' := by
  have hA := All_len h.ok
  have hP := putL_len h0 hm
  have hB := bodyS_len m hm
  obtain ⟨o5', c5', X1, r1, b1, g1⟩ := app_g h.by5 h.bel.size bo bc' (putL m) hs hn (by omega)
  have e : All gs ++ putL m = All (gs ++ [m]) := by rw [All_app, All_one]
  rw [e] at r1 b1
  have i1 := h.iy6.gq g1
  rw [← En_len gs] at i1
  obtain ⟨o6', c6', X2, r2, b2, g2⟩ := app_i i1 (Nat.le_trans h.bel.size g1.size) (All (gs ++ [m])).length (by rw [En_len]; omega)
  have e2 : (En gs ++ [(All (gs ++ [m])).length]).length = (gs ++ [m]).length := by simp [En_len]
  rw [e2] at r2 b2
  rw [En_len] at r2
  refine ⟨o5', c5', X1, o6', c6', X2, r1, r2, ?_, b1.gi g2, by rw [En_app]; exact b2, ?_⟩
  · have q1 := h.bel.trans (g1.below h.bel.size (Nat.le_refl _))
    exact q1.trans (g2.below q1.size)
  · intro g hg
    rcases List.mem_append.1 hg with hg | hg
    · exact h.ok g hg
    · rw [List.mem_singleton.1 hg]; exact ⟨h0, hm⟩
theorem Lo.end (h : Lo w X gs o5 c5 o6 c6) (i : Nat) (hi : i < gs.length) : ∃ g, o6 = some ⟨g, 0, none⟩ ∧ X.cell? ⟨g, i, none⟩ = some (.int .i64 (enA gs (i + 1) : Int)) := by
  have h6 := h.iy6
  have hj : (iv (En gs))[i]? = some (.int .i64 (enA gs (i + 1) : Int)) := by simp [iv, En, hi]
  obtain ⟨_, ⟨_, hv⟩ | ⟨g, cap, cur, he, k1, k2, k3⟩⟩ := id h6
  · rw [En_len] at hv; omega
  · injection he with he _ _
    subst he
    refine ⟨g, rfl, ?_⟩
    have := World.ownsRow.cells (g := g) h6 rfl i _ hj
    rw [Addr.add_lit] at this
    simpa using this
/-- What is read of the row that is cut at k. -/
theorem Lo.read (h : Lo w X gs o5 c5 o6 c6) (k : Nat) (hk : k ≤ (All gs).length) (hg : gs.length ≤ 100) (a : Int) : Calls Try.prog 13 #[.slice o5 k c5, .int .i64 a] X (ReadR ((All gs).take k) a X) := by
  obtain ⟨hs, _⟩ := By.sl h.by5
  obtain ⟨hc1, hc2⟩ := h.by5.cap
  have hA := All_len h.ok
  have hl : ((All gs).take k).length = k := by rw [List.length_take]; omega
  have hs' : Sl X o5 ((All gs).take k) := by
    intro j hj
    have hj' : j < (All gs).length := by omega
    obtain ⟨b, off, e, hc⟩ := hs j hj'
    exact ⟨b, off, e, by rw [hc]; simp⟩
  have := read_c (a := a) (c := c5) hs' (by omega) (by omega) hc2
  rw [hl] at this
  exact this
theorem Lo.cap (h : Lo w X gs o5 c5 o6 c6) : (All gs).length ≤ c5 := h.by5.cap.1
end
end Go.Proofs.Ytcchlicokglmnaa
