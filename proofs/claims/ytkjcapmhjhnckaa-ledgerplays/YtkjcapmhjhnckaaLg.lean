/- ledger: a ledger as it lies; what a call may turn of it; none, take, New, Flight. -/
import Derived.Test.YtkjcapmhjhnckaaMp
import Derived.Test.YtkjcapmhjhnckaaNob
namespace Go.Proofs.Ytkjcapmhjhnckaa
open Go.RowKit Go.Maps
set_option linter.unusedVariables false
set_option maxRecDepth 100000

/-- A ledger: those from the first on its way on, with a mark at each that is; all numbers that were sent; the greatest that arrived; now; the size, and how many eliciting, on their way; when the last eliciting one was sent. -/
structure Ls where
  O : List (Pk × Bool)
  T : List (Int × Int)
  g : Int
  t : Int
  z : Int
  c : Int
  d : Int
/-- Where it lies. -/
structure Ad where
  b : Nat
  mb : Nat
  o : Option Addr
  oc : Nat
  s : Option Addr
  sc : Nat
  m : Nat
def fl (T : List (Int × Int)) : List Value := T.flatMap fun x => [.int .i64 x.1, .int .i64 x.2]
def ns (O : List (Pk × Bool)) : List Value := O.map fun x => .int .i64 x.1.n
theorem ns_len (O : List (Pk × Bool)) : (ns O).length = O.length := by simp [ns]
theorem fl_len (T : List (Int × Int)) : (fl T).length = T.length * 2 := by
  induction T with
  | nil => rfl
  | cons x t ih => simp only [fl, List.flatMap_cons, List.length_append, List.length_cons, List.length_nil] at ih ⊢; omega
theorem ns_un (q : Pk → Bool) (O : List (Pk × Bool)) : ns (un q O) = ns O := by simp [ns, un, List.map_map, Function.comp_def]
theorem un_len (q : Pk → Bool) (O : List (Pk × Bool)) : (un q O).length = O.length := by simp [un]
def Ls.cs (A : Ad) (L : Ls) : Array Value := #[.map (some A.mb), .slice A.o L.O.length A.oc, .slice A.s L.T.length A.sc, .int .i64 L.g, .int .i64 L.t, .int .i64 L.z, .int .i64 L.c, .int .i64 L.d]
/-- The ledger as it lies. -/
structure Lg (W : World) (A : Ad) (L : Ls) : Prop where
  hb : W.heap[A.b]? = some (.cells (L.cs A) 65 (0, 0))
  mp : Mp W A.mb A.m L.O
  ord : Rw 3 1 W A.o L.O.length A.oc (ns L.O)
  snt : Rw 50 2 W A.s L.T.length A.sc (fl L.T)
def Ad.own (A : Ad) (k : Nat) : Prop := k = A.b ∨ k = A.mb ∨ Blk A.o k ∨ Blk A.s k
/-- What a call may turn: what is the ledger's, and what is new. -/
structure Stp (A A' : Ad) (W W' : World) : Prop where
  b : A'.b = A.b
  chg : Chg A.own W W'
  own : ∀ k, A'.own k → A.own k ∨ W.heap.size ≤ k
theorem Stp.refl (A : Ad) (W : World) : Stp A A W W := ⟨rfl, Chg.refl _ _, fun _ h => .inl h⟩
theorem Stp.trans {A B C : Ad} {W X Y : World} (h : Stp A B W X) (k : Stp B C X Y) : Stp A C W Y :=
  ⟨k.b.trans h.b, h.chg.andThen k.chg (fun j hj hb => (h.own j hb).resolve_right (by omega)), fun j hj => by
    rcases k.own j hj with h1 | h1
    · exact h.own j h1
    · exact .inr (Nat.le_trans h.chg.2.2.2.1 h1)⟩
theorem Stp.below {A B : Ad} {W X Y : World} (h : Stp A B W X) (k : Below X.heap.size X Y) : Stp A B W Y := ⟨h.b, h.chg.below k, h.own⟩
theorem Stp.of_below {A : Ad} {W X : World} (k : Below W.heap.size W X) : Stp A A W X := (Stp.refl A W).below k
/-- What is not the ledger's stays. -/
theorem Stp.keep {A B : Ad} {W X : World} (h : Stp A B W X) {j : Nat} {o : Obj} (hj : W.heap[j]? = some o) (ho : ¬ A.own j) : X.heap[j]? = some o ∧ ¬ B.own j :=
  ⟨h.chg.blk hj ho, fun hb => by
    rcases h.own j hb with h1 | h1
    · exact ho h1
    · have := (Array.getElem?_eq_some_iff.1 hj).1; omega⟩
/-- From where on the ledger is new. -/
theorem Stp.toBelow {A B : Ad} {W X : World} {n : Nat} (h : Stp A B W X) (hn : n ≤ W.heap.size) (ha : ∀ k, A.own k → n ≤ k) : Below n W X ∧ ∀ k, B.own k → n ≤ k :=
  ⟨h.chg.toBelow hn (fun k hk ho => by have := ha k ho; omega), fun k hk => by
    rcases h.own k hk with h1 | h1
    · exact ha k h1
    · omega⟩
section
variable {W W' : World} {A : Ad} {L L' : Ls}
theorem Lg.blk (h : Lg W A L) : A.b < W.heap.size := (Array.getElem?_eq_some_iff.1 h.hb).1
theorem Lg.lt (h : Lg W A L) {k : Nat} (hk : A.own k) : k < W.heap.size := by
  rcases hk with rfl | rfl | hk | hk
  · exact h.blk
  · exact h.mp.lt
  · exact h.ord.lt hk
  · exact h.snt.lt hk
theorem Lg.bm (h : Lg W A L) : A.b ≠ A.mb := fun e => by
  obtain ⟨es, cl, h1⟩ := h.mp.isMap
  rw [← e, h.hb] at h1
  cases h1
theorem Lg.bo (h : Lg W A L) : ¬ Blk A.o A.b := fun e => by
  obtain ⟨X, h1⟩ := h.ord.ty e
  rw [h.hb] at h1
  simp at h1
theorem Lg.bs (h : Lg W A L) : ¬ Blk A.s A.b := fun e => by
  obtain ⟨X, h1⟩ := h.snt.ty e
  rw [h.hb] at h1
  simp at h1
theorem Lg.mo (h : Lg W A L) : ¬ Blk A.o A.mb := fun e => by
  obtain ⟨X, h1⟩ := h.ord.ty e
  obtain ⟨es, cl, h2⟩ := h.mp.isMap
  rw [h2] at h1
  cases h1
theorem Lg.ms (h : Lg W A L) : ¬ Blk A.s A.mb := fun e => by
  obtain ⟨X, h1⟩ := h.snt.ty e
  obtain ⟨es, cl, h2⟩ := h.mp.isMap
  rw [h2] at h1
  cases h1
theorem Lg.os (h : Lg W A L) {j : Nat} (hj : Blk A.o j) : ¬ Blk A.s j := fun e => by
  obtain ⟨X, h1⟩ := h.snt.ty e
  obtain ⟨Y, h2⟩ := h.ord.ty hj
  rw [h2] at h1
  simp at h1
theorem Lg.keep (h : Lg W A L) (hk : ∀ k, A.own k → W'.heap[k]? = W.heap[k]?) : Lg W' A L :=
  ⟨(hk _ (.inl rfl)).trans h.hb, h.mp.kept (hk _ (.inr (.inl rfl))), h.ord.keep fun j hj => hk j (.inr (.inr (.inl hj))), h.snt.keep fun j hj => hk j (.inr (.inr (.inr hj)))⟩
theorem Lg.bel (h : Lg W A L) (hb : Below W.heap.size W W') : Lg W' A L := h.keep fun k hk => hb.block k (h.lt hk)
theorem Lg.chg (h : Lg W A L) {Y : Nat → Prop} (hc : Chg Y W W') (hy : ∀ k, A.own k → ¬ Y k) : Lg W' A L := h.keep fun k hk => hc.2.2.2.2 k (h.lt hk) (hy k hk)
theorem Lg.cell (h : Lg W A L) (j : Nat) : W.cell? ⟨A.b, j, none⟩ = (L.cs A)[j]? := by simp [World.cell?, h.hb]
theorem Lg.c0 (h : Lg W A L) : W.cell? ⟨A.b, 0, none⟩ = some (.map (some A.mb)) := h.cell 0
theorem Lg.c1 (h : Lg W A L) : W.cell? ⟨A.b, 1, none⟩ = some (.slice A.o L.O.length A.oc) := h.cell 1
theorem Lg.c2 (h : Lg W A L) : W.cell? ⟨A.b, 2, none⟩ = some (.slice A.s L.T.length A.sc) := h.cell 2
theorem Lg.c3 (h : Lg W A L) : W.cell? ⟨A.b, 3, none⟩ = some (.int .i64 L.g) := h.cell 3
theorem Lg.c4 (h : Lg W A L) : W.cell? ⟨A.b, 4, none⟩ = some (.int .i64 L.t) := h.cell 4
theorem Lg.c5 (h : Lg W A L) : W.cell? ⟨A.b, 5, none⟩ = some (.int .i64 L.z) := h.cell 5
theorem Lg.c6 (h : Lg W A L) : W.cell? ⟨A.b, 6, none⟩ = some (.int .i64 L.c) := h.cell 6
theorem Lg.c7 (h : Lg W A L) : W.cell? ⟨A.b, 7, none⟩ = some (.int .i64 L.d) := h.cell 7
theorem Lg.fz (h : Lg W A L) (j : Nat) : W.frozen? ⟨A.b, j, none⟩ = false := by simp [World.frozen?, h.hb]
/-- A number of the ledger set. -/
theorem Lg.set (h : Lg W A L) (j : Nat) (v : Value) (hcs : (L.cs A).setIfInBounds j v = L'.cs A) (hO : L'.O = L.O) (hT : L'.T = L.T) : Lg (W.setCell ⟨A.b, j, none⟩ v) A L' ∧ Stp A A W (W.setCell ⟨A.b, j, none⟩ v) := by
  rw [setCell_eq_setRow W A.b j _ 65 (0, 0) _ h.hb]
  have hot : ∀ k, k ≠ A.b → (W.setRow A.b ((L.cs A).setIfInBounds j v)).heap[k]? = W.heap[k]? := fun k hk => setRow_other W A.b k _ hk
  refine ⟨⟨?_, ?_, ?_, ?_⟩, rfl, Chg.setRow _ _ (.inl rfl), fun k hk => .inl hk⟩
  · rw [setRow_heap W A.b _ _ 65 (0, 0) h.hb, hcs]
  · rw [hO]; exact h.mp.kept (hot _ h.bm.symm)
  · rw [hO]; exact h.ord.keep fun k hk => hot k (fun e => h.bo (e ▸ hk))
  · rw [hT]; exact h.snt.keep fun k hk => hot k (fun e => h.bs (e ▸ hk))
/-- The map turned. -/
theorem Lg.map (h : Lg W A L) {O' : List (Pk × Bool)} {m : Nat} (hm : Mp W' A.mb m O') (hc : Chg (fun j => j = A.mb) W W') (hn : ns O' = ns L.O) : Lg W' { A with m := m } { L with O := O' } ∧ Stp A { A with m := m } W W' := by
  have hl : O'.length = L.O.length := by rw [← ns_len, hn, ns_len]
  refine ⟨⟨?_, hm, ?_, ?_⟩, rfl, hc.mono (fun k _ hk => .inr (.inl hk)), fun k hk => .inl hk⟩
  · have := hc.blk h.hb (fun e => h.bm e)
    rw [this]
    simp [Ls.cs, hl]
  · simp only [hl, hn]
    exact h.ord.chg hc (fun j hj e => h.mo (e ▸ hj))
  · exact h.snt.chg hc (fun j hj e => h.ms (e ▸ hj))
theorem none_c (h : Lg W A L) : Calls Try.prog 25 #[.pointer (some ⟨A.b, 0, none⟩)] W fun e w' => e = .returned (.bool false) ∧ w' = W := by
  have c0 := h.c0
  have q := fun w => q61 w (some A.mb)
  clear h
  go_enter Try.func25, Try.ntmps25
  go_wp2
  go_ret
  exact ⟨rfl, rfl⟩
theorem flight_c (h : Lg W A L) : Calls Try.prog 20 #[.pointer (some ⟨A.b, 0, none⟩)] W fun e w' => e = .returned (.tuple #[.int .i64 L.z, .int .i64 L.c, .int .i64 L.d]) ∧ Below W.heap.size W w' := by
  have c5 := h.c5
  have c6 := h.c6
  have c7 := h.c7
  have hn := none_c h
  clear h
  go_enter Try.func20, Try.ntmps20
  go_wp2_with fail
  refine hn.mono ?_
  rintro e w' ⟨rfl, hw⟩
  subst w'
  clear hn
  go_wp2_with fail
  go_quiet (fail)
  go_wp2
  refine bodyPost_ret (results_3 (fn := Try.f20) (a := 2) (b := 3) (c := 4) rfl _ _) rfl ?_
  exact ⟨rfl, below_drewN (Below.refl _ W) _⟩
end
/-- A ledger that New made. -/
def ls0 : Ls := ⟨[], [], -1, 0, 0, 0, 0⟩
theorem new_c (w : World) : Calls Try.prog 7 #[] w fun e w' => ∃ A, e = .returned (.pointer (some ⟨A.b, 0, none⟩)) ∧ Lg w' A ls0 ∧ Below w.heap.size w w' ∧ (∀ k, A.own k → w.heap.size ≤ k) ∧ A.m = 0 := by
  have hmm : ∀ w : World, (Instr.makeMap 61 none).run Try.prog w = .ok (.map (some w.heap.size)) (w.alloc (.map #[] 0)) := fun w => rfl
  go_enter Try.func7, Try.ntmps7
  go_wp2
  go_ret
  refine ⟨⟨w.heap.size + 1, w.heap.size, none, 0, none, 0, 0⟩, rfl, ⟨?_, ?_, ?_, ?_⟩, bel_trans (bel1 w _) (bel1 _ _), ?_, rfl⟩
  · have := heap_alloc_new (w.alloc (.map #[] 0)) (.cells (ls0.cs ⟨w.heap.size + 1, w.heap.size, none, 0, none, 0, 0⟩) 65)
    rw [World.size_alloc] at this
    exact this
  · exact (Mp.made w).kept (Below.heap_alloc _ _ _ (by simp))
  · exact Rw.nil _ _ _
  · exact Rw.nil _ _ _
  · rintro k (rfl | rfl | h | h)
    · simp
    · simp
    · exact h.no.elim
    · exact h.no.elim
end Go.Proofs.Ytkjcapmhjhnckaa
