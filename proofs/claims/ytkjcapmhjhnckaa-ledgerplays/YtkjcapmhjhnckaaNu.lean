/- ledger: the numbers that were sent: greatest, add, have. -/
import Derived.Test.YtkjcapmhjhnckaaLo
namespace Go.Proofs.Ytkjcapmhjhnckaa
open Go.RowKit Go.Maps Go.Shelf
set_option linter.unusedVariables false
set_option maxRecDepth 100000

theorem fl_at {T : List (Int × Int)} {i : Nat} (h : i < T.length) : (fl T)[i * 2]? = some (.int .i64 T[i].1) ∧ (fl T)[i * 2 + 1]? = some (.int .i64 T[i].2) := by
  induction T generalizing i with
  | nil => simp at h
  | cons x t ih =>
    cases i with
    | zero => simp [fl]
    | succ i =>
      have e : fl (x :: t) = [.int .i64 x.1, .int .i64 x.2] ++ fl t := by simp [fl]
      have := ih (i := i) (by simpa using h)
      rw [e, show (i + 1) * 2 = i * 2 + 2 by omega, List.getElem?_append_right (by simp), List.getElem?_append_right (by simp)]
      simpa using this
theorem Rw.span {W : World} {o : Option Addr} {c : Nat} {T : List (Int × Int)} (h : Rw 50 2 W o T.length c (fl T)) {i : Nat} (hi : i < T.length) : ∃ g off, o = some ⟨g, off, none⟩ ∧ W.cell? ⟨g, off + i * 2, none⟩ = some (.int .i64 T[i].1) ∧ W.cell? ⟨g, off + i * 2 + 1, none⟩ = some (.int .i64 T[i].2) ∧ W.frozen? ⟨g, off + i * 2 + 1, none⟩ = false := by
  obtain ⟨h1, h2⟩ := fl_at hi
  obtain ⟨g, off, rfl, c0, _⟩ := h.cell h1
  obtain ⟨g1, off1, e1, c1, f1⟩ := h.cell h2
  injection e1 with e1; injection e1 with e1 e1'
  subst e1 e1'
  exact ⟨g, off, rfl, c0, by simpa [Nat.add_assoc] using c1, by simpa [Nat.add_assoc] using f1⟩
/-- The greatest number that was sent. -/
def top (T : List (Int × Int)) : Int := (T.getLast?.map fun x => x.2).getD (-1)
theorem top_last {T : List (Int × Int)} {i : Nat} (h : i + 1 = T.length) : top T = (T[i]'(by omega)).2 := by
  unfold top
  rw [List.getLast?_eq_getElem?]
  have : T.length - 1 = i := by omega
  rw [this, List.getElem?_eq_getElem (by omega)]
  rfl
theorem greatest_c {W : World} {o : Option Addr} {c : Nat} {T : List (Int × Int)} (h : Rw 50 2 W o T.length c (fl T)) (hT : T.length ≤ 4000000000000) : Calls Try.prog 27 #[.slice o T.length c] W fun e w' => e = .returned (.int .i64 (top T)) ∧ w' = W := by
  obtain ⟨N, hN⟩ : ∃ N, T.length = N := ⟨_, rfl⟩
  rcases N with _ | N
  · have e : T = [] := List.length_eq_zero_iff.1 hN
    subst e
    go_enter Try.func27, Try.ntmps27
    go_wp2
    go_ret
    exact ⟨rfl, rfl⟩
  · obtain ⟨g, off, rfl, c0, c1, -⟩ := h.span (i := N) (by omega)
    have e1 := top_last (T := T) (i := N) hN.symm
    rw [← e1] at c1
    rw [hN]
    rw [hN] at hT
    generalize top T = x at *
    clear h c0 e1 hN
    have i1 : ¬ ((N : Int) + 1 = 0) := by omega
    have i2 : IntKind.i64.wrap ((N : Int) + 1 - 1) = N := by rw [wrp _ (by omega) (by omega)]; omega
    have i3 : (N : Int) < (N : Int) + 1 := by omega
    go_enter Try.func27, Try.ntmps27
    go_wp2
    go_ret
    exact ⟨rfl, rfl⟩
/-- A number above all others put in. -/
def addT (T : List (Int × Int)) (n : Int) : List (Int × Int) :=
  match T.getLast? with
  | none => [(n, n)]
  | some x => if x.2 + 1 = n then T.dropLast ++ [(x.1, n)] else T ++ [(n, n)]
theorem fl_app (a b : List (Int × Int)) : fl (a ++ b) = fl a ++ fl b := by simp [fl]
theorem fl_ones (T : List (Int × Int)) : ∀ v ∈ fl T, v.oneCell' = true := by
  intro v hv
  simp only [fl, List.mem_flatMap, List.mem_cons, List.not_mem_nil, or_false] at hv
  obtain ⟨x, _, rfl | rfl⟩ := hv <;> rfl
section
variable {W W' : World} {A : Ad} {L : Ls}
/-- The numbers' row turned, and its slice put back. -/
theorem Lg.setT (h : Lg W A L) {o' : Option Addr} {c' : Nat} {T' : List (Int × Int)} (hr : Rw 50 2 W' o' T'.length c' (fl T')) (hc : Chg (Blk A.s) W W') (hn : ∀ j, Blk o' j → Blk A.s j ∨ W.heap.size ≤ j) :
    Lg (W'.setCell ⟨A.b, 2, none⟩ (.slice o' T'.length c')) { A with s := o', sc := c' } { L with T := T' } ∧ Stp A { A with s := o', sc := c' } W (W'.setCell ⟨A.b, 2, none⟩ (.slice o' T'.length c')) := by
  have hb' : W'.heap[A.b]? = some (.cells (L.cs A) 65 (0, 0)) := hc.blk h.hb h.bs
  have hbo : ¬ Blk o' A.b := fun e => by
    obtain ⟨X, h1⟩ := hr.ty e
    rw [hb'] at h1
    simp at h1
  rw [setCell_eq_setRow W' A.b 2 _ 65 (0, 0) _ hb']
  have hot : ∀ k, k ≠ A.b → (W'.setRow A.b ((L.cs A).setIfInBounds 2 (.slice o' T'.length c'))).heap[k]? = W'.heap[k]? := fun k hk => setRow_other W' A.b k _ hk
  have hot2 : ∀ k, k < W.heap.size → k ≠ A.b → ¬ Blk A.s k → (W'.setRow A.b ((L.cs A).setIfInBounds 2 (.slice o' T'.length c'))).heap[k]? = W.heap[k]? := fun k hk h1 h2 => (hot k h1).trans (hc.2.2.2.2 k hk h2)
  refine ⟨⟨?_, ?_, ?_, ?_⟩, rfl, ?_, fun k hk => ?_⟩
  · rw [setRow_heap W' A.b _ _ 65 (0, 0) hb']
    simp [Ls.cs]
  · exact h.mp.kept (hot2 _ h.mp.lt h.bm.symm h.ms)
  · exact h.ord.keep fun k hk => hot2 k (h.ord.lt hk) (fun e => h.bo (e ▸ hk)) (h.os hk)
  · exact hr.keep fun k hk => hot k (fun e => hbo (e ▸ hk))
  · exact (hc.mono (fun k _ hk => .inr (.inr (.inr hk)))).andThen (Chg.setRow (X := A.own) _ _ (.inl rfl)) (fun _ _ h => h)
  · rcases hk with hk | hk | hk | hk
    · exact .inl (.inl hk)
    · exact .inl (.inr (.inl hk))
    · exact .inl (.inr (.inr (.inl hk)))
    · rcases hn k hk with h1 | h1
      · exact .inl (.inr (.inr (.inr h1)))
      · exact .inr h1
/-- What add leaves. -/
def AddR (W : World) (A : Ad) (L : Ls) (n : Int) (e : Ending) (w' : World) : Prop := e = .returned (.tuple #[]) ∧ ∃ A', A'.m = A.m ∧ Lg w' A' { L with T := addT L.T n } ∧ Stp A A' W w'
theorem add_push (h : Lg W A L) (n : Int) (hT : L.T.length ≤ 4000000000000) :
    ∃ g off c' w3, (∀ ty, (Builtin.append_ #[63, 63] ty #[.slice A.s L.T.length A.sc, .slice (some ⟨W.heap.size, 0, none⟩) 1 1]).run Try.prog (W.alloc (.cells #[.int .i64 n, .int .i64 n] 50)) = .ok (.slice (some ⟨g, off, none⟩) (L.T.length + 1) c') w3) ∧
      w3.cell? ⟨A.b, 2, none⟩ = some (.slice A.s L.T.length A.sc) ∧ w3.frozen? ⟨A.b, 2, none⟩ = false ∧ Lg (w3.setCell ⟨A.b, 2, none⟩ (.slice (some ⟨g, off, none⟩) (L.T.length + 1) c')) { A with s := some ⟨g, off, none⟩, sc := c' } { L with T := L.T ++ [(n, n)] } ∧ Stp A { A with s := some ⟨g, off, none⟩, sc := c' } W (w3.setCell ⟨A.b, 2, none⟩ (.slice (some ⟨g, off, none⟩) (L.T.length + 1) c')) := by
  obtain ⟨i, hq, hz, hi, hby⟩ := info_parts info50
  have hTn := heap_alloc_new W (.cells #[.int .i64 n, .int .i64 n] 50)
  have hs : Src Try.prog 2 63 (.slice (some ⟨W.heap.size, 0, none⟩) 1 1) 1 (fl [(n, n)]) (W.alloc (.cells #[.int .i64 n, .int .i64 n] 50)) := Src.ofSlice _ Try.underlying63 ⟨W.heap.size, 0, none⟩ _ 1 (fl [(n, n)]) (by simp [fl]) (fun j u hu => by
    rw [Addr.add_lit]
    simp only [World.cell?, hTn, Nat.zero_add]
    rw [if_neg (by simp)]
    simpa [fl] using hu) (fl_ones _)
  obtain ⟨g, off, c', w3, h1, h2, h3, h4, h5⟩ := Rw.append Try.underlying63 hq hz hi hby rfl (Rw.bel h.snt (bel1 W _)) hs (by omega) (by omega) (by omega)
  have hc : Chg (Blk A.s) W w3 := ((Chg.refl (Blk A.s) W).alloc _).trans h3
  have hb' : w3.heap[A.b]? = some (.cells (L.cs A) 65 (0, 0)) := hc.blk h.hb h.bs
  have hr : Rw 50 2 w3 (some ⟨g, off, none⟩) (L.T ++ [(n, n)]).length c' (fl (L.T ++ [(n, n)])) := by
    rw [fl_app, List.length_append]
    exact h2
  have := h.setT hr hc (fun j hj => by
    rw [hj.of]
    rcases h4 with h4 | h4
    · exact .inl h4
    · right; rw [h4]; simp)
  rw [List.length_append] at this
  exact ⟨g, off, c', w3, h1, by simp [World.cell?, hb', Ls.cs], by simp [World.frozen?, hb'], this.1, this.2⟩
set_option maxHeartbeats 1000000 in
theorem add_c (h : Lg W A L) (n : Int) (hT : L.T.length ≤ 4000000000000) (hb : ∀ x ∈ L.T, 0 ≤ x.2 ∧ x.2 ≤ 4611686018427387903) : Calls Try.prog 28 #[.pointer (some ⟨A.b, 2, none⟩), .int .i64 n] W (AddR W A L n) := by
  have c2 := h.c2
  have f2 := h.fz 2
  obtain ⟨N, hN⟩ : ∃ N, L.T.length = N := ⟨_, rfl⟩
  obtain ⟨g', off', c', w3, hap, k1, k2, k3, k4⟩ := add_push h n hT
  have HP : Aside (addT L.T n = L.T ++ [(n, n)] → AddR W A L n (.returned (.tuple #[])) (w3.setCell ⟨A.b, 2, none⟩ (.slice (some ⟨g', off', none⟩) (N + 1) c'))) := fun e => ⟨rfl, { A with s := some ⟨g', off', none⟩, sc := c' }, rfl, by rw [e, ← hN]; exact k3, by rw [← hN]; exact k4⟩
  have HAP : Aside ((Builtin.append_ #[63, 63] 63 #[.slice A.s N A.sc, .slice (some ⟨W.heap.size, 0, none⟩) 1 1]).run Try.prog (W.alloc (.cells #[.int .i64 n, .int .i64 n] 50)) = .ok (.slice (some ⟨g', off', none⟩) (N + 1) c') w3) := by rw [← hN]; exact hap 63
  clear hap k3 k4
  rw [hN] at c2 hT k1
  rcases N with _ | N
  · have e : L.T = [] := List.length_eq_zero_iff.1 hN
    have HQ := HP.out (by rw [e]; rfl)
    generalize AddR W A L n = RR at *
    clear h HP hN hb e
    go_enter Try.func28, Try.ntmps28
    go_wp2_with (refine appr rfl _ _ 63 63 rfl _ _ rfl rfl HAP.out (Hid.out ?_))
    refine mkHid ?_
    go_wp2
    go_end0
    exact HQ
  · obtain ⟨g, off, hs, c0, c1, f1⟩ := h.snt.span (i := N) (by omega)
    have hi : N < L.T.length := by omega
    have hbl := hb _ (List.getElem_mem hi)
    have hlast : L.T.getLast? = some L.T[N] := by rw [List.getLast?_eq_getElem?, hN]; exact List.getElem?_eq_getElem hi
    by_cases hn : L.T[N].2 + 1 = n
    · have hset : AddR W A L n (.returned (.tuple #[])) (W.setCell ⟨g, off + N * 2 + 1, none⟩ (.int .i64 n)) := by
        have hsn := h.snt
        rw [hs] at hsn
        obtain ⟨q1, q2⟩ := hsn.set (j := N * 2 + 1) (by rw [fl_len]; omega) (.int .i64 n)
        have e1 : (fl L.T).set (N * 2 + 1) (.int .i64 n) = fl (addT L.T n) := by
          have : addT L.T n = L.T.dropLast ++ [(L.T[N].1, n)] := by unfold addT; rw [hlast]; simp only; rw [if_pos hn]
          rw [this]
          have e2 : L.T = L.T.dropLast ++ [L.T[N]] := by
            rw [List.getLast?_eq_some_iff] at hlast
            obtain ⟨ys, hy⟩ := hlast
            generalize L.T[N] = x at hy ⊢
            rw [hy, List.dropLast_concat]
          generalize L.T[N] = x at *
          have hd : L.T.dropLast.length = N := by rw [List.length_dropLast]; omega
          generalize L.T.dropLast = D at *
          rw [e2, fl_app, fl_app, List.set_append_right _ _ (by rw [fl_len]; omega), fl_len, hd]
          congr 1
          have : N * 2 + 1 - N * 2 = 1 := by omega
          rw [this]
          rfl
        have e3 : (addT L.T n).length = L.T.length := by
          have := congrArg List.length e1
          rw [List.length_set, fl_len, fl_len] at this
          omega
        rw [← Nat.add_assoc] at q1 q2
        rw [e1] at q1
        have hns : Stp A A W (W.setCell ⟨g, off + N * 2 + 1, none⟩ (.int .i64 n)) := ⟨rfl, q2.mono (fun k _ hk => .inr (.inr (.inr (by rw [hs]; exact hk)))), fun k hk => .inl hk⟩
        refine ⟨rfl, A, rfl, ⟨?_, ?_, ?_, ?_⟩, hns⟩
        · rw [q2.blk h.hb (by rw [← hs]; exact h.bs)]
          simp [Ls.cs, e3]
        · exact h.mp.kept (q2.2.2.2.2 _ h.mp.lt (by rw [← hs]; exact h.ms))
        · exact h.ord.chg q2 (fun j hj => by rw [← hs]; exact h.os hj)
        · simp only [e3, hs]
          exact q1
      generalize AddR W A L n = RR at *
      generalize hla : L.T[N].2 = la at *
      clear h HP HAP hN hb hlast c0 k1 k2
      generalize A.s = ss at *
      subst hs
      have i1 : IntKind.i64.wrap ((N : Int) + 1 - 1) = N := by rw [wrp _ (by omega) (by omega)]; omega
      have i2 : (N : Int) < (N : Int) + 1 := by omega
      have i3 : IntKind.i64.wrap (la + 1) = n := by rw [wrp _ (by omega) (by omega)]; exact hn
      have i4 : (0 : Int) ≤ N := by omega
      clear hla hn
      go_enter Try.func28, Try.ntmps28
      go_wp2
      refine bodyPost_ret (results_none rfl _ _ _) rfl ?_
      exact hset
    · have HQ := HP.out (by unfold addT; rw [hlast]; simp only; rw [if_neg hn])
      generalize AddR W A L n = RR at *
      generalize hla : L.T[N].2 = la at *
      clear h HP hN hb hlast c0
      generalize A.s = ss at *
      subst hs
      have i1 : IntKind.i64.wrap ((N : Int) + 1 - 1) = N := by rw [wrp _ (by omega) (by omega)]; omega
      have i2 : (N : Int) < (N : Int) + 1 := by omega
      have i3 : IntKind.i64.wrap (la + 1) = la + 1 := wrp _ (by omega) (by omega)
      have i4 : (0 : Int) ≤ N := by omega
      clear hla
      go_enter Try.func28, Try.ntmps28
      go_wp2_with (refine appr rfl _ _ 63 63 rfl _ _ rfl rfl HAP.out (Hid.out ?_))
      refine mkHid ?_
      go_wp2
      go_end0
      exact HQ
end
end Go.Proofs.Ytkjcapmhjhnckaa
