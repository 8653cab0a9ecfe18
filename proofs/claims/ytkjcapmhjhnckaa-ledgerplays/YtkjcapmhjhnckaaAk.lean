/- ledger: pass, Acked, Passed. -/
import Derived.Test.YtkjcapmhjhnckaaPs
namespace Go.Proofs.Ytkjcapmhjhnckaa
open Go.RowKit Go.Maps Go.Shelf
set_option linter.unusedVariables false
set_option maxRecDepth 100000

/-- What a ledger always is: M: how many were sent at most. -/
structure Ls.ok (L : Ls) (M : Nat) : Prop where
  fit : L.fit
  z : L.z = zs L.O
  c : L.c = ce L.O
  lenO : L.O.length ≤ M
  lenT : L.T.length ≤ M
  t0 : 0 ≤ L.t
  t1 : L.t ≤ 1125899906842624
  d0 : 0 ≤ L.d
  d1 : L.d ≤ 1125899906842624
  up : Up L.T
  tb : ∀ x ∈ L.T, 0 ≤ x.1 ∧ x.1 ≤ x.2 ∧ x.2 ≤ 4611686018427387903
  top : ∀ x ∈ L.O, x.1.n ≤ top L.T
  hd : fst L.O = 0
/-- What is lost at a time. -/
def Ls.lost (L : Ls) (now late : Int) : List Pk := ons (L.O.take (lk L.g (now - late) L.O))
def Ls.spread (L : Ls) (now late : Int) : Int := (sp (L.O.take (lk L.g (now - late) L.O))).2
/-- A ledger behind pass. -/
def Ls.pass (L : Ls) (now late : Int) : Ls := (({ L with t := now } : Ls).lose (now - late)).trim
theorem drop_fst (O : List (Pk × Bool)) : fst (O.drop (fst O)) = 0 := by
  induction O with
  | nil => rfl
  | cons x t ih =>
    cases hx : x.2 with
    | true => simp [fst, hx]
    | false =>
      have e : fst (x :: t) = fst t + 1 := by simp [fst, hx]
      rw [e, List.drop_succ_cons]
      exact ih
theorem Ls.ok.trim {L : Ls} {M : Nat} (h : L.fit) (hz : L.z = zs L.O) (hc : L.c = ce L.O) (h1 : L.O.length ≤ M) (h2 : L.T.length ≤ M) (t0 : 0 ≤ L.t) (t1 : L.t ≤ 1125899906842624) (d0 : 0 ≤ L.d) (d1 : L.d ≤ 1125899906842624) (hu : Up L.T) (hb : ∀ x ∈ L.T, 0 ≤ x.1 ∧ x.1 ≤ x.2 ∧ x.2 ≤ 4611686018427387903) (ht : ∀ x ∈ L.O, x.1.n ≤ Go.Proofs.Ytkjcapmhjhnckaa.top L.T) : L.trim.ok M := by
  have hz0 : zs (L.O.take (fst L.O)) = 0 ∧ ce (L.O.take (fst L.O)) = 0 := by
    have : ∀ x ∈ L.O.take (fst L.O), x.2 = false := by
      intro x hx
      obtain ⟨i, hi, rfl⟩ := List.getElem_of_mem hx
      rw [List.length_take] at hi
      rw [List.getElem_take]
      exact fst_off (by omega) (by omega)
    generalize L.O.take (fst L.O) = l at this
    induction l with
    | nil => exact ⟨rfl, rfl⟩
    | cons x t ih =>
      have hx := this x (by simp)
      have := ih fun y hy => this y (by simp [hy])
      simp [zs, ce, hx, this.1, this.2]
  have hsub : ∀ x ∈ L.O.drop (fst L.O), x ∈ L.O := fun x hx => List.mem_of_mem_drop hx
  refine ⟨⟨fun x hx => h.pk x (hsub x hx), ?_, List.Pairwise.sublist (List.drop_sublist _ _) h.rise, h.g0, h.g1⟩, ?_, ?_, ?_, h2, t0, t1, d0, d1, hu, hb, fun x hx => ht x (hsub x hx), drop_fst _⟩
  · have := h.len; show (L.O.drop _).length ≤ _; rw [List.length_drop]; omega
  · show L.z = zs (L.O.drop _)
    rw [hz]
    have := zs_app (L.O.take (fst L.O)) (L.O.drop (fst L.O))
    rw [List.take_append_drop, hz0.1] at this
    omega
  · show L.c = ce (L.O.drop _)
    rw [hc]
    have := ce_app (L.O.take (fst L.O)) (L.O.drop (fst L.O))
    rw [List.take_append_drop, hz0.2] at this
    omega
  · show (L.O.drop _).length ≤ _; rw [List.length_drop]; omega
theorem off_fst (k : Nat) (O : List (Pk × Bool)) : (off k O).map (fun x => x.1) = O.map fun x => x.1 := by
  unfold off
  rw [List.map_append, List.map_map, show ((fun x : Pk × Bool => x.1) ∘ fun x => (x.1, false)) = (fun x : Pk × Bool => x.1) from rfl, ← List.map_append, List.take_append_drop]
theorem top_fst {O O' : List (Pk × Bool)} {T : List (Int × Int)} (h : O.map (fun x => x.1) = O'.map fun x => x.1) (hr : ∀ x ∈ O', x.1.n ≤ top T) : ∀ x ∈ O, x.1.n ≤ top T := by
  intro x hx
  have : x.1 ∈ O.map fun x => x.1 := List.mem_map_of_mem hx
  rw [h] at this
  obtain ⟨y, hy, e⟩ := List.mem_map.1 this
  rw [← e]; exact hr y hy
/-- pass, of a ledger that need not begin with one on its way. -/
theorem pass_ok {L : Ls} {M : Nat} (h : L.fit) (h1 : L.O.length ≤ M) (h2 : L.T.length ≤ M) (d0 : 0 ≤ L.d) (d1 : L.d ≤ 1125899906842624) (hu : Up L.T) (hb : ∀ x ∈ L.T, 0 ≤ x.1 ∧ x.1 ≤ x.2 ∧ x.2 ≤ 4611686018427387903) (ht : ∀ x ∈ L.O, x.1.n ≤ Go.Proofs.Ytkjcapmhjhnckaa.top L.T) (now late : Int) (t0 : 0 ≤ now) (t1 : now ≤ 1125899906842624) : (L.pass now late).ok M := by
  have hl : (off (lk L.g (now - late) L.O) L.O).length = L.O.length := off_len _ _
  have hf := off_fst (lk L.g (now - late) L.O) L.O
  exact Ls.ok.trim (L := ({ L with t := now } : Ls).lose (now - late)) ⟨ok_fst hf h.pk, by show (off _ _).length ≤ _; rw [hl]; exact h.len, rise_fst hf h.rise, h.g0, h.g1⟩ rfl rfl (by show (off _ _).length ≤ _; rw [hl]; exact h1) h2 t0 t1 d0 d1 hu hb (top_fst hf ht)
/-- What pass tells. -/
def PaR (W : World) (A : Ad) (L : Ls) (now late : Int) (e : Ending) (w' : World) : Prop :=
  ∃ A' o c, e = .returned (.agg (rv none 0 0 o (L.lost now late).length c (-1) (L.spread now late))) ∧ A'.m = A.m ∧ Lg w' A' (L.pass now late) ∧ Stp A A' W w' ∧ Pr w' o c (L.lost now late) ∧ ∀ j, Blk o j → W.heap.size ≤ j
set_option maxHeartbeats 1000000 in
theorem pass_c {W : World} {A : Ad} {L : Ls} (h : Lg W A L) (hf : L.fit) (hz : L.z = zs L.O) (hc : L.c = ce L.O) (now late : Int) (t0 : 0 ≤ now) (t1 : now ≤ 1125899906842624) (l0 : 0 ≤ late) (l1 : late ≤ 1125899906842624) :
    Calls Try.prog 34 #[.pointer (some ⟨A.b, 0, none⟩), .int .i64 now, .int .i64 late] W (PaR W A L now late) := by
  obtain ⟨h2, s2⟩ := h.set (L' := { L with t := now }) 4 (.int .i64 now) (by simp [Ls.cs]) rfl rfl
  have hsz : (W.setCell ⟨A.b, 4, none⟩ (.int .i64 now)).heap.size = W.heap.size := by simp
  have hb0 := bel1 (W.setCell ⟨A.b, 4, none⟩ (.int .i64 now)) (.cells #[.slice none 0 0, .slice none 0 0, .int .i64 0, .int .i64 0] 40)
  have hx2 := heap_alloc_new (W.setCell ⟨A.b, 4, none⟩ (.int .i64 now)) (.cells #[.slice none 0 0, .slice none 0 0, .int .i64 0, .int .i64 0] 40)
  rw [hsz] at hx2
  have HLT : Aside (∀ k, A.own k → k < W.heap.size) := fun k hk => h.lt hk
  have c4 := h.c4
  have f4 := h.fz 4
  have hlo := lose_c (h2.bel hb0) ⟨hf.pk, hf.len, hf.rise, hf.g0, hf.g1⟩ hz hc (now - late)
  have S2 : Aside _ := s2.below hb0
  have HF : Aside _ := hf
  have i1 : IntKind.i64.wrap (now - late) = now - late := wrp _ (by omega) (by omega)
  have hbl := h.blk
  clear h h2 s2 hb0 hf hz hc hsz
  go_enter Try.func34, Try.ntmps34
  go_wp2_with fail
  generalize (W.setCell ⟨A.b, 4, none⟩ (.int .i64 now)).alloc (.cells #[.slice none 0 0, .slice none 0 0, .int .i64 0, .int .i64 0] 40) = W2 at *
  refine hlo.mono ?_
  clear hlo
  rintro e W3 ⟨o, c, rfl, hI⟩
  have hx3 := (hI.st.keep hx2 (fun ho => by have := HLT.out _ ho; omega)).1
  have hlen : (off (lk L.g (now - late) L.O) L.O).length = L.O.length := off_len _ _
  have htr := trim_c hI.lg (ok_fst (off_fst _ _) HF.out.pk) (by show (off _ _).length ≤ _; rw [hlen]; exact HF.out.len)
  have HI : Aside _ := hI
  have HEND : Aside (∀ (A' : Ad) (W4 : World), A'.m = A.m → Lg W4 A' (L.pass now late) → Stp A A' W3 W4 → PaR W A L now late (.returned (.agg (rv none 0 0 o (L.lost now late).length c (-1) (L.spread now late)))) (W4.setRow W.heap.size (rv none 0 0 o (L.lost now late).length c (-1) (L.spread now late)))) := by
    intro A' W4 hm hl hs
    have hx4 := (hs.keep hx3 (fun ho => by have := HLT.out _ ho; omega)).1
    have hpr := hI.pr.stp hI.lg hs
    have hSt := (S2.out.trans hI.st).trans hs
    have hown : ∀ k, A'.own k → k ≠ W.heap.size := fun k hk e => by
      rcases hs.own k hk with h1 | h1
      · have := HLT.out k h1; omega
      · have := (Array.getElem?_eq_some_iff.1 hx3).1; omega
    have hc5 : Chg (fun j => j = W.heap.size) W4 (W4.setRow W.heap.size (rv none 0 0 o (L.lost now late).length c (-1) (L.spread now late))) := Chg.setRow _ _ rfl
    refine ⟨A', o, c, rfl, hm, hl.chg hc5 (fun k hk e => hown k hk e), ⟨hSt.b, hSt.chg.andThen hc5 (fun j hj e => by omega), hSt.own⟩, Rw.chg hpr hc5 (fun j hj e => ?_), fun j hj => Nat.le_trans S2.out.chg.2.2.2.1 (hI.new j hj)⟩
    obtain ⟨Z, hz⟩ := Rw.ty hpr hj
    rw [e, hx4] at hz
    simp at hz
  have e1 : (ons (L.O.take (lk L.g (now - late) L.O))).length = (L.lost now late).length := rfl
  have e2 : (sp (L.O.take (lk L.g (now - late) L.O))).2 = L.spread now late := rfl
  show _
  simp only [e1, e2]
  generalize (L.lost now late).length = nl at *
  generalize L.spread now late = sd at *
  generalize PaR W A L now late = RR at *
  clear hx2 hI c4 f4 e1 e2
  go_wp2_with fail
  refine htr.mono ?_
  rintro e W4 ⟨rfl, A', hm, hl, hs⟩
  have hx4 := (hs.keep hx3 (fun ho => by have := HLT.out _ ho; omega)).1
  have HE : Aside _ := HEND.out A' W4 hm hl hs
  clear htr hl hs hm
  go_wp2_with (refine wpList_store_row rfl 40 _ _ rfl W.heap.size (rv none 0 0 o nl c (-1) sd) rfl rfl 40 _ hx4 (by kernel_rfl) rfl (rv_one _ _ _ _ _ _ _ _) ?_)
  refine bodyPost_ret (results_cell_row (fn := Try.f34) (p := 6) (ty := 40) rfl _ _ W.heap.size 40 _ (0, 0) _ rfl (setRow_heap _ W.heap.size _ (rv none 0 0 o nl c (-1) sd) 40 (0, 0) hx4) Try.underlying40 rfl (by kernel_rfl)) rfl ?_
  exact HE.out
end Go.Proofs.Ytkjcapmhjhnckaa
