/- ledger: trim. -/
import Derived.Test.YtkjcapmhjhnckaaTk
import Derived.Shelf.Abstract
import Derived.Shelf.RegionOpen
namespace Go.Proofs.Ytkjcapmhjhnckaa
open Go.RowKit Go.Maps Go.Shelf
set_option linter.unusedVariables false
set_option maxRecDepth 100000

theorem eg50 : ∀ args w, (callFunc 50 args).run Try.prog w = .ok (.enter 50 args) w := enters_of Try.func50 (by kernel_rfl) rfl
theorem on_c {X : World} {A : Ad} {L : Ls} (h : Lg X A L) (bx : Nat) (hbx : X.cell? ⟨bx, 0, none⟩ = some (.pointer (some ⟨A.b, 0, none⟩))) (x : Pk × Bool) (hx : x ∈ L.O) (hp : x.1.ok) :
    Calls Try.prog 50 #[.int .i64 x.1.n, .pointer (some ⟨bx, 0, none⟩)] X fun e w' => e = .returned (.bool x.2) ∧ Below X.heap.size X w' := by
  have hl := h.mp.look hx hp
  have c0 := h.c0
  obtain ⟨⟨n, a, s, e⟩, b⟩ := x
  simp only at hl ⊢
  clear h hx hp
  cases b with
  | true =>
    simp only [if_true] at hl
    go_enter Try.func50, Try.ntmps50
    go_wp2
    go_ret
    exact ⟨rfl, bel1 X _⟩
  | false =>
    simp only [Bool.false_eq_true, if_false] at hl
    go_enter Try.func50, Try.ntmps50
    go_wp2
    go_ret
    exact ⟨rfl, bel1 X _⟩
/-- How many ahead of the first that is on its way. -/
def fst (O : List (Pk × Bool)) : Nat := (O.takeWhile fun x => !x.2).length
theorem fst_le (O : List (Pk × Bool)) : fst O ≤ O.length := by
  unfold fst
  exact (List.takeWhile_sublist _).length_le
theorem fst_off {O : List (Pk × Bool)} {i : Nat} (h : i < fst O) (h2 : i < O.length) : O[i].2 = false := by
  induction O generalizing i with
  | nil => simp at h2
  | cons x t ih =>
    unfold fst at h ih
    rw [List.takeWhile_cons] at h
    split at h
    · rename_i hx
      cases i with
      | zero => simpa using hx
      | succ i => exact ih (by simpa using h) (by simpa using h2)
    · simp at h
theorem fst_on {O : List (Pk × Bool)} (h : fst O < O.length) : O[fst O].2 = true := by
  induction O with
  | nil => simp at h
  | cons x t ih =>
    unfold fst at h ih ⊢
    cases hx : x.2 with
    | true => simp [hx]
    | false =>
      simp only [List.takeWhile_cons, hx, Bool.not_false, if_true, List.length_cons, List.getElem_cons_succ]
      exact ih (by simpa [List.takeWhile_cons, hx] using h)

set_option maxHeartbeats 1000000 in
theorem index_c {X : World} {A : Ad} {L : Ls} (h : Lg X A L) (bx : Nat) (hbx : X.cell? ⟨bx, 0, none⟩ = some (.pointer (some ⟨A.b, 0, none⟩))) (hp : ∀ x ∈ L.O, x.1.ok) (hN : L.O.length ≤ 4000000000000) :
    Calls Try.prog 49 #[.slice A.o L.O.length A.oc, .func (.func 50) #[] #[.pointer (some ⟨bx, 0, none⟩)]] X fun e w' => e = .returned (.int .i64 (if fst L.O < L.O.length then (fst L.O : Int) else -1)) ∧ Below X.heap.size X w' := by
  obtain ⟨N, hNe⟩ : ∃ N, L.O.length = N := ⟨_, rfl⟩
  obtain ⟨f, hfe⟩ : ∃ f, fst L.O = f := ⟨_, rfl⟩
  have HF : Aside (f ≤ N ∧ (∀ i (h : i < L.O.length), i < f → L.O[i].2 = false) ∧ ∀ h : f < L.O.length, L.O[f].2 = true) := by
    subst hfe hNe
    exact ⟨fst_le _, fun i h hi => fst_off hi h, fun h => fst_on h⟩
  have HL : Aside _ := h
  have HX : Aside _ := hbx
  have HP : Aside _ := hp
  have HNE : Aside _ := hNe
  rw [hNe] at hN
  rw [hNe, hfe]
  clear h hbx hp hNe hfe
  have eg := eg50
  go_enter Try.func49, Try.ntmps49
  go_wp2
  go_loopg [8] N (fun kx s8 wr => ∃ k : Nat, s8 = .int .i64 (k : Int) ∧ k ≤ N ∧ k ≤ f ∧ N - k ≤ kx ∧ Aside (Below X.heap.size X wr))
  case atStart => exact ⟨0, rfl, by omega, by omega, by omega, Below.refl _ _⟩
  case round =>
    obtain ⟨k, rfl, hk, hkf, hg, HB⟩ := hrel
    by_cases hlt : k < N
    · have hi : k < L.O.length := by rw [HNE.out]; exact hlt
      obtain ⟨g, off, ho, cc, -⟩ := (Rw.bel HL.out.ord HB.out).cell (j := k) (v := .int .i64 L.O[k].1.n) (by simp [ns, hi])
      have hc := on_c (Lg.bel HL.out HB.out) bx (cell_bel HX.out HB.out) L.O[k] (List.getElem_mem hi) (HP.out _ (List.getElem_mem hi))
      have h1 : Aside (k < f → L.O[k].2 = false) := fun hh => HF.out.2.1 k hi hh
      have h2 : Aside (k = f → L.O[k].2 = true) := fun hh => by subst hh; exact HF.out.2.2 hi
      generalize L.O[k].1.n = nn at *
      generalize L.O[k].2 = bb at *
      generalize A.o = oo at *
      subst ho
      have i1 : (k : Int) < N := by omega
      have iw : IntKind.i64.wrap ((k : Int) + 1) = (k : Int) + 1 := wrp _ (by omega) (by omega)
      by_cases hkf2 : k < f
      · have := h1.out hkf2
        subst this
        clear h1 h2
        go_wp2_with (go_at_fn 50; refine hc.mono ?_; rintro e w' ⟨rfl, hbw⟩; have HBW : Aside _ := hbw; clear hbw)
        go_roundg (N - (k + 1))
        case measure => omega
        case rel => exact ⟨k + 1, rfl, by omega, by omega, by omega, bel_trans HB.out HBW.out⟩
      · obtain rfl : k = f := by omega
        have := h2.out rfl
        subst this
        clear h1 h2
        go_wp2_with (go_at_fn 50; refine hc.mono ?_; rintro e w' ⟨rfl, hbw⟩; have HBW : Aside _ := hbw; clear hbw)
        go_ret
        exact ⟨by simp, bel_trans HB.out HBW.out⟩
    · obtain rfl : k = N := by omega
      have i1 : ¬ (k : Int) < k := by omega
      have hf : ¬ f < k := by have := HF.out.1; omega
      go_wp2
      go_ret
      exact ⟨rfl, HB.out⟩

/-- A ledger whose order begins with one that is on its way. -/
def Ls.trim (L : Ls) : Ls := { L with O := L.O.drop (fst L.O) }
theorem Lg.sub {W : World} {A : Ad} {L : Ls} (h : Lg W A L) (f : Nat) (hf : f ≤ L.O.length) (o' : Option Addr) (oc' : Nat)
    (ho : (A.o = none ∧ o' = none ∧ oc' = 0) ∨ ∃ g off, A.o = some ⟨g, off, none⟩ ∧ oc' = A.oc - f ∧ (o' = some ⟨g, off + f, none⟩ ∨ (o' = some ⟨g, off, none⟩ ∧ A.oc = f))) :
    Lg (W.setCell ⟨A.b, 1, none⟩ (.slice o' (L.O.length - f) oc')) { A with o := o', oc := oc' } { L with O := L.O.drop f } ∧ Stp A { A with o := o', oc := oc' } W (W.setCell ⟨A.b, 1, none⟩ (.slice o' (L.O.length - f) oc')) := by
  have hrow : Rw 3 1 W o' (L.O.length - f) oc' (ns (L.O.drop f)) := by
    have e : ns (L.O.drop f) = (ns L.O).drop (f * 1) := by simp [ns]
    rw [e]
    rcases ho with ⟨h1, rfl, rfl⟩ | ⟨g, off, h1, rfl, rfl | ⟨rfl, hc⟩⟩
    · have h2 := h.ord
      obtain ⟨h3, ⟨_, h4, _⟩ | ⟨g, off, X, h4, _⟩⟩ := h2
      · rw [h4] at hf ⊢
        have : f = 0 := by omega
        subst this
        refine ⟨?_, .inl ⟨rfl, rfl, rfl⟩⟩
        simp [h3, h4]
      · rw [h1] at h4
        cases h4
    · have h2 := h.ord
      rw [h1] at h2
      have h3 := h2.sub f hf
      simpa using h3
    · have h2 := h.ord
      rw [h1] at h2
      have hcap := h2.cap
      obtain ⟨h3, ⟨h4, _⟩ | ⟨g', off', X, h4, h5, h6, h7, h8, h9⟩⟩ := h2
      · cases h4
      · have e2 : L.O.length - f = 0 := by omega
        have e3 : (ns L.O).drop (f * 1) = [] := List.drop_eq_nil_of_le (by rw [ns_len]; omega)
        rw [e2, e3]
        refine ⟨by simp, .inr ⟨g', off', X, h4, h5, by omega, by omega, by omega, fun j v hj => by simp at hj⟩⟩
  have hblk : ∀ j, Blk o' j → Blk A.o j := by
    intro j hj
    rcases ho with ⟨h1, rfl, rfl⟩ | ⟨g, off, h1, rfl, rfl | ⟨rfl, hc⟩⟩
    · exact hj.no.elim
    · rw [h1, hj.of]
      exact Blk.mk _ _ _
    · rw [h1]
      exact hj
  rw [setCell_eq_setRow W A.b 1 _ 65 (0, 0) _ h.hb]
  have hot : ∀ k, k ≠ A.b → (W.setRow A.b ((L.cs A).setIfInBounds 1 (.slice o' (L.O.length - f) oc'))).heap[k]? = W.heap[k]? := fun k hk => setRow_other W A.b k _ hk
  refine ⟨⟨?_, ?_, ?_, ?_⟩, rfl, Chg.setRow _ _ (.inl rfl), fun k hk => ?_⟩
  · rw [setRow_heap W A.b _ _ 65 (0, 0) h.hb]
    simp [Ls.cs]
  · exact (h.mp.kept (hot _ h.bm.symm)).sub fun x hx => List.mem_of_mem_drop hx
  · have := hrow.keep (w' := W.setRow A.b ((L.cs A).setIfInBounds 1 (.slice o' (L.O.length - f) oc'))) fun k hk => hot k (fun e => h.bo (e ▸ hblk k hk))
    simpa using this
  · exact h.snt.keep fun k hk => hot k (fun e => h.bs (e ▸ hk))
  · rcases hk with hk | hk | hk | hk
    · exact .inl (.inl hk)
    · exact .inl (.inr (.inl hk))
    · exact .inl (.inr (.inr (.inl (hblk k hk))))
    · exact .inl (.inr (.inr (.inr hk)))
set_option maxHeartbeats 1000000 in
theorem trim_c {W : World} {A : Ad} {L : Ls} (h : Lg W A L) (hp : ∀ x ∈ L.O, x.1.ok) (hN : L.O.length ≤ 4000000000000) :
    Calls Try.prog 39 #[.pointer (some ⟨A.b, 0, none⟩)] W fun e w' => e = .returned (.tuple #[]) ∧ ∃ A', A'.m = A.m ∧ Lg w' A' L.trim ∧ Stp A A' W w' := by
  have hb0 := bel1 W (.cells #[.pointer (some ⟨A.b, 0, none⟩)] 23)
  have hx := heap_alloc_new W (.cells #[.pointer (some ⟨A.b, 0, none⟩)] 23)
  have h1 := h.bel hb0
  have hbx : (W.alloc (.cells #[.pointer (some ⟨A.b, 0, none⟩)] 23)).cell? ⟨W.heap.size, 0, none⟩ = some (.pointer (some ⟨A.b, 0, none⟩)) := by simp [go_sem]
  have hic := index_c h1 W.heap.size hbx hp hN
  have hcap := h.ord.cap
  have hfl := fst_le L.O
  obtain ⟨N, hNe⟩ : ∃ N, L.O.length = N := ⟨_, rfl⟩
  obtain ⟨f, hfe⟩ : ∃ f, fst L.O = f := ⟨_, rfl⟩
  have HT : Aside (∀ (X : World) (o' : Option Addr) (oc' : Nat), Lg X A L → ((A.o = none ∧ o' = none ∧ oc' = 0) ∨ ∃ g off, A.o = some ⟨g, off, none⟩ ∧ oc' = A.oc - f ∧ (o' = some ⟨g, off + f, none⟩ ∨ (o' = some ⟨g, off, none⟩ ∧ A.oc = f))) → Lg (X.setCell ⟨A.b, 1, none⟩ (.slice o' (N - f) oc')) { A with o := o', oc := oc' } L.trim ∧ Stp A { A with o := o', oc := oc' } X (X.setCell ⟨A.b, 1, none⟩ (.slice o' (N - f) oc'))) := by
    intro X o' oc' hX ho
    subst hNe hfe
    exact hX.sub _ (fst_le _) o' oc' ho
  have c1 := h1.c1
  have ho : (A.o = none ∧ N = 0 ∧ A.oc = 0) ∨ ∃ g off, A.o = some ⟨g, off, none⟩ := by
    obtain ⟨_, ⟨e1, e2, e3⟩ | ⟨g, off, X, e1, _⟩⟩ := h.ord
    · exact .inl ⟨e1, by omega, e3⟩
    · exact .inr ⟨g, off, e1⟩
  rw [hNe] at hic c1 hN hcap hfl
  rw [hfe] at hic hfl
  have H1 : Aside _ := h1
  have HB0 : Aside _ := hb0
  clear h h1 hp hNe hfe hx
  have hc2 : A.oc ≤ 9223372036854775807 := by have := hcap.2; unfold maxLen at this; omega
  have hc1 := hcap.1
  clear hcap
  go_enter Try.func39, Try.ntmps39
  go_wp2_with fail
  generalize hB : W.heap.size = B at *
  generalize W.alloc (.cells #[.pointer (some ⟨A.b, 0, none⟩)] 23) = W0 at *
  refine hic.mono ?_
  rintro e W1 ⟨rfl, hb1⟩
  have H2 : Aside (Lg W1 A L) := Lg.bel H1.out hb1
  have c1' : W1.cell? ⟨A.b, 1, none⟩ = some (.slice A.o N A.oc) := cell_bel c1 hb1
  have hbx' : W1.cell? ⟨B, 0, none⟩ = some (.pointer (some ⟨A.b, 0, none⟩)) := cell_bel hbx hb1
  have HB1 : Aside (Below W.heap.size W W1) := by rw [hB]; exact HB0.out.trans (hb1.mono (by have := HB0.out.size; omega))
  have f1 : W1.frozen? ⟨A.b, 1, none⟩ = false := H2.out.fz 1
  clear hic hb1 c1 hbx H1 HB0
  have HSTEP : Aside (∀ (A' : Ad) (Y : World), A'.m = A.m → Lg Y A' L.trim → Stp A A' W1 Y → ∃ A'', A''.m = A.m ∧ Lg Y.drew A'' L.trim ∧ Stp A A'' W Y.drew) := fun A' Y hm hl hs => ⟨A', hm, hl.bel ((Below.refl _ Y).drew), ((Stp.of_below HB1.out).trans hs).below ((Below.refl _ Y).drew)⟩
  rcases ho with ⟨ho, rfl, hoc⟩ | ⟨g, off, ho⟩
  · obtain rfl : f = 0 := by omega
    rw [ho, hoc] at c1'
    have HE : Aside _ := (HT.out W1 none 0 H2.out (.inl ⟨ho, rfl, rfl⟩))
    go_wp2_with fail
    go_region
    exact bodyPost_end (results_none rfl _ _ _) rfl ⟨rfl, HSTEP.out { A with o := none, oc := 0 } _ rfl HE.out.1 HE.out.2⟩
  · rw [ho] at c1'
    by_cases hfN : f < N
    · have HE : Aside _ := (HT.out W1 (some ⟨g, off + f, none⟩) (A.oc - f) H2.out (.inr ⟨g, off, ho, rfl, .inl rfl⟩))
      rw [if_pos hfN]
      have i1 : ¬ (f : Int) < 0 := by omega
      have i2 : (f : Int) ≤ N := by omega
      have i3 : (f : Int) ≤ A.oc := by omega
      have i4 : ¬ A.oc = f := by omega
      go_wp2_with fail
      go_region
      exact bodyPost_end (results_none rfl _ _ _) rfl ⟨rfl, HSTEP.out { A with o := some ⟨g, off + f, none⟩, oc := A.oc - f } _ rfl HE.out.1 HE.out.2⟩
    · rw [if_neg hfN]
      obtain rfl : f = N := by omega
      by_cases hcf : A.oc = f
      · have HE : Aside _ := (HT.out W1 (some ⟨g, off, none⟩) (A.oc - f) H2.out (.inr ⟨g, off, ho, rfl, .inr ⟨rfl, hcf⟩⟩))
        rw [Nat.sub_self, show A.oc - f = 0 by omega] at HE
        go_wp2_with fail
        go_region
        exact bodyPost_end (results_none rfl _ _ _) rfl ⟨rfl, HSTEP.out { A with o := some ⟨g, off, none⟩, oc := 0 } _ rfl HE.out.1 HE.out.2⟩
      · have HE : Aside _ := (HT.out W1 (some ⟨g, off + f, none⟩) (A.oc - f) H2.out (.inr ⟨g, off, ho, rfl, .inl rfl⟩))
        rw [Nat.sub_self] at HE
        go_wp2_with fail
        go_region
        exact bodyPost_end (results_none rfl _ _ _) rfl ⟨rfl, HSTEP.out { A with o := some ⟨g, off + f, none⟩, oc := A.oc - f } _ rfl HE.out.1 HE.out.2⟩
end Go.Proofs.Ytkjcapmhjhnckaa
