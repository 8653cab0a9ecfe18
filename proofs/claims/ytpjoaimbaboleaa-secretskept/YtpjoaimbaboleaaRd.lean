/- vault: mind.read. -/
import Derived.Test.YtpjoaimbaboleaaMi
namespace Go.Proofs.Ytpjoaimbaboleaa
open Go.RowKit Go.Shelf Go.Lib
set_option linter.unusedVariables false

attribute [local go_sem] Oper.semAt_some

def notDefer (o : Oper) : Bool := match o.op with
  | .defer _ => false
  | _ => true
theorem noDefer {ops : Array Oper} (h : ops.all notDefer = true) : ∀ (i : Nat) o, ops[i]? = some o → ∀ c, o.op ≠ .defer c := by
  intro i o ho c e
  obtain ⟨hi, rfl⟩ := Array.getElem?_eq_some_iff.1 ho
  have := Array.all_eq_true.1 h i hi
  simp [notDefer, e] at this
/-- Those below N. -/
def fN (N : Nat) (X : List Nat) : List Nat := X.filter fun x => decide (x < N)
theorem fN_le (N : Nat) (X : List Nat) : (fN N X).length ≤ X.length := List.length_filter_le _ _
theorem fN_snoc (N : Nat) (X : List Nat) (n : Nat) : fN N (X ++ [n]) = fN N X ++ (if n < N then [n] else []) := by
  unfold fN
  rw [List.filter_append]
  by_cases h : n < N <;> simp [h]
theorem wins_le (l : List UInt8) : (wins l).length ≤ l.length := by
  unfold wins winsTo
  refine Nat.le_trans (List.length_filterMap_le _ _) ?_
  simp

theorem cells_ty {x : Option Obj} {cs cs' : Array Value} {t t' : Nat} {fr fr' : Nat × Nat} (h1 : x = some (.cells cs t fr)) (h2 : x = some (.cells cs' t' fr')) : t = t' := by
  rw [h1] at h2
  injection h2 with h2
  injection h2
/-- Blocks of bytes are none of a mind's. -/
theorem By.mi {n₀ : Nat} {w w' : World} {o : Option Addr} {c Mb V La Be Kb Xb Xb' xc N : Nat} {A B X : List Nat} {K : List Bool} {l : List UInt8} (h : By n₀ w o c l) (hm : Mi n₀ w Mb V La Be Kb Xb xc N A B K X) (hc : Mc Mb Kb Xb w Xb' w') : By n₀ w' o c l := by
  have key : ∀ b off, o = some ⟨b, off, none⟩ → l ≠ [] → b < w.heap.size → w'.heap[b]? = w.heap[b]? := by
    intro b off e hl hlt
    refine hc.1.2.2.2.2 b hlt ?_
    obtain ⟨b', off', e', hd⟩ := h.at' hl
    rw [e] at e'
    simp only [Option.some.injEq, Addr.mk.injEq, and_true] at e'
    obtain ⟨rfl, rfl⟩ := e'
    rcases hd with hd | ⟨cs, t, fr, h1, h2⟩
    · have := hm.nM; have := hm.nK; have := hm.nX; omega
    · rintro (rfl | rfl | rfl)
      · have := cells_ty h1 hm.hM; rcases h2 with h2 | h2 | h2 <;> (rw [h2] at this; exact absurd this (by decide))
      · have := cells_ty h1 hm.hK; rcases h2 with h2 | h2 | h2 <;> (rw [h2] at this; exact absurd this (by decide))
      · obtain ⟨R, r1, _⟩ := hm.hX
        have := cells_ty h1 r1; rcases h2 with h2 | h2 | h2 <;> (rw [h2] at this; exact absurd this (by decide))
  refine ⟨fun j hj => ?_, h.len, h.cap, h.c64, fun hl => ?_⟩
  · obtain ⟨b, off, e, hcell⟩ := h.sl j hj
    exact ⟨b, off, e, (World.cell?_of_block (key b off e (by rintro rfl; simp at hj) (World.block_lt_of_cell? _ _ hcell))).trans hcell⟩
  · obtain ⟨b, off, e, hd⟩ := h.at' hl
    refine ⟨b, off, e, hd.imp id ?_⟩
    rintro ⟨cs, t, fr, h1, h2⟩
    exact ⟨cs, t, fr, (key b off e hl (Array.getElem?_eq_some_iff.1 h1).1).trans h1, h2⟩
/-- Other blocks of cells, by their type. -/
theorem Mc.other {n₀ : Nat} {w w' : World} {Mb V La Be Kb Xb Xb' xc N k t : Nat} {A B X : List Nat} {K : List Bool} {cs : Array Value} {fr : Nat × Nat} (hc : Mc Mb Kb Xb w Xb' w') (hm : Mi n₀ w Mb V La Be Kb Xb xc N A B K X) (hk : w.heap[k]? = some (.cells cs t fr)) (h1 : t ≠ 106) (h2 : t ≠ 4) (h3 : t ≠ 3) : w'.heap[k]? = some (.cells cs t fr) := by
  refine (hc.1.2.2.2.2 k (Array.getElem?_eq_some_iff.1 hk).1 ?_).trans hk
  rintro (rfl | rfl | rfl)
  · have := cells_ty hk hm.hM; omega
  · have := cells_ty hk hm.hK; omega
  · obtain ⟨R, r1, _⟩ := hm.hX
    have := cells_ty hk r1; omega
theorem Mc.rec' {n₀ : Nat} {w w' : World} {Mb V La Be Kb Xb Xb' xc N k : Nat} {A B X : List Nat} {K : List Bool} {o : Obj} (hc : Mc Mb Kb Xb w Xb' w') (hm : Mi n₀ w Mb V La Be Kb Xb xc N A B K X) (hk : w.heap[k]? = some o) (ho : o.isCells = false) : w'.heap[k]? = some o := by
  refine (hc.1.2.2.2.2 k (Array.getElem?_eq_some_iff.1 hk).1 ?_).trans hk
  rintro (rfl | rfl | rfl)
  · rw [hm.hM] at hk; injection hk with hk; subst hk; cases ho
  · rw [hm.hK] at hk; injection hk with hk; subst hk; cases ho
  · obtain ⟨R, r1, _⟩ := hm.hX
    rw [r1] at hk; injection hk with hk; subst hk; cases ho
set_option maxRecDepth 100000 in
set_option maxHeartbeats 4000000 in
theorem read_mi (n₀ Mb V La Be Kb Xb xc N c : Nat) (o : Option Addr) (l : List UInt8) (A B : List Nat) (K : List Bool) (X : List Nat) (w : World) (h : Mi n₀ w Mb V La Be Kb Xb xc N A B K X) (hB : By n₀ w o c l) (hlen : X.length + (fN N (wins l)).length ≤ 28000000000000) (hN : N ≤ 1000000) :
    Calls Try.prog 66 #[.pointer (some ⟨Mb, 0, none⟩), .slice o l.length c] w fun e w' => e = .returned (.tuple #[]) ∧ ∃ Xb' xc', Mi n₀ w' Mb V La Be Kb Xb' xc' N A B K (X ++ fN N (wins l)) ∧ Mc Mb Kb Xb w Xb' w' := by
  refine callsIn_wide.1 (callsIn_of_wp_marks (F := Fence.wide) (n := 0) Try.func66 rfl trivial ?_ rfl)
  refine wpIn_wide.2 ?_
  simp only [Try.ntmps66, List.size_toArray, List.length_cons, List.length_nil, Nat.reduceAdd, Nat.reduceSub, Array.replicate_succ, Array.replicate_zero, List.push_toArray, List.append_toArray, List.nil_append, List.cons_append]
  go_wp2_with fail
  refine (names_c _ _ _ _).mono ?_
  rintro e w' ⟨rfl, hw⟩
  subst w'
  go_wp2
  have hb0 : Below w.heap.size w ((w.alloc (.cells #[.pointer (some ⟨Mb, 0, none⟩)] 110)).alloc (.cells #[.slice o l.length c] 33)) := (bel1 w _).alloc (by simp) _
  have z0 : ((w.alloc (.cells #[.pointer (some ⟨Mb, 0, none⟩)] 110)).alloc (.cells #[.slice o l.length c] 33)).heap.size = w.heap.size + 2 := by simp
  have hBx : ((w.alloc (.cells #[.pointer (some ⟨Mb, 0, none⟩)] 110)).alloc (.cells #[.slice o l.length c] 33)).heap[w.heap.size]? = some (.cells #[.pointer (some ⟨Mb, 0, none⟩)] 110 (0, 0)) := by
    rw [Below.heap_alloc _ _ _ (by simp)]; exact heap_alloc_new w _
  have hBs : ((w.alloc (.cells #[.pointer (some ⟨Mb, 0, none⟩)] 110)).alloc (.cells #[.slice o l.length c] 33)).heap[w.heap.size + 1]? = some (.cells #[.slice o l.length c] 33 (0, 0)) := by
    have := heap_alloc_new (w.alloc (.cells #[.pointer (some ⟨Mb, 0, none⟩)] 110)) (.cells #[.slice o l.length c] 33)
    rwa [World.size_alloc] at this
  generalize (w.alloc (.cells #[.pointer (some ⟨Mb, 0, none⟩)] 110)).alloc (.cells #[.slice o l.length c] 33) = W0 at *
  have hM0 := h.bel hb0
  have hB0 := hB.bel hb0
  have hwl := wins_le l
  obtain ⟨I, hI⟩ : ∃ I : Nat → World → Prop, ∀ k Wx, I k Wx ↔ (∃ Xb' xc', Mi n₀ Wx Mb V La Be Kb Xb' xc' N A B K (X ++ fN N ((wins l).take k)) ∧ Mc Mb Kb Xb W0 Xb' Wx ∧ Wx.heap[W0.heap.size]? = some (.deferred (some []))) := ⟨_, fun _ _ => Iff.rfl⟩
  obtain ⟨Ix, hIx⟩ : ∃ Ix : Code → Nat → World → Prop, ∀ cd k Wx, Ix cd k Wx ↔ False := ⟨_, fun _ _ _ => Iff.rfl⟩
  have hIb : ∀ k Wx Wy, I k Wx → Below Wx.heap.size Wx Wy → I k Wy := by
    intro k Wx Wy hi hb
    obtain ⟨Xb', xc', a1, a2, a3⟩ := (hI _ _).1 hi
    exact (hI _ _).2 ⟨Xb', xc', a1.bel hb, a2.trans (Mc.of_bel hb), heap_bel a3 hb⟩
  have hIp : ∀ k Wx r r', I k Wx → Wx.heap[W0.heap.size + 1]? = some (.loop r) → I k (Wx.putObj (W0.heap.size + 1) (.loop r')) := by
    intro k Wx r r' hi hl
    obtain ⟨Xb', xc', a1, ⟨a2, a2'⟩, a3⟩ := (hI _ _).1 hi
    exact (hI _ _).2 ⟨Xb', xc', a1.put hl rfl, ⟨⟨a2.1, a2.2.1, a2.2.2.1, by have := a2.2.2.2.1; simpa [World.putObj] using this, fun j hj hx => (World.putObj_heap_other (by omega)).trans (a2.2.2.2.2 j hj hx)⟩, a2'⟩, (World.putObj_heap_other (by omega)).trans a3⟩
  have hIxp : ∀ cd k Wx r r', Ix cd k Wx → Wx.heap[W0.heap.size + 1]? = some (.loop r) → Ix cd k (Wx.putObj (W0.heap.size + 1) (.loop r')) := fun cd k Wx r r' hi _ => ((hIx _ _ _).1 hi).elim
  refine (wpIn_wide (n := 0)).1 ?_
  refine range_out (gf := 61) (lb := #[.pointer (some ⟨w.heap.size + 1, 0, none⟩)]) rfl (enters_of Try.func61 (by kernel_rfl) rfl) (I := I) (Ix := Ix) (N := (wins l).length) hIp hIxp ?h0 ?hseq ?hdone ?hstop
  case h0 =>
    intro o'
    have hbb : Below W0.heap.size W0 ((W0.alloc (.deferred (some []))).alloc o') := (bel1 W0 _).alloc (by simp) _
    refine (hI _ _).2 ⟨Xb, xc, ?_, Mc.of_bel hbb, ?_⟩
    · have := hM0.bel hbb
      simpa [fN] using this
    · rw [Below.heap_alloc _ _ _ (by simp)]; exact heap_alloc_new W0 _
  case hstop => exact fun cd k Wx _ hi => ((hIx _ _ _).1 hi).elim
  case hdone =>
    intro Wx hi
    obtain ⟨Xb', xc', a1, a2, hK⟩ := (hI _ _).1 hi
    rw [List.take_length] at a1
    refine ⟨by simp, .inl ⟨_, _, rfl, run_takeDeferred hK, ?_⟩⟩
    refine ⟨_, results_none rfl _ _ _, rfl, Xb', xc', a1.put hK rfl, ?_⟩
    have m0 : Mc Mb Kb Xb w Xb W0 := Mc.of_bel hb0
    obtain ⟨⟨q1, q2, q3, q4, q5⟩, q6⟩ := m0.trans a2
    exact ⟨⟨q1, q2, q3, by simpa [World.putObj] using q4, fun j hj hx => (World.putObj_heap_other (by omega)).trans (q5 j hj hx)⟩, q6⟩
  case hseq =>
    intro fn W1 hW1 hb1
    refine names_any n₀ (w.heap.size + 1) (W0.heap.size + 1) c o l _ (Lft (W0.heap.size + 1) (rcd fn _ _ _ _ W0.heap.size) Ix) W1 (fun k Wx hx => ?_) (fun k Wx Wy hx hb => ⟨hIb k Wx Wy hx.1 hb, heap_bel hx.2 hb⟩) (fun k n Wx hk hx => ?_) hb1
    · obtain ⟨hi, hl⟩ := hx
      obtain ⟨Xb', xc', a1, a2, a3⟩ := (hI _ _).1 hi
      refine ⟨?_, hB0.mi hM0 a2⟩
      have := a2.other hM0 hBs (by decide) (by decide) (by decide)
      simp [World.cell?, this]
    · have key := round_raw (P := Try.prog) (encs := fun k => #[.int .i64 (((wins l)[k]?.getD 0 : Nat) : Int)]) (fun _ => rfl) (Kp := fun _ _ => True) (fun _ _ => trivial) (fun _ _ _ _ => trivial) hIp hIxp (k := k) (W := Wx) hx ?_
      · rw [hk] at key
        obtain ⟨f1, f2, f3, f4, f5, f6⟩ := key
        refine ⟨f1, f2, f3, f4, f5, f6.mono ?_⟩
        rintro e W' (⟨rfl, y1, y2⟩ | ⟨rfl, y1, y2⟩)
        · exact .inl ⟨rfl, y1⟩
        · exact .inr ⟨rfl, y1⟩
      · intro Kc hKc
        rw [hk]
        simp only [Option.getD_some]
        have HK : Aside _ := hKc
        have HX : Aside _ := hx
        clear hKc hx
        gi_wp2
        refine HK.out _ _ rfl trivial (fun r' => ?_)
        clear HK
        obtain ⟨hi, hl⟩ := HX.out
        have hi' := hIp _ _ _ r' hi hl
        have hl' : (Wx.putObj (W0.heap.size + 1) (.loop r')).heap[W0.heap.size + 1]? = some (.loop r') := World.putObj_heap_same (Array.getElem?_eq_some_iff.1 hl).1
        generalize Wx.putObj (W0.heap.size + 1) (.loop r') = Wr at *
        obtain ⟨Xb', xc', a1, a2, a3⟩ := (hI _ _).1 hi'
        have bx := a2.other hM0 hBx (by decide) (by decide) (by decide)
        have cB : Wr.cell? ⟨w.heap.size, 0, none⟩ = some (.pointer (some ⟨Mb, 0, none⟩)) := by simp [World.cell?, bx]
        have c3 := a1.c3
        have htk : fN N ((wins l).take (k + 1)) = fN N ((wins l).take k) ++ (if n < N then [n] else []) := by
          have hkl := (List.getElem?_eq_some_iff.1 hk).1
          have e : (wins l)[k] = n := by have := (List.getElem?_eq_some_iff.1 hk).2; exact this
          rw [List.take_succ_eq_append_getElem hkl, e, fN_snoc]
        have htl : (X ++ fN N ((wins l).take k)).length ≤ 28000000000000 := by
          rw [List.length_append]
          have h1 : (fN N ((wins l).take k)).length ≤ (fN N (wins l)).length := ((List.take_sublist k (wins l)).filter _).length_le
          omega
        have htl2 : X.length + (fN N ((wins l).take k)).length = (X ++ fN N ((wins l).take k)).length := by simp
        obtain ⟨Y, hY⟩ : ∃ Y, X ++ fN N ((wins l).take k) = Y := ⟨_, rfl⟩
        rw [hY] at a1 htl
        have hfin : X ++ fN N ((wins l).take (k + 1)) = Y ++ (if n < N then [n] else []) := by rw [htk, ← hY, List.append_assoc]
        clear hi hl HX hi' hb1 hW1 htk htl2 hY hk
        refine wpIn_block ?_
        by_cases hnN : n < N
        · have i1 : (n : Int) < (N : Int) := by omega
          rw [if_pos hnN] at hfin
          have a1d : Mi n₀ Wr.drew Mb V La Be Kb Xb' xc' N A B K Y := a1.bel (bel_drew Wr)
          obtain ⟨Xb2, xc2, W3, hrun, p1, p2, p3, p4, p5⟩ := a1d.push n htl
          have c4 := a1d.c4
          have c4r := a1.c4
          have c4a : (Wr.alloc (.cells #[.int .i64 (n : Int)] 3)).cell? ⟨Mb, 4, none⟩ = some (.slice (some ⟨Xb', 0, none⟩) Y.length xc') := cell_bel a1.c4 (bel1 _ _)
          have HRUN : Aside _ := hrun
          have hxs : w.heap.size ≠ Xb' := by
            rintro e
            obtain ⟨R, r1, _⟩ := a1.hX
            rw [← e, bx] at r1
            simp at r1
          have hms : w.heap.size ≠ Mb := by have := h.lM; omega
          have lbx : w.heap.size < Wr.heap.size := (Array.getElem?_eq_some_iff.1 bx).1
          have HSA : Aside ((Wr.drew.alloc (.cells #[.int .i64 (n : Int)] 3)).cell? ⟨w.heap.size, 0, none⟩ = some (.pointer (some ⟨Mb, 0, none⟩))) := cell_bel (show Wr.drew.cell? ⟨w.heap.size, 0, none⟩ = _ from cB) (bel1 _ _)
          have b3 : W3.heap[w.heap.size]? = some (.cells #[.pointer (some ⟨Mb, 0, none⟩)] 110 (0, 0)) := (p3 _ lbx hxs).trans bx
          have HS3 : Aside (W3.cell? ⟨w.heap.size, 0, none⟩ = some (.pointer (some ⟨Mb, 0, none⟩))) := by show _ = _; simp [World.cell?, b3]
          have HS4 : Aside ((W3.setCell ⟨Mb, 4, none⟩ (.slice (some ⟨Xb2, 0, none⟩) (Y.length + 1) xc2)).cell? ⟨w.heap.size, 0, none⟩ = some (.pointer (some ⟨Mb, 0, none⟩))) := by
            show _ = _
            rw [World.cell?_setCell_other _ _ _ _ (by simp)]
            exact HS3.out
          have RES : Aside ((W3.setCell ⟨Mb, 4, none⟩ (.slice (some ⟨Xb2, 0, none⟩) (Y.length + 1) xc2)).heap[W0.heap.size + 1]? = Wr.heap[W0.heap.size + 1]? ∧ True ∧ I (k + 1) (W3.setCell ⟨Mb, 4, none⟩ (.slice (some ⟨Xb2, 0, none⟩) (Y.length + 1) xc2))) := by
            have m1 : Mc Mb Kb Xb W0 Xb2 (W3.setCell ⟨Mb, 4, none⟩ (.slice (some ⟨Xb2, 0, none⟩) (Y.length + 1) xc2)) := a2.trans ((Mc.of_bel (bel_drew Wr)).trans p5)
            refine ⟨(p5.rec' a1d (show Wr.drew.heap[W0.heap.size + 1]? = _ from hl') rfl).trans hl'.symm, trivial, (hI _ _).2 ⟨Xb2, xc2, ?_, m1, p5.rec' a1d (show Wr.drew.heap[W0.heap.size]? = _ from a3) rfl⟩⟩
            rw [hfin]
            exact p4
          clear hrun p3 p4 p5 a1 a1d a2 a3 bx b3 hfin
          generalize (n : Int) = ni at *
          generalize Y.length = yn at *
          gi_wp2
          refine region_round (fun w' => w'.cell? ⟨w.heap.size, 0, none⟩ = some (.pointer (some ⟨Mb, 0, none⟩))) (by kernel_rfl) ?hd ?hQ ?hS (fun hHeld => ?_)
          case hd => exact noDefer (by kernel_rfl)
          case hQ => rintro ⟨a, w, hF⟩; exact hF
          case hS => exact cB
          refine wpAnyH_take (i := 0) (v := .pointer (some ⟨Mb, 0, none⟩)) rfl (by kernel_rfl) (by kernel_rfl) (by kernel_rfl) (fun _ _ _ h => h) (Or.inl ⟨by rfl, by intro w hs; go_simp⟩) hHeld ?_
          refine norm_any' (fun K hK => ?_)
          go_simp
          refine hK _ _ ?_
          clear hK K
          refine wpAnyH_take (i := 1) (v := .pointer (some ⟨Mb, 0, none⟩)) rfl (by kernel_rfl) (by kernel_rfl) (by kernel_rfl) (fun _ _ _ h => h) (Or.inl ⟨by rfl, by intro w hs; go_simp⟩) hHeld ?_
          refine norm_any' (fun K hK => ?_)
          go_simp
          refine hK _ _ ?_
          clear hK K
          refine wpAnyH_take (i := 2) (v := .pointer (some ⟨Mb, 0, none⟩)) rfl (by kernel_rfl) (by kernel_rfl) (by kernel_rfl) (fun _ _ _ h => h) (Or.inl ⟨by rfl, by intro w hs; go_simp⟩) hHeld ?_
          refine norm_any' (fun K hK => ?_)
          go_simp
          refine hK _ _ ?_
          clear hK K
          refine wpAnyH_take (i := 3) (v := .pointer (some ⟨Mb, 4, none⟩)) rfl (by kernel_rfl) (by kernel_rfl) (by kernel_rfl) (fun _ _ _ h => h) (Or.inl ⟨by rfl, by intro w hs; go_simp⟩) hHeld ?_
          refine norm_any' (fun K hK => ?_)
          go_simp
          refine hK _ _ ?_
          clear hK K
          refine wpAnyH_take (i := 5) (v := .int .i64 ni) rfl (by kernel_rfl) (by kernel_rfl) (by kernel_rfl) (fun _ _ _ h => h) (Or.inl ⟨by rfl, by intro w hs; go_simp⟩) hHeld ?_
          refine norm_any' (fun K hK => ?_)
          go_simp
          refine hK _ _ ?_
          clear hK K
          refine wpAnyH_ready (rs := [4, 6]) (by kernel_rfl) (by simp) (AllReadyH.cons rfl (fun K hK => ?_) (AllReadyH.cons rfl (fun K hK => ?_) AllReadyH.nil))
          · go_simp
            refine hK.out _ _ (hHeld) (fun hHeld => ?_)
            clear hK K
            refine norm_any' (fun K hK => ?_)
            go_simp
            refine hK _ _ ?_
            clear hK K
            refine wpAnyH_ready (rs := [6]) (by kernel_rfl) (by simp) (AllReadyH.cons rfl (fun K hK => ?_) AllReadyH.nil)
            go_simp
            refine hK.out _ _ (HSA.out) (fun hHeld => ?_)
            clear hK K
            refine norm_any' (fun K hK => ?_)
            go_simp
            refine hK _ _ ?_
            clear hK K
            refine wpAnyH_ready (rs := [7]) (by kernel_rfl) (by simp) (AllReadyH.cons rfl (fun K hK => ?_) AllReadyH.nil)
            refine step_append_run rfl _ _ 101 101 rfl _ _ (by rfl) (by rfl) HRUN.out ?_
            refine hK.out _ _ (HS3.out) (fun hHeld => ?_)
            clear hK K
            refine norm_any' (fun K hK => ?_)
            go_simp
            refine hK _ _ ?_
            clear hK K
            refine wpAnyH_take (i := 8) (v := .pointer (some ⟨Mb, 0, none⟩)) rfl (by kernel_rfl) (by kernel_rfl) (by kernel_rfl) (fun _ _ _ h => h) (Or.inl ⟨by rfl, by intro w hs; go_simp⟩) hHeld ?_
            refine norm_any' (fun K hK => ?_)
            go_simp
            refine hK _ _ ?_
            clear hK K
            refine wpAnyH_take (i := 9) (v := .pointer (some ⟨Mb, 4, none⟩)) rfl (by kernel_rfl) (by kernel_rfl) (by kernel_rfl) (fun _ _ _ h => h) (Or.inl ⟨by rfl, by intro w hs; go_simp⟩) hHeld ?_
            refine norm_any' (fun K hK => ?_)
            go_simp
            refine hK _ _ ?_
            clear hK K
            refine wpAnyH_ready (rs := [10]) (by kernel_rfl) (by simp) (AllReadyH.cons rfl (fun K hK => ?_) AllReadyH.nil)
            go_simp
            refine hK.out _ _ (HS4.out) (fun hHeld => ?_)
            clear hK K
            refine wpAnyH_done (by kernel_rfl) ?_ _
            exact RES.out
          · go_simp
            refine hK.out _ _ (HSA.out) (fun hHeld => ?_)
            clear hK K
            refine norm_any' (fun K hK => ?_)
            go_simp
            refine hK _ _ ?_
            clear hK K
            refine wpAnyH_ready (rs := [4]) (by kernel_rfl) (by simp) (AllReadyH.cons rfl (fun K hK => ?_) AllReadyH.nil)
            go_simp
            refine hK.out _ _ (HSA.out) (fun hHeld => ?_)
            clear hK K
            refine norm_any' (fun K hK => ?_)
            go_simp
            refine hK _ _ ?_
            clear hK K
            refine wpAnyH_ready (rs := [7]) (by kernel_rfl) (by simp) (AllReadyH.cons rfl (fun K hK => ?_) AllReadyH.nil)
            refine step_append_run rfl _ _ 101 101 rfl _ _ (by rfl) (by rfl) HRUN.out ?_
            refine hK.out _ _ (HS3.out) (fun hHeld => ?_)
            clear hK K
            refine norm_any' (fun K hK => ?_)
            go_simp
            refine hK _ _ ?_
            clear hK K
            refine wpAnyH_take (i := 8) (v := .pointer (some ⟨Mb, 0, none⟩)) rfl (by kernel_rfl) (by kernel_rfl) (by kernel_rfl) (fun _ _ _ h => h) (Or.inl ⟨by rfl, by intro w hs; go_simp⟩) hHeld ?_
            refine norm_any' (fun K hK => ?_)
            go_simp
            refine hK _ _ ?_
            clear hK K
            refine wpAnyH_take (i := 9) (v := .pointer (some ⟨Mb, 4, none⟩)) rfl (by kernel_rfl) (by kernel_rfl) (by kernel_rfl) (fun _ _ _ h => h) (Or.inl ⟨by rfl, by intro w hs; go_simp⟩) hHeld ?_
            refine norm_any' (fun K hK => ?_)
            go_simp
            refine hK _ _ ?_
            clear hK K
            refine wpAnyH_ready (rs := [10]) (by kernel_rfl) (by simp) (AllReadyH.cons rfl (fun K hK => ?_) AllReadyH.nil)
            go_simp
            refine hK.out _ _ (HS4.out) (fun hHeld => ?_)
            clear hK K
            refine wpAnyH_done (by kernel_rfl) ?_ _
            exact RES.out

        · have i1 : ¬ ((n : Int) < (N : Int)) := by omega
          have i2 : decide ((n : Int) < (N : Int)) = false := by simpa using i1
          rw [if_neg hnN, List.append_nil] at hfin
          have RES : Aside (I (k + 1) Wr) := (hI _ _).2 ⟨Xb', xc', by rw [hfin]; exact a1, a2, a3⟩
          clear a1 a2 a3 bx hfin
          generalize (n : Int) = ni at *
          gi_wp2
          exact ⟨rfl, trivial, RES.out⟩
end Go.Proofs.Ytpjoaimbaboleaa
