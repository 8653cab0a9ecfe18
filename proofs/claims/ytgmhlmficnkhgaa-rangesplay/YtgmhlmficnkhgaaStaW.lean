/- stands: the walk. -/
import Derived.Test.YtgmhlmficnkhgaaSta
namespace Go.Proofs.Ytgmhlmficnkhgaa
open Go.RowKit Go.Shelf Go.Lib
set_option linter.unusedVariables false

theorem eql_seq2 (g : Nat) (xs : Array Value) (w : World) : (binOp .eql 46 (.func (.func g) #[] xs) .nilFunc).run Try.prog w = .ok (.bool false) w := by
  kernel_rfl
attribute [local go_sem] eql_seq2 Oper.semAt_some

set_option maxRecDepth 100000 in
set_option maxHeartbeats 4000000 in
theorem stands_c (n₀ S r : Nat) (B : Nat → Prop) (o : Option Addr) (q : Int) (L : List (Int × Int)) (W : World) (hs : My n₀ W S o L) (hr : Rf B W r L) :
    Calls Try.prog 15 #[.pointer (some ⟨S, 0, none⟩), .pointer (some ⟨r, 0, none⟩), .int .i64 q] W fun e w' => e = .returned (.bool true) ∧ Below W.heap.size W w' := by
  have HS : Aside (My n₀ W S o L) := hs
  have HR : Aside (Rf B W r L) := hr
  have hn : L.length ≤ 65536 := hs.2.2.1
  have hO : Aside (Ok L) := hs.2.1
  clear hs hr
  have HSX : Aside (∀ X, Below W.heap.size W X → My n₀ X S o L ∧ Rf B X r L) := fun X hb => ⟨HS.out.below hb, HR.out.below hb⟩
  obtain ⟨W2, hW2⟩ : ∃ W2, (W.alloc (.cells #[.pointer (some ⟨r, 0, none⟩)] 25)).alloc (.cells #[.bool false] 4) = W2 := ⟨_, rfl⟩
  have hb2 : Below W.heap.size W W2 := by rw [← hW2]; exact ((Below.refl _ W).alloc (Nat.le_refl _) _).alloc (by simp) _
  have hz2 : W2.heap.size = W.heap.size + 2 := by rw [← hW2]; simp
  have hrb : W2.heap[W.heap.size]? = some (.cells #[.pointer (some ⟨r, 0, none⟩)] 25 (0, 0)) := by rw [← hW2, Below.heap_alloc _ _ _ (by simp)]; exact World.alloc_heap_new W _
  have hra : W2.heap[W.heap.size + 1]? = some (.cells #[.bool false] 4 (0, 0)) := by
    rw [← hW2]
    have := World.alloc_heap_new (W.alloc (.cells #[.pointer (some ⟨r, 0, none⟩)] 25)) (.cells #[.bool false] 4)
    rwa [World.size_alloc] at this
  have he := ends_my (HSX.out W2 hb2).1
  generalize hE1 : (EndV L).1 = E1 at he
  generalize hE2 : (EndV L).2 = E2 at he
  refine calls_calm Try.func15 rfl ?_
  simp only [Try.ntmps15, List.size_toArray, List.length_cons, List.length_nil, Nat.reduceAdd, Nat.reduceSub, Array.replicate_succ, Array.replicate_zero, List.push_toArray, List.append_toArray, List.nil_append, List.cons_append]
  go_wp2_with fail
  refine he.mono ?_
  clear he
  rintro e W3 ⟨rfl, hb3⟩
  have hb3' : Below W.heap.size W W3 := hb2.trans (hb3.mono hb2.size)
  have hrb3 := (hb3.block W.heap.size (by omega)).trans hrb
  have hra3 := (hb3.block (W.heap.size + 1) (by omega)).trans hra
  have crb : W3.cell? ⟨W.heap.size, 0, none⟩ = some (.pointer (some ⟨r, 0, none⟩)) := by simp [World.cell?, hrb3]
  have he := rends_c B r L W3 (HSX.out W3 hb3').2 hn
  rw [hE1, hE2] at he
  have hz3 : W.heap.size + 2 ≤ W3.heap.size := by have := hb3.size; omega
  clear hW2 hb2 hz2 hrb hra hb3
  go_wp2_with fail
  refine he.mono ?_
  clear he
  rintro e W4 ⟨rfl, hb4⟩
  go_wp2_with fail
  refine (all_any _ _).mono ?_
  rintro e W5 ⟨rfl, hW5⟩
  have HSD : Aside (Sd W S r W4.heap.size W5) := by
    have hb5 : Below W3.heap.size W3 W5 := by rw [hW5]; exact hb4.alloc hb4.size _
    refine ⟨hb3'.trans (hb5.mono hb3'.size), (hb5.block _ (by omega)).trans hrb3, (hb5.block _ (by omega)).trans hra3, by rw [hW5]; exact World.alloc_heap_new W4 _⟩
  have hBn : W.heap.size + 2 ≤ W4.heap.size := Nat.le_trans hz3 hb4.size
  clear hW5 hb4 hb3' hrb3 hra3 crb hz3 hE1 hE2
  generalize W4.heap.size = Bn at *
  -- what is asked for
  have HSd : Aside (Sd W S r Bn W5.drew) := HSD.out.below (Below.refl _ _).drew
  obtain ⟨o2, c2, hh2, hm2⟩ := id HR.out
  have HC : Aside (∀ X, Sd W S r Bn X → X.cell? ⟨W.heap.size, 0, none⟩ = some (.pointer (some ⟨r, 0, none⟩)) ∧ X.cell? ⟨r, 0, none⟩ = some (.slice o2 L.length c2)) := fun X h =>
    ⟨by simp [World.cell?, h.rb], (h.bel.cell (p := ⟨r, 0, none⟩) HR.out.lt).trans (by simp [World.cell?, hh2])⟩
  obtain ⟨bb, hbb⟩ : ∃ bb : Bool, (bb = true ↔ In q L) := by
    by_cases h : In q L
    · exact ⟨true, by simp [h]⟩
    · exact ⟨false, by simp [h]⟩
  obtain ⟨v, hv⟩ : ∃ v, GapV (max q 0) L v := by
    by_cases h : In (max q 0) L
    · obtain ⟨p, hp, h1, h2⟩ := h
      exact ⟨_, p.2 + 1, .inl ⟨p, hp, h1, h2, rfl⟩, rfl⟩
    · exact ⟨_, _, .inr ⟨h, rfl⟩, rfl⟩
  have H18 : Aside (∀ X, Sd W S r Bn X → Calls Try.prog 18 #[.pointer (some ⟨S, 0, none⟩)] X fun e w' => e = .returned (.int .i64 L.length) ∧ Sd W S r Bn w') := fun X h => (spans_my (HSX.out X h.bel).1).mono (by rintro e w' ⟨rfl, rfl⟩; exact ⟨rfl, h⟩)
  have H17 : Aside (∀ X, Sd W S r Bn X → Calls Try.prog 17 #[.pointer (some ⟨S, 0, none⟩), .int .i64 q] X fun e w' => e = .returned (.bool bb) ∧ Sd W S r Bn w') := fun X h => (has_my (HSX.out X h.bel).1 q).mono (by
    rintro e w' ⟨b, rfl, hb, hbel⟩
    obtain rfl : b = bb := by
      have : b = true ↔ bb = true := hb.trans hbb.symm
      cases b <;> cases bb <;> simp_all
    exact ⟨rfl, h.below hbel⟩)
  have H29 : Aside (∀ X, Sd W S r Bn X → Calls Try.prog 29 #[.pointer (some ⟨r, 0, none⟩), .int .i64 q] X fun e w' => e = .returned (.bool bb) ∧ Sd W S r Bn w') := fun X h => (rhas_c B r q L X (HSX.out X h.bel).2 hn).mono (by
    rintro e w' ⟨⟨b, rfl, hb⟩, rfl⟩
    obtain rfl : b = bb := by
      have : b = true ↔ bb = true := hb.trans hbb.symm
      cases b <;> cases bb <;> simp_all
    exact ⟨rfl, h⟩)
  have H19 : Aside (∀ X, Sd W S r Bn X → Calls Try.prog 19 #[.pointer (some ⟨S, 0, none⟩), .int .i64 q] X fun e w' => e = .returned (.int .i64 v) ∧ Sd W S r Bn w') := fun X h => (gap_my (HSX.out X h.bel).1 q).mono (by
    rintro e w' ⟨v', rfl, hv', hbel⟩
    obtain rfl := GapV_unique hO.out hv hv'
    exact ⟨rfl, h.below hbel⟩)
  have H30 : Aside (∀ X, Sd W S r Bn X → Calls Try.prog 30 #[.pointer (some ⟨r, 0, none⟩), .int .i64 q] X fun e w' => e = .returned (.int .i64 v) ∧ Sd W S r Bn w') := fun X h => (rgap_c B r q L X (HSX.out X h.bel).2 hn hO.out).mono (by
    rintro e w' ⟨v', rfl, hv', rfl⟩
    obtain rfl := GapV_unique hO.out hv hv'
    exact ⟨rfl, h⟩)
  have HM2 : Aside (MkP B W o2 c2 L) := hm2
  clear hbb hv hh2 hm2
  generalize hLn : L.length = M at *
  go_wp2_with fail
  go_cut [66] from 27 to 65 (fun s wx => s = .bool false ∧ Aside (Sd W S r Bn wx))
  case first =>
    go_region_held3 (fun w' => w'.cell? ⟨W.heap.size, 0, none⟩ = some (.pointer (some ⟨r, 0, none⟩)) ∧ w'.cell? ⟨r, 0, none⟩ = some (.slice o2 M c2)) (first | exact HC.out _ HX30.out | exact HC.out _ HX19.out | exact HC.out _ HX29.out | exact HC.out _ HX17.out | exact HC.out _ HX18.out | exact HC.out _ HSd.out) (first
      | (go_at_call 30; refine Calls.mono (H30.out _ HX19.out) ?_; rintro e w30 ⟨rfl, hp⟩; have HX30 : Aside _ := hp; clear hp)
      | (go_at_call 19; refine Calls.mono (H19.out _ HX29.out) ?_; rintro e w19 ⟨rfl, hp⟩; have HX19 : Aside _ := hp; clear hp)
      | (go_at_call 29; refine Calls.mono (H29.out _ HX17.out) ?_; rintro e w29 ⟨rfl, hp⟩; have HX29 : Aside _ := hp; clear hp)
      | (go_at_call 17; refine Calls.mono (H17.out _ HX18.out) ?_; rintro e w17 ⟨rfl, hp⟩; have HX17 : Aside _ := hp; clear hp)
      | (go_at_call 18; refine Calls.mono (H18.out _ HSd.out) ?_; rintro e w18 ⟨rfl, hp⟩; have HX18 : Aside _ := hp; clear hp))
    all_goals
      go_wp2_with fail
      go_meet
      exact ⟨rfl, HX30⟩
  case rest =>
  obtain ⟨rfl, HX⟩ := hcut
  clear HSd H17 H18 H19 H29 H30
  go_wp2
  obtain ⟨X1, hX1⟩ : ∃ X1, wc.alloc (.cells #[.int .i64 0] 3) = X1 := ⟨_, rfl⟩
  have HX1 : Aside (Sd W S r Bn X1) := by rw [← hX1]; exact Sd.below HX.out ((Below.refl _ _).alloc (Nat.le_refl _) _)
  have hRd0 : X1.heap[wc.heap.size]? = some (.cells #[.int .i64 0] 3 (0, 0)) := by rw [← hX1]; exact World.alloc_heap_new wc _
  have hRdW : W.heap.size + 2 ≤ wc.heap.size := Sd.size HX.out
  have hRdB : wc.heap.size ≠ Bn := by have := (Array.getElem?_eq_some_iff.1 (Sd.bn HX.out)).1; omega
  have cRd0 : X1.cell? ⟨wc.heap.size, 0, none⟩ = some (.int .i64 0) := by simp [World.cell?, hRd0]
  have HRd : Aside _ := hRd0
  rw [hX1]
  clear hRd0 hX1
  generalize wc.heap.size = Rd at *
  refine wp_loop_rounds 3 ?_
  rw [rounds_succ]
  go_wp2_with fail
  obtain ⟨X2, hX2⟩ : ∃ X2, X1.alloc (.cells #[.int .i64 0] 3) = X2 := ⟨_, rfl⟩
  rw [hX2]
  obtain ⟨Ib, hIb⟩ : ∃ Ib, Ib = X1.heap.size := ⟨_, rfl⟩
  rw [← hIb]
  refine wp_named ?_
  intro tm htm
  have HT : Aside (tm = _) := htm
  clear htm
  have hz2 : X2.heap.size = X1.heap.size + 1 := by rw [← hX2]; simp
  have hb2 : Below X1.heap.size X1 X2 := by rw [← hX2]; exact (Below.refl _ _).alloc (Nat.le_refl _) _
  have HX2 : Aside (Sd W S r Bn X2) := HX1.out.below hb2
  have hI2 : X2.heap[Ib]? = some (.cells #[.int .i64 0] 3 (0, 0)) := by rw [← hX2, hIb]; exact World.alloc_heap_new X1 _
  have hR2 : X2.heap[Rd]? = some (.cells #[.int .i64 0] 3 (0, 0)) := (hb2.block _ (Array.getElem?_eq_some_iff.1 HRd.out).1).trans HRd.out
  have hIR : Ib ≠ Rd := by have := (Array.getElem?_eq_some_iff.1 HRd.out).1; omega
  have hIW : W.heap.size + 2 ≤ Ib := by have := HX1.out.size; omega
  have hIB : Ib ≠ Bn := by have := (Array.getElem?_eq_some_iff.1 HX1.out.bn).1; omega
  have hIL : Ib < X2.heap.size := by omega
  have HI2 : Aside _ := hI2
  have HR2 : Aside _ := hR2
  have HXB : Aside (Below X1.heap.size X1 X2) := hb2
  have hZ2 : Aside (X2.heap.size = X1.heap.size + 1) := hz2
  clear hX2 hb2 hI2 hR2 hIb hz2
  refine wp_inBlock_after (fun a' W7 => ∃ D, a' = { tmps := tm, defers := { target := .collected D, args := #[] } :: [] } ∧ X2.heap.size ≤ D ∧ W7.heap[D]? = some (.deferred (some [])) ∧ Chg (fun k => k = Ib) X2 W7 ∧ True) ?_ ?_
  · have hI2 := HI2.out
    have t71 : tm[71]? = some (.func (.func 32) #[] #[.pointer (some ⟨Bn, 0, none⟩)]) := by rw [HT.out]; rfl
    have hs0 : tm.size = 111 := by rw [HT.out]; rfl
    obtain ⟨⟨cS, hSe⟩, _⟩ := id (HSX.out X2 HX2.out.bel).1
    have cBn : X2.cell? ⟨Bn, 0, none⟩ = some (.pointer (some ⟨S, 0, none⟩)) := by simp [World.cell?, HX2.out.bn]
    have hrow : ∀ k n c, X2.cell? ⟨Ib, 0, none⟩ = some (.slice (some ⟨k, 0, none⟩) n c) → k < X2.heap.size := by
      intro k n c e; simp [World.cell?, hI2] at e
    refine (wpIn_wide (n := 5)).1 ?_
    refine wpIn_rangeFunc_ownH rfl (by decide) (gf := 32) (lb := #[.pointer (some ⟨Bn, 0, none⟩)]) (by simp [Act.eval, t71]) trivial (enters_of Try.func32 (by kernel_rfl) rfl)
      (all_stops (fun k => k = Ib) ⟨Ib, 0, none⟩ Bn S cS o L X2 (by omega) (fun k e => by omega) hIL hrow cBn hSe)
      Kq.trans (Kq.put hIL) (Below.refl _ _) (fun _ => rfl)
      (StI X2 Ib L) (StX X2 Ib L 2) (StI_own X2 _ L _ (Nat.le_refl _)) (fun c => StX_own X2 _ L 2 c _ (Nat.le_refl _))
      ⟨List.nil_prefix, hI2, Chg.refl _ _⟩
      (fun x a' W => ∃ Bp, W.heap[Bp]? = some (.cells #[.int .i64 x.1, .int .i64 x.2] 50 (0, 0)) ∧
        a' = { tmps := (tm.setIfInBounds 72 (.agg #[.int .i64 x.1, .int .i64 x.2])).setIfInBounds 14 (.pointer (some ⟨Bp, 0, none⟩)), defers := [] })
      (fun x a' s A B row hs hg hr => by
        obtain ⟨Bp, q1, q4⟩ := hs
        exact ⟨Bp, kept_cells q1 hg hr, q4⟩) ?assign2 ?body2 ?done2 ?stop2
    case assign2 =>
      rintro l' pre x X K hi hK
      have hlI : Ib < X.heap.size := (Array.getElem?_eq_some_iff.1 hi.2.1).1
      have hK' := hK { tmps := (tm.setIfInBounds 72 (.agg #[.int .i64 x.1, .int .i64 x.2])).setIfInBounds 14 (.pointer (some ⟨X.heap.size, 0, none⟩)), defers := [] }
        (X.alloc (.cells #[.int .i64 x.1, .int .i64 x.2] 50)) ((KeepsOthers.alloc _ _).from _)
        ⟨by simp, fun k A t hk _ _ => Below.heap_alloc X _ k (Array.getElem?_eq_some_iff.1 hk).1, fun k n c hk e => ⟨n, c, by rwa [World.cell?_alloc_lt _ _ _ hlI] at e⟩⟩
        (OwnFrom.alloc (StI_own X2 _ L X2.heap.size (Nat.le_refl _)) _ hi)
        ⟨X.heap.size, World.alloc_heap_new X _, rfl⟩
      simp only [encS]
      gi_wp2
      exact hK'
    case body2 =>
      rintro l' pre x a' X hl' ⟨rr, hrr⟩ ⟨hpre, hI, hcX⟩ ⟨Bp, hBp, rfl⟩ hlt
      have htm := HT.out
      subst htm
      refine wpIn_block ?_
      obtain ⟨xa, xb⟩ := x
      have HSX7 : Aside (Sd W S r Bn X) := HX2.out.chg hcX (fun k e => by omega)
      have cI : X.cell? ⟨Ib, 0, none⟩ = some (.int .i64 pre.length) := by simp [World.cell?, hI]
      have cP0 : X.cell? ⟨Bp, 0, none⟩ = some (.int .i64 xa) := by simp [World.cell?, hBp]
      have cP1 : X.cell? ⟨Bp, 1, none⟩ = some (.int .i64 xb) := by simp [World.cell?, hBp]
      obtain ⟨cW, cR⟩ := HC.out X HSX7.out
      have hRX : X.heap[Rd]? = some (.cells #[.int .i64 0] 3 (0, 0)) := (hcX.2.2.2.2 _ (Array.getElem?_eq_some_iff.1 HR2.out).1 (fun e => hIR e.symm)).trans HR2.out
      have cRd : X.cell? ⟨Rd, 0, none⟩ = some (.int .i64 0) := by simp [World.cell?, hRX]
      have hIf : X.frozen? ⟨Ib, 0, none⟩ = false := by simp [World.frozen?, hI]
      have cA : X.cell? ⟨W.heap.size + 1, 0, none⟩ = some (.bool false) := by simp [World.cell?, HSX7.out.ra]
      have fA : X.frozen? ⟨W.heap.size + 1, 0, none⟩ = false := by simp [World.frozen?, HSX7.out.ra]
      have HRA : Aside _ := HSX7.out.ra
      have hltL : pre.length < L.length := by omega
      obtain ⟨g, hog, cy0', cy1'⟩ := row_cells (HM2.out.1) pre.length hltL
      subst hog
      have lgW : g < W.heap.size := World.block_lt_of_cell? _ _ cy0'
      have cy0 := (HSX7.out.bel.cell (p := ⟨g, pre.length * 2, none⟩) lgW).trans cy0'
      have cy1 := (HSX7.out.bel.cell (p := ⟨g, pre.length * 2 + 1, none⟩) lgW).trans cy1'
      have hmM : (pre.length : Int) < (M : Int) := by omega
      have hmN : pre.length < M := by omega
      have hpx : pre ++ [(xa, xb)] <+: L ↔ L[pre.length]'hltL = (xa, xb) := by
        obtain ⟨t, ht⟩ := hpre
        subst ht
        rw [List.prefix_append_right_inj, List.getElem_append_right (Nat.le_refl _)]
        cases t with
        | nil => simp at hltL
        | cons q t => simp [eq_comm]
      generalize hyy : L[pre.length]'hltL = yy at cy0 cy1 hpx
      obtain ⟨ya, yb⟩ := yy
      dsimp only at cy0 cy1
      have HN1 : Aside (pre ++ [(xa, xb)] <+: L ↔ (ya, yb) = (xa, xb)) := hpx
      have HKK : Aside (pre ++ [(xa, xb)] <+: L → _) := fun hp => sta_body hI hcX hp X2.heap.size
      have hwI : Below X.heap.size X X.drew := ⟨rfl, rfl, rfl, Nat.le_refl _, fun _ _ => rfl⟩
      have cRd' : ∀ u, (X.drew.setCell ⟨Ib, 0, none⟩ u).cell? ⟨Rd, 0, none⟩ = some (.int .i64 0) := fun u => (World.cell?_setCell_other _ _ _ _ (by simp <;> omega)).trans cRd
      clear hI hcX hBp hpx hyy hRX cy0' cy1' HSX7 hI2 t71 hs0 cBn hrow hSe hpre hwI
      generalize hm : pre.length = m at *
      by_cases hne : (ya, yb) = (xa, xb)
      · obtain ⟨e1, e2⟩ : ya = xa ∧ yb = xb := by simpa using hne
        subst e1 e2
        have hKF := HKK.out (HN1.out.2 rfl)
        have cI2 := hKF.2.2.2
        have HKF : Aside _ := hKF
        have hmw : IntKind.i64.wrap ((m : Int) + 1) = (m : Int) + 1 := by rw [IntKind.wrap_i64]; omega
        clear hKF
        gi_wp2
        refine region_round (fun W' => W'.cell? ⟨Ib, 0, none⟩ = some (.int .i64 (m : Int)) ∧ W'.cell? ⟨W.heap.size, 0, none⟩ = some (.pointer (some ⟨r, 0, none⟩)) ∧ W'.cell? ⟨r, 0, none⟩ = some (.slice (some ⟨g, 0, none⟩) M c2) ∧ W'.cell? ⟨Bp, 0, none⟩ = some (.int .i64 ya) ∧ W'.cell? ⟨Bp, 1, none⟩ = some (.int .i64 yb) ∧ W'.cell? ⟨g, m * 2, none⟩ = some (.int .i64 ya) ∧ W'.cell? ⟨g, m * 2 + 1, none⟩ = some (.int .i64 yb)) (by kernel_rfl) ?hd2 ?hQ2 ?hS2 (fun hHeld => ?_)
        case hd2 => exact noDefer (by kernel_rfl)
        case hQ2 => rintro ⟨a, w, hF⟩; exact hF
        case hS2 => exact ⟨cI, cW, cR, cP0, cP1, cy0, cy1⟩
        refine wpAnyH_take (i := 0) (v := .int .i64 (m : Int)) rfl (by kernel_rfl) (by kernel_rfl) (by kernel_rfl) (fun _ _ _ h => h) (Or.inl ⟨by rfl, by rintro w ⟨s0, s1, s2, s3, s4, s5, s6⟩; go_simp⟩) hHeld ?_
        refine norm_any' (fun K hK => ?_)
        go_simp
        refine hK _ _ ?_
        clear hK K
        refine wpAnyH_take (i := 1) (v := .pointer (some ⟨r, 0, none⟩)) rfl (by kernel_rfl) (by kernel_rfl) (by kernel_rfl) (fun _ _ _ h => h) (Or.inl ⟨by rfl, by rintro w ⟨s0, s1, s2, s3, s4, s5, s6⟩; go_simp⟩) hHeld ?_
        refine norm_any' (fun K hK => ?_)
        go_simp
        refine hK _ _ ?_
        clear hK K
        refine wpAnyH_take (i := 2) (v := .pointer (some ⟨r, 0, none⟩)) rfl (by kernel_rfl) (by kernel_rfl) (by kernel_rfl) (fun _ _ _ h => h) (Or.inl ⟨by rfl, by rintro w ⟨s0, s1, s2, s3, s4, s5, s6⟩; go_simp⟩) hHeld ?_
        refine norm_any' (fun K hK => ?_)
        go_simp
        refine hK _ _ ?_
        clear hK K
        refine wpAnyH_take (i := 3) (v := .pointer (some ⟨r, 0, none⟩)) rfl (by kernel_rfl) (by kernel_rfl) (by kernel_rfl) (fun _ _ _ h => h) (Or.inl ⟨by rfl, by rintro w ⟨s0, s1, s2, s3, s4, s5, s6⟩; go_simp⟩) hHeld ?_
        refine norm_any' (fun K hK => ?_)
        go_simp
        refine hK _ _ ?_
        clear hK K
        refine wpAnyH_take (i := 4) (v := .slice (some ⟨g, 0, none⟩) M c2) rfl (by kernel_rfl) (by kernel_rfl) (by kernel_rfl) (fun _ _ _ h => h) (Or.inl ⟨by rfl, by rintro w ⟨s0, s1, s2, s3, s4, s5, s6⟩; go_simp⟩) hHeld ?_
        refine norm_any' (fun K hK => ?_)
        go_simp
        refine hK _ _ ?_
        clear hK K
        refine wpAnyH_take (i := 5) (v := .int .i64 (M : Int)) rfl (by kernel_rfl) (by kernel_rfl) (by kernel_rfl) (fun _ _ _ h => h) (Or.inl ⟨by rfl, by rintro w ⟨s0, s1, s2, s3, s4, s5, s6⟩; go_simp⟩) hHeld ?_
        refine norm_any' (fun K hK => ?_)
        go_simp
        refine hK _ _ ?_
        clear hK K
        refine wpAnyH_take (i := 6) (v := .bool false) rfl (by kernel_rfl) (by kernel_rfl) (by kernel_rfl) (fun _ _ _ h => h) (Or.inl ⟨by rfl, by rintro w ⟨s0, s1, s2, s3, s4, s5, s6⟩; go_simp⟩) hHeld ?_
        refine norm_any' (fun K hK => ?_)
        go_simp
        refine hK _ _ ?_
        clear hK K
        refine wpAnyH_take (i := 7) (v := .bool false) rfl (by kernel_rfl) (by kernel_rfl) (by kernel_rfl) (fun _ _ _ h => h) (Or.inl ⟨by rfl, by rintro w ⟨s0, s1, s2, s3, s4, s5, s6⟩; go_simp⟩) hHeld ?_
        refine norm_any' (fun K hK => ?_)
        go_simp
        refine hK _ _ ?_
        clear hK K
        refine wpAnyH_take (i := 8) (v := .agg #[.int .i64 ya, .int .i64 yb]) rfl (by kernel_rfl) (by kernel_rfl) (by kernel_rfl) (fun _ _ _ h => h) (Or.inl ⟨by rfl, by rintro w ⟨s0, s1, s2, s3, s4, s5, s6⟩; go_simp⟩) hHeld ?_
        refine norm_any' (fun K hK => ?_)
        go_simp
        refine hK _ _ ?_
        clear hK K
        refine wpAnyH_take (i := 9) (v := .pointer (some ⟨r, 0, none⟩)) rfl (by kernel_rfl) (by kernel_rfl) (by kernel_rfl) (fun _ _ _ h => h) (Or.inl ⟨by rfl, by rintro w ⟨s0, s1, s2, s3, s4, s5, s6⟩; go_simp⟩) hHeld ?_
        refine norm_any' (fun K hK => ?_)
        go_simp
        refine hK _ _ ?_
        clear hK K
        refine wpAnyH_take (i := 10) (v := .pointer (some ⟨r, 0, none⟩)) rfl (by kernel_rfl) (by kernel_rfl) (by kernel_rfl) (fun _ _ _ h => h) (Or.inl ⟨by rfl, by rintro w ⟨s0, s1, s2, s3, s4, s5, s6⟩; go_simp⟩) hHeld ?_
        refine norm_any' (fun K hK => ?_)
        go_simp
        refine hK _ _ ?_
        clear hK K
        refine wpAnyH_take (i := 11) (v := .pointer (some ⟨r, 0, none⟩)) rfl (by kernel_rfl) (by kernel_rfl) (by kernel_rfl) (fun _ _ _ h => h) (Or.inl ⟨by rfl, by rintro w ⟨s0, s1, s2, s3, s4, s5, s6⟩; go_simp⟩) hHeld ?_
        refine norm_any' (fun K hK => ?_)
        go_simp
        refine hK _ _ ?_
        clear hK K
        refine wpAnyH_take (i := 12) (v := .slice (some ⟨g, 0, none⟩) M c2) rfl (by kernel_rfl) (by kernel_rfl) (by kernel_rfl) (fun _ _ _ h => h) (Or.inl ⟨by rfl, by rintro w ⟨s0, s1, s2, s3, s4, s5, s6⟩; go_simp⟩) hHeld ?_
        refine norm_any' (fun K hK => ?_)
        go_simp
        refine hK _ _ ?_
        clear hK K
        refine wpAnyH_take (i := 13) (v := .int .i64 (m : Int)) rfl (by kernel_rfl) (by kernel_rfl) (by kernel_rfl) (fun _ _ _ h => h) (Or.inl ⟨by rfl, by rintro w ⟨s0, s1, s2, s3, s4, s5, s6⟩; go_simp⟩) hHeld ?_
        refine norm_any' (fun K hK => ?_)
        go_simp
        refine hK _ _ ?_
        clear hK K
        refine wpAnyH_take (i := 14) (v := .pointer (some ⟨g, m * 2, none⟩)) rfl (by kernel_rfl) (by kernel_rfl) (by kernel_rfl) (fun _ _ _ h => h) (Or.inl ⟨by rfl, by rintro w ⟨s0, s1, s2, s3, s4, s5, s6⟩; go_simp⟩) hHeld ?_
        refine norm_any' (fun K hK => ?_)
        go_simp
        refine hK _ _ ?_
        clear hK K
        refine wpAnyH_take (i := 15) (v := .agg #[.int .i64 ya, .int .i64 yb]) rfl (by kernel_rfl) (by kernel_rfl) (by kernel_rfl) (fun _ _ _ h => h) (Or.inl ⟨by rfl, by rintro w ⟨s0, s1, s2, s3, s4, s5, s6⟩; go_simp⟩) hHeld ?_
        refine norm_any' (fun K hK => ?_)
        go_simp
        refine hK _ _ ?_
        clear hK K
        refine wpAnyH_take (i := 16) (v := .bool false) rfl (by kernel_rfl) (by kernel_rfl) (by kernel_rfl) (fun _ _ _ h => h) (Or.inl ⟨by rfl, by intro w _; have hq := neq50 ya yb ya yb w; simp at hq; go_simp⟩) hHeld ?_
        refine norm_any' (fun K hK => ?_)
        go_simp
        refine hK _ _ ?_
        clear hK K
        refine wpAnyH_take (i := 17) (v := .bool false) rfl (by kernel_rfl) (by kernel_rfl) (by kernel_rfl) (fun _ _ _ h => h) (Or.inl ⟨by rfl, by rintro w ⟨s0, s1, s2, s3, s4, s5, s6⟩; go_simp⟩) hHeld ?_
        refine norm_any' (fun K hK => ?_)
        go_simp
        refine hK _ _ ?_
        clear hK K
        refine wpAnyH_done (by kernel_rfl) ?_ _
        by_cases hm1 : m = 1
        · have b1 : decide ((m : Int) + 1 = 2) = true := by simp; omega
          have b2 : ((m : Int) + 1 = 2) := by omega
          rw [b2] at HKF cI2
          clear hm1
          gi_wp2
          exact ⟨HKF.out.1, .inr ⟨rfl, HKF.out.2.2.1.2.2⟩⟩
        · have b1 : decide ((m : Int) + 1 = 2) = false := by simp; omega
          have b2 : ¬ ((m : Int) + 1 = 2) := by omega
          gi_wp2
          exact ⟨HKF.out.1, HKF.out.2.1, HKF.out.2.2.1⟩
      · have hnn : xa = ya → ¬ xb = yb := fun h1 h2 => hne (by rw [h1, h2])
        have HKR : Aside (KeepsFrom X2.heap.size X (X.drew.setCell ⟨W.heap.size + 1, 0, none⟩ (.bool false))) := by
          have hRd : X.drew.heap[W.heap.size + 1]? = some (.cells #[.bool false] 4 (0, 0)) := HRA.out
          show KeepsFrom _ _ _
          rw [setCell_eq_setRow X.drew (W.heap.size + 1) 0 _ 4 (0, 0) _ hRd]
          exact keeps_set_drew HRA.out _ _
        gi_wp2
        refine region_round (fun W' => W'.cell? ⟨Ib, 0, none⟩ = some (.int .i64 (m : Int)) ∧ W'.cell? ⟨W.heap.size, 0, none⟩ = some (.pointer (some ⟨r, 0, none⟩)) ∧ W'.cell? ⟨r, 0, none⟩ = some (.slice (some ⟨g, 0, none⟩) M c2) ∧ W'.cell? ⟨Bp, 0, none⟩ = some (.int .i64 xa) ∧ W'.cell? ⟨Bp, 1, none⟩ = some (.int .i64 xb) ∧ W'.cell? ⟨g, m * 2, none⟩ = some (.int .i64 ya) ∧ W'.cell? ⟨g, m * 2 + 1, none⟩ = some (.int .i64 yb)) (by kernel_rfl) ?hd22 ?hQ22 ?hS22 (fun hHeld => ?_)
        case hd22 => exact noDefer (by kernel_rfl)
        case hQ22 => rintro ⟨a, w, hF⟩; exact hF
        case hS22 => exact ⟨cI, cW, cR, cP0, cP1, cy0, cy1⟩
        refine wpAnyH_take (i := 0) (v := .int .i64 (m : Int)) rfl (by kernel_rfl) (by kernel_rfl) (by kernel_rfl) (fun _ _ _ h => h) (Or.inl ⟨by rfl, by rintro w ⟨s0, s1, s2, s3, s4, s5, s6⟩; go_simp⟩) hHeld ?_
        refine norm_any' (fun K hK => ?_)
        go_simp
        refine hK _ _ ?_
        clear hK K
        refine wpAnyH_take (i := 1) (v := .pointer (some ⟨r, 0, none⟩)) rfl (by kernel_rfl) (by kernel_rfl) (by kernel_rfl) (fun _ _ _ h => h) (Or.inl ⟨by rfl, by rintro w ⟨s0, s1, s2, s3, s4, s5, s6⟩; go_simp⟩) hHeld ?_
        refine norm_any' (fun K hK => ?_)
        go_simp
        refine hK _ _ ?_
        clear hK K
        refine wpAnyH_take (i := 2) (v := .pointer (some ⟨r, 0, none⟩)) rfl (by kernel_rfl) (by kernel_rfl) (by kernel_rfl) (fun _ _ _ h => h) (Or.inl ⟨by rfl, by rintro w ⟨s0, s1, s2, s3, s4, s5, s6⟩; go_simp⟩) hHeld ?_
        refine norm_any' (fun K hK => ?_)
        go_simp
        refine hK _ _ ?_
        clear hK K
        refine wpAnyH_take (i := 3) (v := .pointer (some ⟨r, 0, none⟩)) rfl (by kernel_rfl) (by kernel_rfl) (by kernel_rfl) (fun _ _ _ h => h) (Or.inl ⟨by rfl, by rintro w ⟨s0, s1, s2, s3, s4, s5, s6⟩; go_simp⟩) hHeld ?_
        refine norm_any' (fun K hK => ?_)
        go_simp
        refine hK _ _ ?_
        clear hK K
        refine wpAnyH_take (i := 4) (v := .slice (some ⟨g, 0, none⟩) M c2) rfl (by kernel_rfl) (by kernel_rfl) (by kernel_rfl) (fun _ _ _ h => h) (Or.inl ⟨by rfl, by rintro w ⟨s0, s1, s2, s3, s4, s5, s6⟩; go_simp⟩) hHeld ?_
        refine norm_any' (fun K hK => ?_)
        go_simp
        refine hK _ _ ?_
        clear hK K
        refine wpAnyH_take (i := 5) (v := .int .i64 (M : Int)) rfl (by kernel_rfl) (by kernel_rfl) (by kernel_rfl) (fun _ _ _ h => h) (Or.inl ⟨by rfl, by rintro w ⟨s0, s1, s2, s3, s4, s5, s6⟩; go_simp⟩) hHeld ?_
        refine norm_any' (fun K hK => ?_)
        go_simp
        refine hK _ _ ?_
        clear hK K
        refine wpAnyH_take (i := 6) (v := .bool false) rfl (by kernel_rfl) (by kernel_rfl) (by kernel_rfl) (fun _ _ _ h => h) (Or.inl ⟨by rfl, by rintro w ⟨s0, s1, s2, s3, s4, s5, s6⟩; go_simp⟩) hHeld ?_
        refine norm_any' (fun K hK => ?_)
        go_simp
        refine hK _ _ ?_
        clear hK K
        refine wpAnyH_take (i := 7) (v := .bool false) rfl (by kernel_rfl) (by kernel_rfl) (by kernel_rfl) (fun _ _ _ h => h) (Or.inl ⟨by rfl, by rintro w ⟨s0, s1, s2, s3, s4, s5, s6⟩; go_simp⟩) hHeld ?_
        refine norm_any' (fun K hK => ?_)
        go_simp
        refine hK _ _ ?_
        clear hK K
        refine wpAnyH_take (i := 8) (v := .agg #[.int .i64 xa, .int .i64 xb]) rfl (by kernel_rfl) (by kernel_rfl) (by kernel_rfl) (fun _ _ _ h => h) (Or.inl ⟨by rfl, by rintro w ⟨s0, s1, s2, s3, s4, s5, s6⟩; go_simp⟩) hHeld ?_
        refine norm_any' (fun K hK => ?_)
        go_simp
        refine hK _ _ ?_
        clear hK K
        refine wpAnyH_take (i := 9) (v := .pointer (some ⟨r, 0, none⟩)) rfl (by kernel_rfl) (by kernel_rfl) (by kernel_rfl) (fun _ _ _ h => h) (Or.inl ⟨by rfl, by rintro w ⟨s0, s1, s2, s3, s4, s5, s6⟩; go_simp⟩) hHeld ?_
        refine norm_any' (fun K hK => ?_)
        go_simp
        refine hK _ _ ?_
        clear hK K
        refine wpAnyH_take (i := 10) (v := .pointer (some ⟨r, 0, none⟩)) rfl (by kernel_rfl) (by kernel_rfl) (by kernel_rfl) (fun _ _ _ h => h) (Or.inl ⟨by rfl, by rintro w ⟨s0, s1, s2, s3, s4, s5, s6⟩; go_simp⟩) hHeld ?_
        refine norm_any' (fun K hK => ?_)
        go_simp
        refine hK _ _ ?_
        clear hK K
        refine wpAnyH_take (i := 11) (v := .pointer (some ⟨r, 0, none⟩)) rfl (by kernel_rfl) (by kernel_rfl) (by kernel_rfl) (fun _ _ _ h => h) (Or.inl ⟨by rfl, by rintro w ⟨s0, s1, s2, s3, s4, s5, s6⟩; go_simp⟩) hHeld ?_
        refine norm_any' (fun K hK => ?_)
        go_simp
        refine hK _ _ ?_
        clear hK K
        refine wpAnyH_take (i := 12) (v := .slice (some ⟨g, 0, none⟩) M c2) rfl (by kernel_rfl) (by kernel_rfl) (by kernel_rfl) (fun _ _ _ h => h) (Or.inl ⟨by rfl, by rintro w ⟨s0, s1, s2, s3, s4, s5, s6⟩; go_simp⟩) hHeld ?_
        refine norm_any' (fun K hK => ?_)
        go_simp
        refine hK _ _ ?_
        clear hK K
        refine wpAnyH_take (i := 13) (v := .int .i64 (m : Int)) rfl (by kernel_rfl) (by kernel_rfl) (by kernel_rfl) (fun _ _ _ h => h) (Or.inl ⟨by rfl, by rintro w ⟨s0, s1, s2, s3, s4, s5, s6⟩; go_simp⟩) hHeld ?_
        refine norm_any' (fun K hK => ?_)
        go_simp
        refine hK _ _ ?_
        clear hK K
        refine wpAnyH_take (i := 14) (v := .pointer (some ⟨g, m * 2, none⟩)) rfl (by kernel_rfl) (by kernel_rfl) (by kernel_rfl) (fun _ _ _ h => h) (Or.inl ⟨by rfl, by rintro w ⟨s0, s1, s2, s3, s4, s5, s6⟩; go_simp⟩) hHeld ?_
        refine norm_any' (fun K hK => ?_)
        go_simp
        refine hK _ _ ?_
        clear hK K
        refine wpAnyH_take (i := 15) (v := .agg #[.int .i64 ya, .int .i64 yb]) rfl (by kernel_rfl) (by kernel_rfl) (by kernel_rfl) (fun _ _ _ h => h) (Or.inl ⟨by rfl, by rintro w ⟨s0, s1, s2, s3, s4, s5, s6⟩; go_simp⟩) hHeld ?_
        refine norm_any' (fun K hK => ?_)
        go_simp
        refine hK _ _ ?_
        clear hK K
        refine wpAnyH_take (i := 16) (v := .bool true) rfl (by kernel_rfl) (by kernel_rfl) (by kernel_rfl) (fun _ _ _ h => h) (Or.inl ⟨by rfl, by intro w _; first | (go_simp; done) | (go_simp; exact hnn)⟩) hHeld ?_
        refine norm_any' (fun K hK => ?_)
        go_simp
        refine hK _ _ ?_
        clear hK K
        refine wpAnyH_take (i := 17) (v := .bool true) rfl (by kernel_rfl) (by kernel_rfl) (by kernel_rfl) (fun _ _ _ h => h) (Or.inl ⟨by rfl, by rintro w ⟨s0, s1, s2, s3, s4, s5, s6⟩; go_simp⟩) hHeld ?_
        refine norm_any' (fun K hK => ?_)
        go_simp
        refine hK _ _ ?_
        clear hK K
        refine wpAnyH_done (by kernel_rfl) ?_ _
        gi_wp2
        exact ⟨HKR.out, .inl (fun h => hne (HN1.out.1 h))⟩
    case done2 =>
      rintro D ys W7 hD hys ⟨_, hI7, hc7⟩ hK7
      subst hys
      exact ⟨.inl rfl, D, rfl, hD, hK7, hc7, trivial⟩
    case stop2 =>
      rintro D cd pre W7 hD hSp hX7 hK7
      rcases hX7 with h | ⟨rfl, hc7⟩
      · exact absurd hSp h
      · refine wpIn_exit ?_
        exact ⟨.inr rfl, D, rfl, hD, hK7, hc7, trivial⟩
  · rintro a' W7 ⟨D1, rfl, hD1, hK1, hc7, _⟩
    have htm := HT.out
    subst htm
    have HX7 : Aside (Sd W S r Bn W7) := HX2.out.chg hc7 (fun k e => by omega)
    have hR7 : W7.heap[Rd]? = some (.cells #[.int .i64 0] 3 (0, 0)) := (hc7.2.2.2.2 _ (Array.getElem?_eq_some_iff.1 HR2.out).1 (fun e => hIR e.symm)).trans HR2.out
    have cR7 : W7.cell? ⟨Rd, 0, none⟩ = some (.int .i64 0) := by simp [World.cell?, hR7]
    have HK1 : Aside _ := hK1
    have HD1 : Aside (W.heap.size + 2 ≤ D1) := by have := HX2.out.size; show W.heap.size + 2 ≤ D1; omega
    clear hR7 hK1 hc7 HX2 HR2 HI2 HXB hD1 hZ2
    go_wp2_with fail
    go_quiet (fail)
    have hb8 : Below W7.heap.size W7 (W7.drewN nq) := ⟨rfl, rfl, rfl, Nat.le_refl _, fun _ _ => rfl⟩
    generalize W7.drewN nq = W8 at hb8 ⊢
    have HX8 : Aside (Sd W S r Bn W8) := Sd.below HX7.out hb8
    have cR8 : W8.cell? ⟨Rd, 0, none⟩ = some (.int .i64 0) := (hb8.cell (p := ⟨Rd, 0, none⟩) (World.block_lt_of_cell? _ _ cR7)).trans cR7
    have HK8 : Aside (W8.heap[D1]? = some (.deferred (some []))) := (hb8.block _ (Array.getElem?_eq_some_iff.1 HK1.out).1).trans HK1.out
    clear hb8 HX7 cR7 HK1
    go_wp2
    obtain ⟨Y1, hY1⟩ : ∃ Y1, W8.alloc (.cells #[.int .i64 1] 3) = Y1 := ⟨_, rfl⟩
    have hb9 : Below W8.heap.size W8 Y1 := by rw [← hY1]; exact (Below.refl _ _).alloc (Nat.le_refl _) _
    have HY1 : Aside (Sd W S r Bn Y1) := Sd.below HX8.out hb9
    have hRd1 : Y1.heap[W8.heap.size]? = some (.cells #[.int .i64 1] 3 (0, 0)) := by rw [← hY1]; exact World.alloc_heap_new W8 _
    have hRdW1 : W.heap.size + 2 ≤ W8.heap.size := Sd.size HX8.out
    have hRdB1 : W8.heap.size ≠ Bn := by have := (Array.getElem?_eq_some_iff.1 (Sd.bn HX8.out)).1; omega
    have cRd1 : Y1.cell? ⟨W8.heap.size, 0, none⟩ = some (.int .i64 1) := by simp [World.cell?, hRd1]
    have HK9 : Aside (Y1.heap[D1]? = some (.deferred (some []))) := (hb9.block _ (Array.getElem?_eq_some_iff.1 HK8.out).1).trans HK8.out
    have HRd : Aside _ := hRd1
    rw [hY1]
    clear hRd1 hY1 hb9 HX8 cR8 HK8
    generalize W8.heap.size = Rd1 at *
    rw [rounds_succ]
    clear hIR hIW hIB hIL
    go_wp2_with fail
    obtain ⟨Y2, hY2⟩ : ∃ Y2, Y1.alloc (.cells #[.int .i64 0] 3) = Y2 := ⟨_, rfl⟩
    rw [hY2]
    clear Ib
    obtain ⟨Ib, hIb⟩ : ∃ Ib, Ib = Y1.heap.size := ⟨_, rfl⟩
    rw [← hIb]
    refine wp_named ?_
    intro tm htm
    have HT : Aside (tm = _) := htm
    clear htm
    have hz3 : Y2.heap.size = Y1.heap.size + 1 := by rw [← hY2]; simp
    have hb3 : Below Y1.heap.size Y1 Y2 := by rw [← hY2]; exact (Below.refl _ _).alloc (Nat.le_refl _) _
    have HX3 : Aside (Sd W S r Bn Y2) := HY1.out.below hb3
    have hI3 : Y2.heap[Ib]? = some (.cells #[.int .i64 0] 3 (0, 0)) := by rw [← hY2, hIb]; exact World.alloc_heap_new Y1 _
    have hR3 : Y2.heap[Rd1]? = some (.cells #[.int .i64 1] 3 (0, 0)) := (hb3.block _ (Array.getElem?_eq_some_iff.1 HRd.out).1).trans HRd.out
    have hIR : Ib ≠ Rd1 := by have := (Array.getElem?_eq_some_iff.1 HRd.out).1; omega
    have hIW : W.heap.size + 2 ≤ Ib := by have := HY1.out.size; omega
    have hIB : Ib ≠ Bn := by have := (Array.getElem?_eq_some_iff.1 HY1.out.bn).1; omega
    have hIL : Ib < Y2.heap.size := by omega
    have HI3 : Aside _ := hI3
    have HR3 : Aside _ := hR3
    have HXB : Aside (Below Y1.heap.size Y1 Y2) := hb3
    have hZ3 : Aside (Y2.heap.size = Y1.heap.size + 1) := hz3
    clear hY2 hb3 hI3 hR3 hIb hz3
    refine wp_inBlock_after (fun a' W7 => ∃ D, a' = { tmps := tm, defers := { target := .collected D, args := #[] } :: [{ target := .collected D1, args := #[] }] } ∧ Y2.heap.size ≤ D ∧ W7.heap[D]? = some (.deferred (some [])) ∧ Chg (fun k => k = Ib) Y2 W7 ∧ W7.heap[Ib]? = some (.cells #[.int .i64 M] 3 (0, 0))) ?_ ?_
    · have hI3 := HI3.out
      have t71 : tm[71]? = some (.func (.func 32) #[] #[.pointer (some ⟨Bn, 0, none⟩)]) := by rw [HT.out]; rfl
      have hs0 : tm.size = 111 := by rw [HT.out]; rfl
      obtain ⟨⟨cS, hSe⟩, _⟩ := id (HSX.out Y2 HX3.out.bel).1
      have cBn : Y2.cell? ⟨Bn, 0, none⟩ = some (.pointer (some ⟨S, 0, none⟩)) := by simp [World.cell?, HX3.out.bn]
      have hrow : ∀ k n c, Y2.cell? ⟨Ib, 0, none⟩ = some (.slice (some ⟨k, 0, none⟩) n c) → k < Y2.heap.size := by
        intro k n c e; simp [World.cell?, hI3] at e
      refine (wpIn_wide (n := 5)).1 ?_
      refine wpIn_rangeFunc_ownH rfl (by decide) (gf := 32) (lb := #[.pointer (some ⟨Bn, 0, none⟩)]) (by simp [Act.eval, t71]) trivial (enters_of Try.func32 (by kernel_rfl) rfl)
        (all_stops (fun k => k = Ib) ⟨Ib, 0, none⟩ Bn S cS o L Y2 (by omega) (fun k e => by omega) hIL hrow cBn hSe)
        Kq.trans (Kq.put hIL) (Below.refl _ _) (fun _ => rfl)
        (StI Y2 Ib L) (fun _ pre _ => ¬ pre <+: L) (StI_own Y2 _ L _ (Nat.le_refl _)) (fun _ _ _ _ _ hs _ _ => hs)
        ⟨List.nil_prefix, hI3, Chg.refl _ _⟩
        (fun x a' W => ∃ Bp, W.heap[Bp]? = some (.cells #[.int .i64 x.1, .int .i64 x.2] 50 (0, 0)) ∧
          a' = { tmps := (tm.setIfInBounds 72 (.agg #[.int .i64 x.1, .int .i64 x.2])).setIfInBounds 14 (.pointer (some ⟨Bp, 0, none⟩)), defers := [] })
        (fun x a' s A B row hs hg hr => by
          obtain ⟨Bp, q1, q4⟩ := hs
          exact ⟨Bp, kept_cells q1 hg hr, q4⟩) ?assign3 ?body3 ?done3 ?stop3
      case assign3 =>
        rintro l' pre x X K hi hK
        have hlI : Ib < X.heap.size := (Array.getElem?_eq_some_iff.1 hi.2.1).1
        have hK' := hK { tmps := (tm.setIfInBounds 72 (.agg #[.int .i64 x.1, .int .i64 x.2])).setIfInBounds 14 (.pointer (some ⟨X.heap.size, 0, none⟩)), defers := [] }
          (X.alloc (.cells #[.int .i64 x.1, .int .i64 x.2] 50)) ((KeepsOthers.alloc _ _).from _)
          ⟨by simp, fun k A t hk _ _ => Below.heap_alloc X _ k (Array.getElem?_eq_some_iff.1 hk).1, fun k n c hk e => ⟨n, c, by rwa [World.cell?_alloc_lt _ _ _ hlI] at e⟩⟩
          (OwnFrom.alloc (StI_own Y2 _ L Y2.heap.size (Nat.le_refl _)) _ hi)
          ⟨X.heap.size, World.alloc_heap_new X _, rfl⟩
        simp only [encS]
        gi_wp2
        exact hK'
      case body3 =>
        rintro l' pre x a' X hl' ⟨rr, hrr⟩ ⟨hpre, hI, hcX⟩ ⟨Bp, hBp, rfl⟩ hlt
        have htm := HT.out
        subst htm
        refine wpIn_block ?_
        obtain ⟨xa, xb⟩ := x
        have HSX7 : Aside (Sd W S r Bn X) := HX3.out.chg hcX (fun k e => by omega)
        have cI : X.cell? ⟨Ib, 0, none⟩ = some (.int .i64 pre.length) := by simp [World.cell?, hI]
        have cP0 : X.cell? ⟨Bp, 0, none⟩ = some (.int .i64 xa) := by simp [World.cell?, hBp]
        have cP1 : X.cell? ⟨Bp, 1, none⟩ = some (.int .i64 xb) := by simp [World.cell?, hBp]
        obtain ⟨cW, cR⟩ := HC.out X HSX7.out
        have hRX : X.heap[Rd1]? = some (.cells #[.int .i64 1] 3 (0, 0)) := (hcX.2.2.2.2 _ (Array.getElem?_eq_some_iff.1 HR3.out).1 (fun e => hIR e.symm)).trans HR3.out
        have cRd : X.cell? ⟨Rd1, 0, none⟩ = some (.int .i64 1) := by simp [World.cell?, hRX]
        have hIf : X.frozen? ⟨Ib, 0, none⟩ = false := by simp [World.frozen?, hI]
        have cA : X.cell? ⟨W.heap.size + 1, 0, none⟩ = some (.bool false) := by simp [World.cell?, HSX7.out.ra]
        have fA : X.frozen? ⟨W.heap.size + 1, 0, none⟩ = false := by simp [World.frozen?, HSX7.out.ra]
        have HRA : Aside _ := HSX7.out.ra
        have hltL : pre.length < L.length := by omega
        obtain ⟨g, hog, cy0', cy1'⟩ := row_cells (HM2.out.1) pre.length hltL
        subst hog
        have lgW : g < W.heap.size := World.block_lt_of_cell? _ _ cy0'
        have cy0 := (HSX7.out.bel.cell (p := ⟨g, pre.length * 2, none⟩) lgW).trans cy0'
        have cy1 := (HSX7.out.bel.cell (p := ⟨g, pre.length * 2 + 1, none⟩) lgW).trans cy1'
        have hmM : (pre.length : Int) < (M : Int) := by omega
        have hmN : pre.length < M := by omega
        have hpx : pre ++ [(xa, xb)] <+: L ↔ L[pre.length]'hltL = (xa, xb) := by
          obtain ⟨t, ht⟩ := hpre
          subst ht
          rw [List.prefix_append_right_inj, List.getElem_append_right (Nat.le_refl _)]
          cases t with
          | nil => simp at hltL
          | cons q t => simp [eq_comm]
        generalize hyy : L[pre.length]'hltL = yy at cy0 cy1 hpx
        obtain ⟨ya, yb⟩ := yy
        dsimp only at cy0 cy1
        have HN1 : Aside (pre ++ [(xa, xb)] <+: L ↔ (ya, yb) = (xa, xb)) := hpx
        have HKK : Aside (pre ++ [(xa, xb)] <+: L → _) := fun hp => sta_body hI hcX hp Y2.heap.size
        have hwI : Below X.heap.size X X.drew := ⟨rfl, rfl, rfl, Nat.le_refl _, fun _ _ => rfl⟩
        have cRd' : ∀ u, (X.drew.setCell ⟨Ib, 0, none⟩ u).cell? ⟨Rd1, 0, none⟩ = some (.int .i64 1) := fun u => (World.cell?_setCell_other _ _ _ _ (by simp <;> omega)).trans cRd
        clear hI hcX hBp hpx hyy hRX cy0' cy1' HSX7 hI3 t71 hs0 cBn hrow hSe hpre hwI
        generalize hm : pre.length = m at *
        by_cases hne : (ya, yb) = (xa, xb)
        · obtain ⟨e1, e2⟩ : ya = xa ∧ yb = xb := by simpa using hne
          subst e1 e2
          have hKF := HKK.out (HN1.out.2 rfl)
          have cI2 := hKF.2.2.2
          have HKF : Aside _ := hKF
          have hmw : IntKind.i64.wrap ((m : Int) + 1) = (m : Int) + 1 := by rw [IntKind.wrap_i64]; omega
          clear hKF
          gi_wp2
          refine region_round (fun W' => W'.cell? ⟨Ib, 0, none⟩ = some (.int .i64 (m : Int)) ∧ W'.cell? ⟨W.heap.size, 0, none⟩ = some (.pointer (some ⟨r, 0, none⟩)) ∧ W'.cell? ⟨r, 0, none⟩ = some (.slice (some ⟨g, 0, none⟩) M c2) ∧ W'.cell? ⟨Bp, 0, none⟩ = some (.int .i64 ya) ∧ W'.cell? ⟨Bp, 1, none⟩ = some (.int .i64 yb) ∧ W'.cell? ⟨g, m * 2, none⟩ = some (.int .i64 ya) ∧ W'.cell? ⟨g, m * 2 + 1, none⟩ = some (.int .i64 yb)) (by kernel_rfl) ?hd3 ?hQ3 ?hS3 (fun hHeld => ?_)
          case hd3 => exact noDefer (by kernel_rfl)
          case hQ3 => rintro ⟨a, w, hF⟩; exact hF
          case hS3 => exact ⟨cI, cW, cR, cP0, cP1, cy0, cy1⟩
          refine wpAnyH_take (i := 0) (v := .int .i64 (m : Int)) rfl (by kernel_rfl) (by kernel_rfl) (by kernel_rfl) (fun _ _ _ h => h) (Or.inl ⟨by rfl, by rintro w ⟨s0, s1, s2, s3, s4, s5, s6⟩; go_simp⟩) hHeld ?_
          refine norm_any' (fun K hK => ?_)
          go_simp
          refine hK _ _ ?_
          clear hK K
          refine wpAnyH_take (i := 1) (v := .pointer (some ⟨r, 0, none⟩)) rfl (by kernel_rfl) (by kernel_rfl) (by kernel_rfl) (fun _ _ _ h => h) (Or.inl ⟨by rfl, by rintro w ⟨s0, s1, s2, s3, s4, s5, s6⟩; go_simp⟩) hHeld ?_
          refine norm_any' (fun K hK => ?_)
          go_simp
          refine hK _ _ ?_
          clear hK K
          refine wpAnyH_take (i := 2) (v := .pointer (some ⟨r, 0, none⟩)) rfl (by kernel_rfl) (by kernel_rfl) (by kernel_rfl) (fun _ _ _ h => h) (Or.inl ⟨by rfl, by rintro w ⟨s0, s1, s2, s3, s4, s5, s6⟩; go_simp⟩) hHeld ?_
          refine norm_any' (fun K hK => ?_)
          go_simp
          refine hK _ _ ?_
          clear hK K
          refine wpAnyH_take (i := 3) (v := .pointer (some ⟨r, 0, none⟩)) rfl (by kernel_rfl) (by kernel_rfl) (by kernel_rfl) (fun _ _ _ h => h) (Or.inl ⟨by rfl, by rintro w ⟨s0, s1, s2, s3, s4, s5, s6⟩; go_simp⟩) hHeld ?_
          refine norm_any' (fun K hK => ?_)
          go_simp
          refine hK _ _ ?_
          clear hK K
          refine wpAnyH_take (i := 4) (v := .slice (some ⟨g, 0, none⟩) M c2) rfl (by kernel_rfl) (by kernel_rfl) (by kernel_rfl) (fun _ _ _ h => h) (Or.inl ⟨by rfl, by rintro w ⟨s0, s1, s2, s3, s4, s5, s6⟩; go_simp⟩) hHeld ?_
          refine norm_any' (fun K hK => ?_)
          go_simp
          refine hK _ _ ?_
          clear hK K
          refine wpAnyH_take (i := 5) (v := .int .i64 (M : Int)) rfl (by kernel_rfl) (by kernel_rfl) (by kernel_rfl) (fun _ _ _ h => h) (Or.inl ⟨by rfl, by rintro w ⟨s0, s1, s2, s3, s4, s5, s6⟩; go_simp⟩) hHeld ?_
          refine norm_any' (fun K hK => ?_)
          go_simp
          refine hK _ _ ?_
          clear hK K
          refine wpAnyH_take (i := 6) (v := .bool false) rfl (by kernel_rfl) (by kernel_rfl) (by kernel_rfl) (fun _ _ _ h => h) (Or.inl ⟨by rfl, by rintro w ⟨s0, s1, s2, s3, s4, s5, s6⟩; go_simp⟩) hHeld ?_
          refine norm_any' (fun K hK => ?_)
          go_simp
          refine hK _ _ ?_
          clear hK K
          refine wpAnyH_take (i := 7) (v := .bool false) rfl (by kernel_rfl) (by kernel_rfl) (by kernel_rfl) (fun _ _ _ h => h) (Or.inl ⟨by rfl, by rintro w ⟨s0, s1, s2, s3, s4, s5, s6⟩; go_simp⟩) hHeld ?_
          refine norm_any' (fun K hK => ?_)
          go_simp
          refine hK _ _ ?_
          clear hK K
          refine wpAnyH_take (i := 8) (v := .agg #[.int .i64 ya, .int .i64 yb]) rfl (by kernel_rfl) (by kernel_rfl) (by kernel_rfl) (fun _ _ _ h => h) (Or.inl ⟨by rfl, by rintro w ⟨s0, s1, s2, s3, s4, s5, s6⟩; go_simp⟩) hHeld ?_
          refine norm_any' (fun K hK => ?_)
          go_simp
          refine hK _ _ ?_
          clear hK K
          refine wpAnyH_take (i := 9) (v := .pointer (some ⟨r, 0, none⟩)) rfl (by kernel_rfl) (by kernel_rfl) (by kernel_rfl) (fun _ _ _ h => h) (Or.inl ⟨by rfl, by rintro w ⟨s0, s1, s2, s3, s4, s5, s6⟩; go_simp⟩) hHeld ?_
          refine norm_any' (fun K hK => ?_)
          go_simp
          refine hK _ _ ?_
          clear hK K
          refine wpAnyH_take (i := 10) (v := .pointer (some ⟨r, 0, none⟩)) rfl (by kernel_rfl) (by kernel_rfl) (by kernel_rfl) (fun _ _ _ h => h) (Or.inl ⟨by rfl, by rintro w ⟨s0, s1, s2, s3, s4, s5, s6⟩; go_simp⟩) hHeld ?_
          refine norm_any' (fun K hK => ?_)
          go_simp
          refine hK _ _ ?_
          clear hK K
          refine wpAnyH_take (i := 11) (v := .pointer (some ⟨r, 0, none⟩)) rfl (by kernel_rfl) (by kernel_rfl) (by kernel_rfl) (fun _ _ _ h => h) (Or.inl ⟨by rfl, by rintro w ⟨s0, s1, s2, s3, s4, s5, s6⟩; go_simp⟩) hHeld ?_
          refine norm_any' (fun K hK => ?_)
          go_simp
          refine hK _ _ ?_
          clear hK K
          refine wpAnyH_take (i := 12) (v := .slice (some ⟨g, 0, none⟩) M c2) rfl (by kernel_rfl) (by kernel_rfl) (by kernel_rfl) (fun _ _ _ h => h) (Or.inl ⟨by rfl, by rintro w ⟨s0, s1, s2, s3, s4, s5, s6⟩; go_simp⟩) hHeld ?_
          refine norm_any' (fun K hK => ?_)
          go_simp
          refine hK _ _ ?_
          clear hK K
          refine wpAnyH_take (i := 13) (v := .int .i64 (m : Int)) rfl (by kernel_rfl) (by kernel_rfl) (by kernel_rfl) (fun _ _ _ h => h) (Or.inl ⟨by rfl, by rintro w ⟨s0, s1, s2, s3, s4, s5, s6⟩; go_simp⟩) hHeld ?_
          refine norm_any' (fun K hK => ?_)
          go_simp
          refine hK _ _ ?_
          clear hK K
          refine wpAnyH_take (i := 14) (v := .pointer (some ⟨g, m * 2, none⟩)) rfl (by kernel_rfl) (by kernel_rfl) (by kernel_rfl) (fun _ _ _ h => h) (Or.inl ⟨by rfl, by rintro w ⟨s0, s1, s2, s3, s4, s5, s6⟩; go_simp⟩) hHeld ?_
          refine norm_any' (fun K hK => ?_)
          go_simp
          refine hK _ _ ?_
          clear hK K
          refine wpAnyH_take (i := 15) (v := .agg #[.int .i64 ya, .int .i64 yb]) rfl (by kernel_rfl) (by kernel_rfl) (by kernel_rfl) (fun _ _ _ h => h) (Or.inl ⟨by rfl, by rintro w ⟨s0, s1, s2, s3, s4, s5, s6⟩; go_simp⟩) hHeld ?_
          refine norm_any' (fun K hK => ?_)
          go_simp
          refine hK _ _ ?_
          clear hK K
          refine wpAnyH_take (i := 16) (v := .bool false) rfl (by kernel_rfl) (by kernel_rfl) (by kernel_rfl) (fun _ _ _ h => h) (Or.inl ⟨by rfl, by intro w _; have hq := neq50 ya yb ya yb w; simp at hq; go_simp⟩) hHeld ?_
          refine norm_any' (fun K hK => ?_)
          go_simp
          refine hK _ _ ?_
          clear hK K
          refine wpAnyH_take (i := 17) (v := .bool false) rfl (by kernel_rfl) (by kernel_rfl) (by kernel_rfl) (fun _ _ _ h => h) (Or.inl ⟨by rfl, by rintro w ⟨s0, s1, s2, s3, s4, s5, s6⟩; go_simp⟩) hHeld ?_
          refine norm_any' (fun K hK => ?_)
          go_simp
          refine hK _ _ ?_
          clear hK K
          refine wpAnyH_done (by kernel_rfl) ?_ _
          gi_wp2
          exact ⟨HKF.out.1, HKF.out.2.1, HKF.out.2.2.1⟩
        · have hnn : xa = ya → ¬ xb = yb := fun h1 h2 => hne (by rw [h1, h2])
          have HKR : Aside (KeepsFrom Y2.heap.size X (X.drew.setCell ⟨W.heap.size + 1, 0, none⟩ (.bool false))) := by
            have hRd : X.drew.heap[W.heap.size + 1]? = some (.cells #[.bool false] 4 (0, 0)) := HRA.out
            show KeepsFrom _ _ _
            rw [setCell_eq_setRow X.drew (W.heap.size + 1) 0 _ 4 (0, 0) _ hRd]
            exact keeps_set_drew HRA.out _ _
          gi_wp2
          refine region_round (fun W' => W'.cell? ⟨Ib, 0, none⟩ = some (.int .i64 (m : Int)) ∧ W'.cell? ⟨W.heap.size, 0, none⟩ = some (.pointer (some ⟨r, 0, none⟩)) ∧ W'.cell? ⟨r, 0, none⟩ = some (.slice (some ⟨g, 0, none⟩) M c2) ∧ W'.cell? ⟨Bp, 0, none⟩ = some (.int .i64 xa) ∧ W'.cell? ⟨Bp, 1, none⟩ = some (.int .i64 xb) ∧ W'.cell? ⟨g, m * 2, none⟩ = some (.int .i64 ya) ∧ W'.cell? ⟨g, m * 2 + 1, none⟩ = some (.int .i64 yb)) (by kernel_rfl) ?hd23 ?hQ23 ?hS23 (fun hHeld => ?_)
          case hd23 => exact noDefer (by kernel_rfl)
          case hQ23 => rintro ⟨a, w, hF⟩; exact hF
          case hS23 => exact ⟨cI, cW, cR, cP0, cP1, cy0, cy1⟩
          refine wpAnyH_take (i := 0) (v := .int .i64 (m : Int)) rfl (by kernel_rfl) (by kernel_rfl) (by kernel_rfl) (fun _ _ _ h => h) (Or.inl ⟨by rfl, by rintro w ⟨s0, s1, s2, s3, s4, s5, s6⟩; go_simp⟩) hHeld ?_
          refine norm_any' (fun K hK => ?_)
          go_simp
          refine hK _ _ ?_
          clear hK K
          refine wpAnyH_take (i := 1) (v := .pointer (some ⟨r, 0, none⟩)) rfl (by kernel_rfl) (by kernel_rfl) (by kernel_rfl) (fun _ _ _ h => h) (Or.inl ⟨by rfl, by rintro w ⟨s0, s1, s2, s3, s4, s5, s6⟩; go_simp⟩) hHeld ?_
          refine norm_any' (fun K hK => ?_)
          go_simp
          refine hK _ _ ?_
          clear hK K
          refine wpAnyH_take (i := 2) (v := .pointer (some ⟨r, 0, none⟩)) rfl (by kernel_rfl) (by kernel_rfl) (by kernel_rfl) (fun _ _ _ h => h) (Or.inl ⟨by rfl, by rintro w ⟨s0, s1, s2, s3, s4, s5, s6⟩; go_simp⟩) hHeld ?_
          refine norm_any' (fun K hK => ?_)
          go_simp
          refine hK _ _ ?_
          clear hK K
          refine wpAnyH_take (i := 3) (v := .pointer (some ⟨r, 0, none⟩)) rfl (by kernel_rfl) (by kernel_rfl) (by kernel_rfl) (fun _ _ _ h => h) (Or.inl ⟨by rfl, by rintro w ⟨s0, s1, s2, s3, s4, s5, s6⟩; go_simp⟩) hHeld ?_
          refine norm_any' (fun K hK => ?_)
          go_simp
          refine hK _ _ ?_
          clear hK K
          refine wpAnyH_take (i := 4) (v := .slice (some ⟨g, 0, none⟩) M c2) rfl (by kernel_rfl) (by kernel_rfl) (by kernel_rfl) (fun _ _ _ h => h) (Or.inl ⟨by rfl, by rintro w ⟨s0, s1, s2, s3, s4, s5, s6⟩; go_simp⟩) hHeld ?_
          refine norm_any' (fun K hK => ?_)
          go_simp
          refine hK _ _ ?_
          clear hK K
          refine wpAnyH_take (i := 5) (v := .int .i64 (M : Int)) rfl (by kernel_rfl) (by kernel_rfl) (by kernel_rfl) (fun _ _ _ h => h) (Or.inl ⟨by rfl, by rintro w ⟨s0, s1, s2, s3, s4, s5, s6⟩; go_simp⟩) hHeld ?_
          refine norm_any' (fun K hK => ?_)
          go_simp
          refine hK _ _ ?_
          clear hK K
          refine wpAnyH_take (i := 6) (v := .bool false) rfl (by kernel_rfl) (by kernel_rfl) (by kernel_rfl) (fun _ _ _ h => h) (Or.inl ⟨by rfl, by rintro w ⟨s0, s1, s2, s3, s4, s5, s6⟩; go_simp⟩) hHeld ?_
          refine norm_any' (fun K hK => ?_)
          go_simp
          refine hK _ _ ?_
          clear hK K
          refine wpAnyH_take (i := 7) (v := .bool false) rfl (by kernel_rfl) (by kernel_rfl) (by kernel_rfl) (fun _ _ _ h => h) (Or.inl ⟨by rfl, by rintro w ⟨s0, s1, s2, s3, s4, s5, s6⟩; go_simp⟩) hHeld ?_
          refine norm_any' (fun K hK => ?_)
          go_simp
          refine hK _ _ ?_
          clear hK K
          refine wpAnyH_take (i := 8) (v := .agg #[.int .i64 xa, .int .i64 xb]) rfl (by kernel_rfl) (by kernel_rfl) (by kernel_rfl) (fun _ _ _ h => h) (Or.inl ⟨by rfl, by rintro w ⟨s0, s1, s2, s3, s4, s5, s6⟩; go_simp⟩) hHeld ?_
          refine norm_any' (fun K hK => ?_)
          go_simp
          refine hK _ _ ?_
          clear hK K
          refine wpAnyH_take (i := 9) (v := .pointer (some ⟨r, 0, none⟩)) rfl (by kernel_rfl) (by kernel_rfl) (by kernel_rfl) (fun _ _ _ h => h) (Or.inl ⟨by rfl, by rintro w ⟨s0, s1, s2, s3, s4, s5, s6⟩; go_simp⟩) hHeld ?_
          refine norm_any' (fun K hK => ?_)
          go_simp
          refine hK _ _ ?_
          clear hK K
          refine wpAnyH_take (i := 10) (v := .pointer (some ⟨r, 0, none⟩)) rfl (by kernel_rfl) (by kernel_rfl) (by kernel_rfl) (fun _ _ _ h => h) (Or.inl ⟨by rfl, by rintro w ⟨s0, s1, s2, s3, s4, s5, s6⟩; go_simp⟩) hHeld ?_
          refine norm_any' (fun K hK => ?_)
          go_simp
          refine hK _ _ ?_
          clear hK K
          refine wpAnyH_take (i := 11) (v := .pointer (some ⟨r, 0, none⟩)) rfl (by kernel_rfl) (by kernel_rfl) (by kernel_rfl) (fun _ _ _ h => h) (Or.inl ⟨by rfl, by rintro w ⟨s0, s1, s2, s3, s4, s5, s6⟩; go_simp⟩) hHeld ?_
          refine norm_any' (fun K hK => ?_)
          go_simp
          refine hK _ _ ?_
          clear hK K
          refine wpAnyH_take (i := 12) (v := .slice (some ⟨g, 0, none⟩) M c2) rfl (by kernel_rfl) (by kernel_rfl) (by kernel_rfl) (fun _ _ _ h => h) (Or.inl ⟨by rfl, by rintro w ⟨s0, s1, s2, s3, s4, s5, s6⟩; go_simp⟩) hHeld ?_
          refine norm_any' (fun K hK => ?_)
          go_simp
          refine hK _ _ ?_
          clear hK K
          refine wpAnyH_take (i := 13) (v := .int .i64 (m : Int)) rfl (by kernel_rfl) (by kernel_rfl) (by kernel_rfl) (fun _ _ _ h => h) (Or.inl ⟨by rfl, by rintro w ⟨s0, s1, s2, s3, s4, s5, s6⟩; go_simp⟩) hHeld ?_
          refine norm_any' (fun K hK => ?_)
          go_simp
          refine hK _ _ ?_
          clear hK K
          refine wpAnyH_take (i := 14) (v := .pointer (some ⟨g, m * 2, none⟩)) rfl (by kernel_rfl) (by kernel_rfl) (by kernel_rfl) (fun _ _ _ h => h) (Or.inl ⟨by rfl, by rintro w ⟨s0, s1, s2, s3, s4, s5, s6⟩; go_simp⟩) hHeld ?_
          refine norm_any' (fun K hK => ?_)
          go_simp
          refine hK _ _ ?_
          clear hK K
          refine wpAnyH_take (i := 15) (v := .agg #[.int .i64 ya, .int .i64 yb]) rfl (by kernel_rfl) (by kernel_rfl) (by kernel_rfl) (fun _ _ _ h => h) (Or.inl ⟨by rfl, by rintro w ⟨s0, s1, s2, s3, s4, s5, s6⟩; go_simp⟩) hHeld ?_
          refine norm_any' (fun K hK => ?_)
          go_simp
          refine hK _ _ ?_
          clear hK K
          refine wpAnyH_take (i := 16) (v := .bool true) rfl (by kernel_rfl) (by kernel_rfl) (by kernel_rfl) (fun _ _ _ h => h) (Or.inl ⟨by rfl, by intro w _; first | (go_simp; done) | (go_simp; exact hnn)⟩) hHeld ?_
          refine norm_any' (fun K hK => ?_)
          go_simp
          refine hK _ _ ?_
          clear hK K
          refine wpAnyH_take (i := 17) (v := .bool true) rfl (by kernel_rfl) (by kernel_rfl) (by kernel_rfl) (fun _ _ _ h => h) (Or.inl ⟨by rfl, by rintro w ⟨s0, s1, s2, s3, s4, s5, s6⟩; go_simp⟩) hHeld ?_
          refine norm_any' (fun K hK => ?_)
          go_simp
          refine hK _ _ ?_
          clear hK K
          refine wpAnyH_done (by kernel_rfl) ?_ _
          gi_wp2
          exact ⟨HKR.out, fun h => hne (HN1.out.1 h)⟩
      case done3 =>
        rintro D ys W7 hD hys ⟨_, hI7, hc7⟩ hK7
        subst hys
        exact ⟨.inl rfl, D, rfl, hD, hK7, hc7, by rw [hLn] at hI7; exact hI7⟩
      case stop3 =>
        rintro D cd pre W7 hD hSp hX7 hK7
        exact absurd hSp hX7
    · rintro a' W9 ⟨D2, rfl, hD2, hK2, hc9, hI9⟩
      have htm := HT.out
      subst htm
      have HX9 : Aside (Sd W S r Bn W9) := HX3.out.chg hc9 (fun k e => by omega)
      have hR9 : W9.heap[Rd1]? = some (.cells #[.int .i64 1] 3 (0, 0)) := (hc9.2.2.2.2 _ (Array.getElem?_eq_some_iff.1 HR3.out).1 (fun e => hIR e.symm)).trans HR3.out
      have cR9 : W9.cell? ⟨Rd1, 0, none⟩ = some (.int .i64 1) := by simp [World.cell?, hR9]
      have cI9 : W9.cell? ⟨Ib, 0, none⟩ = some (.int .i64 M) := by simp [World.cell?, hI9]
      obtain ⟨cW9, cS9⟩ := HC.out W9 HX9.out
      have HK2 : Aside _ := hK2
      have hk1Y2 : Y2.heap[D1]? = some (.deferred (some [])) := (HXB.out.block _ (Array.getElem?_eq_some_iff.1 HK9.out).1).trans HK9.out
      have hD1I : D1 ≠ Ib := by
        rintro rfl
        have := HI3.out.symm.trans hk1Y2
        simp at this
      have HK19 : Aside (W9.heap[D1]? = some (.deferred (some []))) := (hc9.2.2.2.2 _ (Array.getElem?_eq_some_iff.1 hk1Y2).1 hD1I).trans hk1Y2
      have hD12 : D1 < D2 := by have := (Array.getElem?_eq_some_iff.1 hk1Y2).1; omega
      clear hR9 hK2 hc9 HX3 HR3 HI3 HXB hD2 hZ3 hI9 hk1Y2 HK9
      go_wp2_with fail
      go_quiet (fail)
      have hb10 : Below W9.heap.size W9 (W9.drewN nq) := ⟨rfl, rfl, rfl, Nat.le_refl _, fun _ _ => rfl⟩
      generalize W9.drewN nq = W10 at hb10 ⊢
      have HX10 : Aside (Sd W S r Bn W10) := Sd.below HX9.out hb10
      have cR10 : W10.cell? ⟨Rd1, 0, none⟩ = some (.int .i64 1) := (hb10.cell (p := ⟨Rd1, 0, none⟩) (World.block_lt_of_cell? _ _ cR9)).trans cR9
      have HKa : Aside (W10.heap[D1]? = some (.deferred (some []))) := (hb10.block _ (Array.getElem?_eq_some_iff.1 HK19.out).1).trans HK19.out
      have HKb : Aside (W10.heap[D2]? = some (.deferred (some []))) := (hb10.block _ (Array.getElem?_eq_some_iff.1 HK2.out).1).trans HK2.out
      clear hb10 HX9 cR9 HK19 HK2 cI9 cW9 cS9
      go_wp2
      obtain ⟨Z1, hZ1⟩ : ∃ Z1, W10.alloc (.cells #[.int .i64 2] 3) = Z1 := ⟨_, rfl⟩
      have hb11 : Below W10.heap.size W10 Z1 := by rw [← hZ1]; exact (Below.refl _ _).alloc (Nat.le_refl _) _
      have hRd2 : Z1.heap[W10.heap.size]? = some (.cells #[.int .i64 2] 3 (0, 0)) := by rw [← hZ1]; exact World.alloc_heap_new W10 _
      have cRd2 : Z1.cell? ⟨W10.heap.size, 0, none⟩ = some (.int .i64 2) := by simp [World.cell?, hRd2]
      have hXZ : Sd W S r Bn Z1 := Sd.below HX10.out hb11
      have HE : Aside _ := hXZ.ends ((hb11.block _ (Array.getElem?_eq_some_iff.1 HKa.out).1).trans HKa.out) ((hb11.block _ (Array.getElem?_eq_some_iff.1 HKb.out).1).trans HKb.out) (by omega) HD1.out (by have := HD1.out; omega)
      have cA : Z1.cell? ⟨W.heap.size + 1, 0, none⟩ = some (.bool false) := by simp [World.cell?, hXZ.ra]
      have fA : Z1.frozen? ⟨W.heap.size + 1, 0, none⟩ = false := by simp [World.frozen?, hXZ.ra]
      rw [hZ1]
      clear hZ1 hb11 hRd2 hXZ HX10 cR10 HKa HKb
      rw [rounds_succ]
      go_wp2
      refine ⟨by simp, .inl ⟨_, _, rfl, run_takeDeferred HE.out.1, ?_⟩⟩
      refine ⟨by simp, .inl ⟨_, _, rfl, run_takeDeferred HE.out.2.1, ?_⟩⟩
      exact ⟨_, results_cell15 _ _ (W.heap.size + 1) true rfl HE.out.2.2.1, rfl, HE.out.2.2.2⟩
end Go.Proofs.Ytgmhlmficnkhgaa
