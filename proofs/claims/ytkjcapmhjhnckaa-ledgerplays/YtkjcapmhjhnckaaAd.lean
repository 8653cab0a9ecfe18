/- ledger: Acked. -/
import Derived.Test.YtkjcapmhjhnckaaAc
namespace Go.Proofs.Ytkjcapmhjhnckaa
open Go.RowKit Go.Maps Go.Shelf
set_option linter.unusedVariables false
set_option maxRecDepth 100000

/-- What is wrong with an acknowledgement. -/
def wra (L : Ls) (S : List (Int × Int)) (now late : Int) : Int := if wrg L now late (aa S) ≠ 0 then wrg L now late (aa S) else if hvT L.T S = false then 11 else 0
/-- A ledger with what arrived off its way. -/
def Ls.arr (L : Ls) (S : List (Int × Int)) : Ls := L.ar S L.O.length
def Ls.acked (L : Ls) (S : List (Int × Int)) : List Pk := ak S L.O.length L.O
/-- The greatest number of spans. -/
def hi (S : List (Int × Int)) : Int := (S.head?.map fun s => s.2).getD 0
theorem arr_fit {L : Ls} (h : L.fit) (S : List (Int × Int)) : (L.arr S).fit := by
  have hf := arO_fst S L.O.length L.O
  have hl : (arO S L.O.length L.O).length = L.O.length := arO_len _ _ _
  have hg := gq_bound h.g0 h.g1 (ak_ok (S := S) (i := L.O.length) h.pk)
  exact ⟨ok_fst hf h.pk, by show (arO _ _ _).length ≤ _; rw [hl]; exact h.len, rise_fst hf h.rise, hg.1, hg.2⟩
theorem arr_pass_ok {L : Ls} {M : Nat} (h : L.ok M) (S : List (Int × Int)) (now late : Int) (t0 : 0 ≤ now) (t1 : now ≤ 1125899906842624) : ((L.arr S).pass now late).ok M := by
  have hf := arO_fst S L.O.length L.O
  have hl : (arO S L.O.length L.O).length = L.O.length := arO_len _ _ _
  exact pass_ok (arr_fit h.fit S) (by show (arO _ _ _).length ≤ _; rw [hl]; exact h.lenO) h.lenT h.d0 h.d1 h.up h.tb (top_fst hf h.top) now late t0 t1
set_option maxHeartbeats 2000000 in
theorem acked_c {W : World} {A : Ad} {L : Ls} {M : Nat} (h : Lg W A L) (ho : L.ok M) (hM : M ≤ 4000000000000) (la : Option Addr) (cap : Nat) (S : List (Int × Int)) (hS : ∀ X, Chg A.own W X → Sr X la S) (hSl : S.length ≤ 9223372036854775807) (now late : Int) :
    Calls Try.prog 12 #[.pointer (some ⟨A.b, 0, none⟩), .slice la S.length cap, .int .i64 now, .int .i64 late] W fun r w' => (wra L S now late ≠ 0 → No1 W A L (wra L S now late) r w') ∧ (wra L S now late = 0 → Yes1 W A (L.acked S) ((L.arr S).lost now late) (smp (L.acked S) (hi S) now) ((L.arr S).spread now late) ((L.arr S).pass now late) r w') := by
  have hb0 := bel1 W (.cells #[.slice none 0 0, .slice none 0 0, .int .i64 0, .int .i64 0] 40)
  have hx0 := heap_alloc_new W (.cells #[.slice none 0 0, .slice none 0 0, .int .i64 0, .int .i64 0] 40)
  have HLT : Aside (∀ k, A.own k → k < W.heap.size) := fun k hk => h.lt hk
  have hac := areAcks_c la cap S _ (hS _ (Chg.of_below hb0)) hSl
  have HWR : Aside (∀ X, Below W.heap.size W X → Calls Try.prog 30 #[.pointer (some ⟨A.b, 0, none⟩), .int .i64 now, .int .i64 late, .bool (aa S)] X fun r w' => r = .returned (.int .i64 (wrg L now late (aa S))) ∧ w' = X) := fun X hX => wrong_c (h.bel hX) now late (aa S)
  have HHV : Aside (∀ X, Below W.heap.size W X → Calls Try.prog 32 #[.slice A.s L.T.length A.sc, .slice la S.length cap] X fun e w' => e = .returned (.bool (hvT L.T S)) ∧ Below X.heap.size X w') := fun X hX => have_c (Rw.bel h.snt hX) (by have := ho.lenT; omega) ho.up la cap S (hS _ (Chg.of_below hX)) hSl
  have HAR : Aside (aa S = true → ∀ X, Below W.heap.size W X → Calls Try.prog 33 #[.pointer (some ⟨A.b, 0, none⟩), .slice la S.length cap] X (ArR X A L S)) := fun haa X hX => arrive_c (h.bel hX) ho.fit ho.z ho.c la cap S (fun Y hY => hS Y ((Chg.of_below hX).trans hY)) haa
  have HC2 : Aside (∀ X, Below W.heap.size W X → X.cell? ⟨A.b, 2, none⟩ = some (.slice A.s L.T.length A.sc)) := fun X hX => (h.bel hX).c2
  have HX : Aside (∀ X, Below (W.alloc (.cells #[.slice none 0 0, .slice none 0 0, .int .i64 0, .int .i64 0] 40)).heap.size (W.alloc (.cells #[.slice none 0 0, .slice none 0 0, .int .i64 0, .int .i64 0] 40)) X → X.heap[W.heap.size]? = some (.cells #[.slice none 0 0, .slice none 0 0, .int .i64 0, .int .i64 0] 40 (0, 0))) := fun X hX => (hX.block _ (by simp)).trans hx0
  have HB : Aside (∀ X, Below (W.alloc (.cells #[.slice none 0 0, .slice none 0 0, .int .i64 0, .int .i64 0] 40)).heap.size (W.alloc (.cells #[.slice none 0 0, .slice none 0 0, .int .i64 0, .int .i64 0] 40)) X → Below W.heap.size W X) := fun X hX => bel_trans hb0 hX
  -- what a refusal leaves
  have HNO : Aside (∀ (x : Int) (X : World), Below W.heap.size W X → X.heap[W.heap.size]? = some (.cells #[.slice none 0 0, .slice none 0 0, .int .i64 0, .int .i64 0] 40 (0, 0)) → No1 W A L x (.returned (.tuple #[.agg (rv none 0 0 none 0 0 0 0), .int .i64 x])) (X.setRow W.heap.size (rv none 0 0 none 0 0 0 0))) := by
    intro x X hX hg
    have e : X.setRow W.heap.size (rv none 0 0 none 0 0 0 0) = X := setRow_self X W.heap.size _ 40 (0, 0) hg
    rw [e]
    exact ⟨rfl, h.bel hX, Stp.of_below hX⟩
  obtain ⟨N, hN⟩ : ∃ N, S.length = N := ⟨_, rfl⟩
  have HN : Aside _ := hN
  by_cases hw0 : wrg L now late (aa S) = 0
  · obtain ⟨⟨t0, t1⟩, ⟨l0, l1⟩, haa, _⟩ := wrg_zero hw0
    by_cases hv : hvT L.T S = true
    · have hwa : wra L S now late = 0 := by unfold wra; rw [if_neg (by rw [hw0]; simp), if_neg (by rw [hv]; simp)]
      rw [hwa]
      rw [hw0] at HWR
      rw [hv] at HHV
      rw [haa] at hac HWR
      have HAR' : Aside _ := HAR.out haa
      obtain ⟨s0, S', hSe⟩ : ∃ s0 S', S = s0 :: S' := by
        cases S with
        | nil => simp [aa] at haa
        | cons a b => exact ⟨a, b, rfl⟩
      have hhi : hi S = s0.2 := by rw [hSe]; rfl
      have hN0 : (0 : Int) < N := by rw [← hN, hSe]; simp
      have HSP : Aside (∀ X, Chg A.own W X → ∃ b off, la = some ⟨b, off, none⟩ ∧ X.cell? ⟨b, off + 1, none⟩ = some (.int .i64 (hi S))) := fun X hX => by
        obtain ⟨b, off, e, _, q⟩ := hS X hX 0 (by rw [hSe]; simp)
        refine ⟨b, off, e, ?_⟩
        rw [hhi]
        simpa [hSe] using q
      have HPA : Aside (∀ (X : World), Lg X A (L.arr S) → Calls Try.prog 34 #[.pointer (some ⟨A.b, 0, none⟩), .int .i64 now, .int .i64 late] X (PaR X A (L.arr S) now late)) := fun X hX => pass_c hX (arr_fit ho.fit S) rfl rfl now late t0 t1 l0 l1
      have hal : (L.acked S).length ≤ 4000000000000 := Nat.le_trans (ak_len _ _ _) ho.fit.len
      have HSM : Aside (∀ (X : World) (o : Option Addr) (c : Nat), Pr X o c (L.acked S) → Calls Try.prog 35 #[.slice o (L.acked S).length c, .int .i64 (hi S), .int .i64 now] X fun r w' => r = .returned (.int .i64 (smp (L.acked S) (hi S) now)) ∧ Below X.heap.size X w') := fun X o c hp => sample_c hp hal (ak_ok ho.fit.pk) (hi S) now t0 t1
      have HEND : Aside (∀ (W2 W3 W4 W6 : World) (A' : Ad) (o : Option Addr) (c : Nat) (o' : Option Addr) (c' : Nat), Below W.heap.size W W2 → W2.heap[W.heap.size]? = some (.cells #[.slice none 0 0, .slice none 0 0, .int .i64 0, .int .i64 0] 40 (0, 0)) → Lg W3 A (L.arr S) → Stp A A W2 W3 → Pr W3 o c (L.acked S) → (∀ j, Blk o j → W2.heap.size ≤ j) → A'.m = A.m → Lg W4 A' ((L.arr S).pass now late) → Stp A A' W3 W4 → Pr W4 o' c' ((L.arr S).lost now late) → (∀ j, Blk o' j → W3.heap.size ≤ j) →
          Below (W4.alloc (.cells (rv none 0 0 o' ((L.arr S).lost now late).length c' (-1) ((L.arr S).spread now late)) 40)).heap.size (W4.alloc (.cells (rv none 0 0 o' ((L.arr S).lost now late).length c' (-1) ((L.arr S).spread now late)) 40)) W6 →
          ∃ W7, W7 = (W6.setCell ⟨W4.heap.size, 0, none⟩ (.slice o (L.acked S).length c)).setCell ⟨W4.heap.size, 2, none⟩ (.int .i64 (smp (L.acked S) (hi S) now)) ∧ W7.heap[W4.heap.size]? = some (.cells (rv o (L.acked S).length c o' ((L.arr S).lost now late).length c' (smp (L.acked S) (hi S) now) ((L.arr S).spread now late)) 40 (0, 0)) ∧ W7.heap[W.heap.size]? = some (.cells #[.slice none 0 0, .slice none 0 0, .int .i64 0, .int .i64 0] 40 (0, 0)) ∧
            W6.cell? ⟨W4.heap.size, 0, none⟩ = some (.slice none 0 0) ∧ W6.frozen? ⟨W4.heap.size, 0, none⟩ = false ∧ (W6.setCell ⟨W4.heap.size, 0, none⟩ (.slice o (L.acked S).length c)).cell? ⟨W4.heap.size, 2, none⟩ = some (.int .i64 (-1)) ∧ (W6.setCell ⟨W4.heap.size, 0, none⟩ (.slice o (L.acked S).length c)).frozen? ⟨W4.heap.size, 2, none⟩ = false ∧
            Yes1 W A (L.acked S) ((L.arr S).lost now late) (smp (L.acked S) (hi S) now) ((L.arr S).spread now late) ((L.arr S).pass now late) (.returned (.tuple #[.agg (rv o (L.acked S).length c o' ((L.arr S).lost now late).length c' (smp (L.acked S) (hi S) now) ((L.arr S).spread now late)), .int .i64 0])) (W7.setRow W.heap.size (rv o (L.acked S).length c o' ((L.arr S).lost now late).length c' (smp (L.acked S) (hi S) now) ((L.arr S).spread now late)))) := by
        intro W2 W3 W4 W6 A' o c o' c' hb2 hx2 hl3 hs3 hp3 hn3 hm hl4 hs4 hp4 hn4 hb6
        have hx3 := hs3.keep hx2 (fun hq => by have := HLT.out _ hq; omega)
        have hx4 := hs4.keep hx3.1 hx3.2
        have hWW4 : W.heap.size < W4.heap.size := (Array.getElem?_eq_some_iff.1 hx4.1).1
        have hb4 := bel1 W4 (.cells (rv none 0 0 o' ((L.arr S).lost now late).length c' (-1) ((L.arr S).spread now late)) 40)
        have hb46 := bel_trans hb4 hb6
        have hy6 : W6.heap[W4.heap.size]? = some (.cells (rv none 0 0 o' ((L.arr S).lost now late).length c' (-1) ((L.arr S).spread now late)) 40 (0, 0)) := (hb6.block _ (by simp)).trans (heap_alloc_new W4 _)
        have hx6 := (hb46.block _ hWW4).trans hx4.1
        obtain ⟨a1, a2⟩ := rv_store hy6 0 (.slice o (L.acked S).length c)
        obtain ⟨b1, b2⟩ := rv_store a1 2 (.int .i64 (smp (L.acked S) (hi S) now))
        have b3 := b2.blk (a2.blk hx6 (by omega)) (by omega)
        have hc7 : Chg (fun k => k = W4.heap.size) W6 ((W6.setCell ⟨W4.heap.size, 0, none⟩ (.slice o (L.acked S).length c)).setCell ⟨W4.heap.size, 2, none⟩ (.int .i64 (smp (L.acked S) (hi S) now))) := a2.trans b2
        refine ⟨_, rfl, b1, b3, by simp [World.cell?, hy6, rv], by simp [World.frozen?, hy6], by simp [World.cell?, a1, rv], by simp [World.frozen?, a1], ?_⟩
        have hc8 : Chg (fun k => k = W.heap.size) ((W6.setCell ⟨W4.heap.size, 0, none⟩ (.slice o (L.acked S).length c)).setCell ⟨W4.heap.size, 2, none⟩ (.int .i64 (smp (L.acked S) (hi S) now))) (((W6.setCell ⟨W4.heap.size, 0, none⟩ (.slice o (L.acked S).length c)).setCell ⟨W4.heap.size, 2, none⟩ (.int .i64 (smp (L.acked S) (hi S) now))).setRow W.heap.size (rv o (L.acked S).length c o' ((L.arr S).lost now late).length c' (smp (L.acked S) (hi S) now) ((L.arr S).spread now late))) := Chg.setRow _ _ rfl
        have hl6 := hl4.bel hb46
        have hl7 := hl6.chg hc7 (fun k hk e => by have := hl4.lt hk; omega)
        have hl8 := hl7.chg hc8 (fun k hk e => hx4.2 (e ▸ hk))
        have hSt4 := ((Stp.of_below (A := A) hb2).trans hs3).trans hs4
        have hSt6 := hSt4.below hb46
        have hCh8 : Chg A.own W _ := (hSt6.chg.andThen hc7 (fun j hj e => by omega)).andThen hc8 (fun j hj e => by omega)
        have pa := (Rw.bel (hp3.stp hl3 hs4) hb46)
        have pb := (Rw.bel hp4 hb46)
        have hkeep : ∀ {oo : Option Addr} {cc : Nat} {ps : List Pk}, Pr W6 oo cc ps → Pr (((W6.setCell ⟨W4.heap.size, 0, none⟩ (.slice o (L.acked S).length c)).setCell ⟨W4.heap.size, 2, none⟩ (.int .i64 (smp (L.acked S) (hi S) now))).setRow W.heap.size (rv o (L.acked S).length c o' ((L.arr S).lost now late).length c' (smp (L.acked S) (hi S) now) ((L.arr S).spread now late))) oo cc ps := by
          intro oo cc ps hp
          have h1 : Pr _ oo cc ps := Rw.chg hp hc7 (fun j hj e => by
            obtain ⟨Z, hz⟩ := Rw.ty hp hj
            rw [e, hy6] at hz
            simp at hz)
          exact Rw.chg h1 hc8 (fun j hj e => by
            obtain ⟨Z, hz⟩ := Rw.ty h1 hj
            rw [e, b3] at hz
            simp at hz)
        exact ⟨A', o, c, o', c', rfl, hm, hl8, ⟨hSt4.b, hCh8, hSt4.own⟩, hkeep pa, hkeep pb, fun j hj => Nat.le_trans hb2.size (hn3 j hj), fun j hj => Nat.le_trans (Nat.le_trans hb2.size hs3.chg.2.2.2.1) (hn4 j hj), fun j hj hj' => by have h1 := Rw.lt hp3 hj; have h2 := hn4 j hj'; omega⟩
      have HSA : Aside (∀ (W2 W3 W4 : World) (A' : Ad), Below W.heap.size W W2 → Stp A A W2 W3 → Stp A A' W3 W4 → Chg A.own W W4) := fun W2 W3 W4 A' h2 h3 h4 => (((Stp.of_below (A := A) h2).trans h3).trans h4).chg
      generalize Yes1 W A (L.acked S) ((L.arr S).lost now late) (smp (L.acked S) (hi S) now) ((L.arr S).spread now late) ((L.arr S).pass now late) = RR at *
      clear HNO HAR h hS hwa hw0 hv haa hSe hhi hb0 hx0
      rw [hN] at hac HHV HAR' ⊢
      clear hN
      go_enter Try.func12, Try.ntmps12
      go_wp2_with fail
      refine hac.mono ?_
      rintro e W1 ⟨rfl, hu⟩
      have hb1 := HB.out W1 hu
      have hwr := HWR.out W1 hb1
      have hx1 := HX.out W1 hu
      have hhv := HHV.out W1 hb1
      have c2 := HC2.out W1 hb1
      have HU : Aside _ := hu
      have HB1 : Aside _ := hb1
      clear hac hu HWR HHV HC2 hb1
      go_wp2_with fail
      refine hwr.mono ?_
      rintro e u' ⟨rfl, hu⟩
      subst u'
      clear hwr
      go_wp2_with fail
      refine hhv.mono ?_
      rintro e W2 ⟨rfl, hu2⟩
      have HB2 : Aside (Below W.heap.size W W2) := bel_trans HB1.out hu2
      have hx2 : W2.heap[W.heap.size]? = some (.cells #[.slice none 0 0, .slice none 0 0, .int .i64 0, .int .i64 0] 40 (0, 0)) := HX.out W2 (bel_trans HU.out hu2)
      clear hhv hu2 HX HB hx1 c2
      have har := HAR'.out W2 HB2.out
      clear HAR'
      go_wp2_with fail
      refine har.mono ?_
      clear har
      rintro e W3 ⟨o, c, rfl, hl3, hs3, hp3, hn3⟩
      have hpa := HPA.out W3 hl3
      have H3 : Aside (Lg W3 A (L.arr S) ∧ Stp A A W2 W3 ∧ Pr W3 o c (L.acked S) ∧ ∀ j, Blk o j → W2.heap.size ≤ j) := ⟨hl3, hs3, hp3, hn3⟩
      clear HPA hl3 hs3 hp3 hn3
      rw [show (ak S L.O.length L.O).length = (L.acked S).length from rfl]
      go_wp2_with fail
      refine hpa.mono ?_
      clear hpa
      rintro e W4 ⟨A', o', c', rfl, hm, hl4, hs4, hp4, hn4⟩
      have H4 : Aside (A'.m = A.m ∧ Lg W4 A' ((L.arr S).pass now late) ∧ Stp A A' W3 W4 ∧ Pr W4 o' c' ((L.arr S).lost now late) ∧ ∀ j, Blk o' j → W3.heap.size ≤ j) := ⟨hm, hl4, hs4, hp4, hn4⟩
      have hb45 := bel1 W4 (.cells (rv none 0 0 o' ((L.arr S).lost now late).length c' (-1) ((L.arr S).spread now late)) 40)
      obtain ⟨sb, so, hla, cs0⟩ := HSP.out _ ((HSA.out W2 W3 W4 A' HB2.out H3.out.2.1 hs4).below hb45)
      have hsm := HSM.out _ o c (Rw.bel (H3.out.2.2.1.stp H3.out.1 hs4) hb45)
      clear hm hl4 hs4 hp4 hn4 HSP HSM HSA hb45
      subst hla
      unfold rv at *
      generalize (L.acked S).length = na at *
      generalize ((L.arr S).lost now late).length = nl at *
      generalize (L.arr S).spread now late = sd at *
      generalize smp (L.acked S) (hi S) now = sa at *
      go_wp2_with fail
      refine hsm.mono ?_
      rintro e W6 ⟨rfl, hb6⟩
      obtain ⟨W7, hW7, y7, x7, k0, k1, k2, k3, hYes⟩ := HEND.out W2 W3 W4 W6 A' o c o' c' HB2.out hx2 H3.out.1 H3.out.2.1 H3.out.2.2.1 H3.out.2.2.2 H4.out.1 H4.out.2.1 H4.out.2.2.1 H4.out.2.2.2.1 H4.out.2.2.2.2 hb6
      have HY : Aside _ := hYes
      clear hsm HEND H3 H4 hYes hb6 cs0 hx2
      subst hW7
      go_wp2_with (first
        | (refine wpList_load_row rfl 40 _ rfl W4.heap.size rfl 40 _ (0, 0) _ y7 Try.underlying40 rfl (by kernel_rfl) ?_)
        | (refine wpList_store_row rfl 40 _ _ rfl W.heap.size (rv o na c o' nl c' sa sd) rfl rfl 40 _ x7 (by kernel_rfl) rfl (rv_one _ _ _ _ _ _ _ _) ?_))
      refine bodyPost_ret (results_ct (fn := Try.f12) (p := 8) (u := 9) rfl _ _ W.heap.size 40 _ (0, 0) _ rfl (setRow_heap _ W.heap.size _ (rv o na c o' nl c' sa sd) 40 (0, 0) x7) Try.underlying40 rfl (by kernel_rfl)) rfl ?_
      exact ⟨fun h => absurd rfl h, fun _ => HY.out⟩
    · have hv' : hvT L.T S = false := by simpa using hv
      have hwa : wra L S now late = 11 := by unfold wra; rw [if_neg (by rw [hw0]; simp), if_pos hv']
      rw [hwa]
      rw [hw0] at HWR
      rw [hv'] at HHV
      rw [haa] at hac HWR
      have HRR : Aside _ := HNO.out 11
      clear HNO HAR h hS hwa hw0 hv hv' haa
      generalize No1 W A L 11 = RR at *
      rw [hN] at hac HHV ⊢
      clear hN
      go_enter Try.func12, Try.ntmps12
      go_wp2_with fail
      refine hac.mono ?_
      rintro e W1 ⟨rfl, hu⟩
      have hb1 := HB.out W1 hu
      have hwr := HWR.out W1 hb1
      have hx1 := HX.out W1 hu
      have hhv := HHV.out W1 hb1
      have c2 := HC2.out W1 hb1
      have HU : Aside _ := hu
      have HB1 : Aside _ := hb1
      clear hac hu HWR HHV HC2 hb1
      go_wp2_with fail
      refine hwr.mono ?_
      rintro e u' ⟨rfl, hu⟩
      subst u'
      clear hwr
      go_wp2_with fail
      refine hhv.mono ?_
      rintro e W2 ⟨rfl, hu2⟩
      have HB2 : Aside (Below W.heap.size W W2) := bel_trans HB1.out hu2
      have hx2 : W2.heap[W.heap.size]? = some (.cells #[.slice none 0 0, .slice none 0 0, .int .i64 0, .int .i64 0] 40 (0, 0)) := HX.out W2 (bel_trans HU.out hu2)
      clear hhv hu2 HX HB hx1 c2
      have HE : Aside _ := HRR.out W2 HB2.out hx2
      clear HRR
      go_wp2_with (refine wpList_store_row rfl 40 _ _ rfl W.heap.size (rv none 0 0 none 0 0 0 0) rfl rfl 40 _ hx2 (by kernel_rfl) rfl (rv_one _ _ _ _ _ _ _ _) ?_)
      refine bodyPost_ret (results_ct (fn := Try.f12) (p := 8) (u := 9) rfl _ _ W.heap.size 40 _ (0, 0) _ rfl (setRow_heap _ W.heap.size _ (rv none 0 0 none 0 0 0 0) 40 (0, 0) hx2) Try.underlying40 rfl (by kernel_rfl)) rfl ?_
      exact ⟨fun _ => HE.out, fun h => absurd h (by decide)⟩
  · have hwa : wra L S now late = wrg L now late (aa S) := by unfold wra; rw [if_pos hw0]
    rw [hwa]
    generalize wrg L now late (aa S) = E at *
    generalize aa S = fm at *
    have HRR : Aside _ := HNO.out E
    clear HNO HAR HHV HC2 h hS hwa
    generalize No1 W A L E = RR at *
    rw [hN] at hac ⊢
    clear hN
    go_enter Try.func12, Try.ntmps12
    go_wp2_with fail
    refine hac.mono ?_
    rintro e u ⟨rfl, hu⟩
    have hwr := HWR.out u (HB.out u hu)
    have hx1 := HX.out u hu
    have HE : Aside _ := HRR.out u (HB.out u hu) hx1
    clear hac hu HWR HRR HX HB
    go_wp2_with fail
    refine hwr.mono ?_
    rintro e u' ⟨rfl, hu⟩
    subst u'
    clear hwr
    go_wp2_with (refine wpList_store_row rfl 40 _ _ rfl W.heap.size (rv none 0 0 none 0 0 0 0) rfl rfl 40 _ hx1 (by kernel_rfl) rfl (rv_one _ _ _ _ _ _ _ _) ?_)
    refine bodyPost_ret (results_ct (fn := Try.f12) (p := 8) (u := 9) rfl _ _ W.heap.size 40 _ (0, 0) _ rfl (setRow_heap _ W.heap.size _ (rv none 0 0 none 0 0 0 0) 40 (0, 0) hx1) Try.underlying40 rfl (by kernel_rfl)) rfl ?_
    exact ⟨fun _ => HE.out, fun h => absurd h hw0⟩
end Go.Proofs.Ytkjcapmhjhnckaa
