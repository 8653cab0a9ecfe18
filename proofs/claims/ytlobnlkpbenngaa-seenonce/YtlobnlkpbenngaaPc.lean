/- seen: pieces' iterator over the one part. -/
import Derived.Test.YtlobnlkpbenngaaSt
namespace Go.Proofs.YtlobnlkpbenngaaR
open Go.RowKit Go.Shelf Go.Lib
set_option linter.unusedVariables false

attribute [local go_sem] Oper.semAt_some

set_option maxRecDepth 100000 in
theorem back60_c (o : Option Addr) (n c : Nat) (w : World) : Calls Try.prog 60 #[.slice o n c] w fun e w' => e = .returned (.func (.func 70) #[] #[.pointer (some ⟨w.heap.size, 0, none⟩)]) ∧ w' = w.alloc (.cells #[.slice o n c] 74) := by
  go_enter Try.func60, Try.ntmps60
  go_wp2
  go_ret
  exact ⟨rfl, rfl⟩
set_option maxRecDepth 100000 in
theorem back61_c (o : Option Addr) (n c : Nat) (w : World) : Calls Try.prog 61 #[.slice o n c] w fun e w' => e = .returned (.func (.func 71) #[] #[.pointer (some ⟨w.heap.size, 0, none⟩)]) ∧ w' = w.alloc (.cells #[.slice o n c] 47) := by
  go_enter Try.func61, Try.ntmps61
  go_wp2
  go_ret
  exact ⟨rfl, rfl⟩
theorem cell1_new (W : World) (v : Value) (t : TypeId) : (W.alloc (.cells #[v] t)).cell? ⟨W.heap.size, 0, none⟩ = some v := by
  have h := World.alloc_heap_new W (.cells #[v] t)
  show World.cell? _ _ = _
  unfold World.cell?
  simp only [h]
  simp
theorem St.putNew {X : Nat → Prop} {Bl l : Nat} {A W : World} (h : St X Bl A W) (o' : Obj) (hl : A.heap.size ≤ l) (hne : Bl ≠ l) : St X Bl A (W.putObj l o') :=
  ⟨h.1, h.2.1, h.2.2.1, by have := h.2.2.2.1; simpa [World.putObj] using this, fun b o hb => (h.2.2.2.2 b o hb).put o' (by have := (Array.getElem?_eq_some_iff.1 hb.1).1; omega) hne⟩

set_option maxRecDepth 100000 in
set_option maxHeartbeats 4000000 in
theorem pieces_c (X : Nat → Prop) (Bl n₀ M G c l Bm N : Nat) (a : Pt) (E : Nat → Int × Int) (J Jx : Nat → World → Prop) (W : World) (hN : a.L.length = N) (hE : ∀ k, k < N → a.L[N - 1 - k]? = some (E k)) (hsz : N ≤ 65536)
    (hm : W.cell? ⟨Bm, 0, none⟩ = some (.pointer (some ⟨M, 0, none⟩))) (hnu : Nu n₀ W M G c [a]) (hXW : ∀ k, X k → k < W.heap.size) (hR : Ri Bl W)
    (hJ : Ab W.heap.size J) (hJx : Ab W.heap.size Jx) (hJr : ∀ k A, J k A → Ri Bl A)
    (hY : ∀ k W1, k < N → J k W1 → YieldAt Fence.wide 0 Try.prog l #[.agg #[.int .i64 (E k).1, .int .i64 (E k).2]] W1 (YK J Jx (St X Bl) k W1)) (h0 : J 0 W) :
    CallsIn Fence.wide 0 Try.prog 59 #[.func (.yield l) #[] #[], .pointer (some ⟨Bm, 0, none⟩)] W (ItP J Jx N) := by
  have cM := hnu.headC
  simp only [List.length_cons, List.length_nil, Nat.zero_add] at cM
  have lm : Bm < W.heap.size := World.block_lt_of_cell? _ _ hm
  have lM : M < W.heap.size := World.block_lt_of_cell? _ _ cM
  refine callsIn_of_wp_marks (F := Fence.wide) (n := 0) Try.func59 rfl trivial ?_ rfl
  refine wpIn_wide.2 ?_
  simp only [Try.ntmps59, List.size_toArray, List.length_cons, List.length_nil, Nat.reduceAdd, Nat.reduceSub, Array.replicate_succ, Array.replicate_zero, List.push_toArray, List.append_toArray, List.nil_append, List.cons_append]
  go_wp2_with fail
  refine (back60_c _ _ _ _).mono ?_
  rintro e w' ⟨rfl, hw⟩
  subst w'
  go_wp2
  have hb0 : Below W.heap.size W ((W.alloc (.cells #[.func (.yield l) #[] #[]] 82)).alloc (.cells #[.slice (some ⟨G, 0, none⟩) 1 c] 74)) := ((Below.refl _ W).alloc (Nat.le_refl _) _).alloc (by simp) _
  have z0 : ((W.alloc (.cells #[.func (.yield l) #[] #[]] 82)).alloc (.cells #[.slice (some ⟨G, 0, none⟩) 1 c] 74)).heap.size = W.heap.size + 2 := by simp
  have hBy : ((W.alloc (.cells #[.func (.yield l) #[] #[]] 82)).alloc (.cells #[.slice (some ⟨G, 0, none⟩) 1 c] 74)).heap[W.heap.size]? = some (.cells #[.func (.yield l) #[] #[]] 82 (0, 0)) := by
    rw [Below.heap_alloc _ _ _ (by simp)]; exact World.alloc_heap_new W _
  have hBs : ((W.alloc (.cells #[.func (.yield l) #[] #[]] 82)).alloc (.cells #[.slice (some ⟨G, 0, none⟩) 1 c] 74)).heap[W.heap.size + 1]? = some (.cells #[.slice (some ⟨G, 0, none⟩) 1 c] 74 (0, 0)) := by
    have := World.alloc_heap_new (W.alloc (.cells #[.func (.yield l) #[] #[]] 82)) (.cells #[.slice (some ⟨G, 0, none⟩) 1 c] 74)
    rwa [World.size_alloc] at this
  generalize (W.alloc (.cells #[.func (.yield l) #[] #[]] 82)).alloc (.cells #[.slice (some ⟨G, 0, none⟩) 1 c] 74) = W0 at *
  have hR0 : Ri Bl W0 := hR.below hb0
  have nX : ∀ k, W.heap.size ≤ k → ¬ X k := fun k hk hx => by have := hXW k hx; omega
  have hBl := hR.1
  obtain ⟨X3, hX3⟩ : ∃ X3 : Nat → Prop, ∀ k, X3 k ↔ (X k ∨ k = W0.heap.size + 1) := ⟨_, fun _ => Iff.rfl⟩
  obtain ⟨I3, hI3⟩ : ∃ I3 : Nat → World → Prop, ∀ k Wx, I3 k Wx ↔ ((k = 0 → J 0 Wx ∧ Below W.heap.size W Wx ∧ Wx.heap[W.heap.size]? = some (.cells #[.func (.yield l) #[] #[]] 82 (0, 0)) ∧ Wx.heap[W.heap.size + 1]? = some (.cells #[.slice (some ⟨G, 0, none⟩) 1 c] 74 (0, 0))) ∧ (k = 1 → J N Wx) ∧ Hs X3 Bl W0.heap.size (.deferred (some [])) Wx) := ⟨_, fun _ _ => Iff.rfl⟩
  obtain ⟨Ix3, hIx3⟩ : ∃ Ix3 : Code → Nat → World → Prop, ∀ cd k Wx, Ix3 cd k Wx ↔ (cd = .ret ∧ (∃ j, j ≤ N ∧ Jx j Wx) ∧ Hs X3 Bl W0.heap.size (.deferred (some [])) Wx) := ⟨_, fun _ _ _ => Iff.rfl⟩
  have hIp : ∀ k Wx r r', I3 k Wx → Wx.heap[W0.heap.size + 1]? = some (.loop r) → I3 k (Wx.putObj (W0.heap.size + 1) (.loop r')) := by
    intro k Wx r r' hi hl
    obtain ⟨h1, h2, h3⟩ := (hI3 _ _).1 hi
    refine (hI3 _ _).2 ⟨fun hk => ?_, fun hk => hJ.g2 _ _ _ _ _ (h2 hk) (by omega) hl rfl, h3.put _ (by omega) (by omega)⟩
    obtain ⟨q1, q2, q3, q4⟩ := h1 hk
    exact ⟨hJ.g2 _ _ _ _ _ q1 (by omega) hl rfl, q2.trans ⟨rfl, rfl, rfl, by simp [World.putObj], fun j hj => World.putObj_heap_other (by omega)⟩, (World.putObj_heap_other (by omega)).trans q3, (World.putObj_heap_other (by omega)).trans q4⟩
  have hIxp : ∀ cd k Wx r r', Ix3 cd k Wx → Wx.heap[W0.heap.size + 1]? = some (.loop r) → Ix3 cd k (Wx.putObj (W0.heap.size + 1) (.loop r')) := by
    intro cd k Wx r r' hi hl
    obtain ⟨h1, ⟨j, h2, h2'⟩, h3⟩ := (hIx3 _ _ _).1 hi
    exact (hIx3 _ _ _).2 ⟨h1, ⟨j, h2, hJx.g2 _ _ _ _ _ h2' (by omega) hl rfl⟩, h3.put _ (by omega) (by omega)⟩
  refine (wpIn_wide (n := 0)).1 ?_
  refine range_out (gf := 70) (lb := #[.pointer (some ⟨W.heap.size + 1, 0, none⟩)]) rfl (enters_of Try.func70 (by kernel_rfl) rfl) (I := I3) (Ix := Ix3) (N := 1) hIp hIxp ?h0 ?hseq ?hdone ?hstop
  case h0 =>
    intro o
    have hbb : Below W0.heap.size W0 ((W0.alloc (.deferred (some []))).alloc o) := ((Below.refl _ W0).alloc (Nat.le_refl _) _).alloc (by simp) _
    refine (hI3 _ _).2 ⟨fun _ => ⟨hJ.g1 _ _ _ h0 (hb0.trans (hbb.mono (by omega))), hb0.trans (hbb.mono (by omega)), (hbb.block _ (by omega)).trans hBy, (hbb.block _ (by omega)).trans hBs⟩, fun h => by omega, ?_⟩
    refine Hs.newer _ hR0 hbb ?_ (Nat.le_refl _) ?_
    · rw [hX3]
      rintro (hx | hx)
      · exact nX _ (by omega) hx
      · omega
    · rw [Below.heap_alloc _ _ _ (by simp)]; exact World.alloc_heap_new W0 _
  case hdone =>
    intro Wx hi
    obtain ⟨h1, h2, h3⟩ := (hI3 _ _).1 hi
    have hK := h3.1
    refine ⟨by simp, .inl ⟨_, _, rfl, run_takeDeferred hK, ?_⟩⟩
    exact ⟨_, results_none rfl _ _ _, ⟨_, rfl⟩, .inl (hJ.g2 _ _ _ _ _ (h2 rfl) (by omega) hK rfl)⟩
  case hstop =>
    intro cd k Wx hk hi
    obtain ⟨rfl, ⟨j, h2, h2'⟩, h3⟩ := (hIx3 _ _ _).1 hi
    have hK := h3.1
    refine wpIn_wide.2 ?_
    go_wp2
    refine ⟨by simp, .inl ⟨_, _, rfl, run_takeDeferred hK, ?_⟩⟩
    exact ⟨_, results_none rfl _ _ _, ⟨_, rfl⟩, .inr ⟨j, h2, hJx.g2 _ _ _ _ _ h2' (by omega) hK rfl⟩⟩
  case hseq =>
    intro fn W1 hW1 hb1
    refine (back_part (W.heap.size + 1) G (W0.heap.size + 1) a.T c a.f _ _ W1 (fun Wx hx => ?_) (fun Wx hx => ?_) hb1)
    · obtain ⟨hi, _⟩ := hx
      obtain ⟨_, q2, _, q4⟩ := ((hI3 _ _).1 hi).1 rfl
      have hnx := hnu.chg (X := fun k => W.heap.size ≤ k) ⟨q2.os, q2.tape, q2.output, q2.size, fun k hk _ => q2.block k hk⟩ (by have := hnu.lt.1; omega) (by have := hnu.lt.2; omega) (fun b hb => ⟨by have := (hnu.sets b hb).lt.1; omega, fun g hg => by have := (hnu.sets b hb).lt.2 g hg; omega⟩)
      obtain ⟨R, hA, _⟩ := hnx.row
      have := YtlobnlkpbenngaaP.cells_at hA 0 (by simp)
      refine ⟨by simp [World.cell?, q4], by simpa [Pt.p] using this.1, by simpa [Pt.p] using this.2⟩
    · obtain ⟨hi, hl⟩ := hx
      have key := round_raw (P := Try.prog) (encs := fun _ => #[.int .i64 0, .agg #[.int .i64 a.f, .pointer (some ⟨a.T, 0, none⟩)]]) (fun _ => rfl) (Kp := St X3 Bl) (fun h k => h.trans k) (fun A r r' hr => St.put _ ((hX3 _).2 (.inr rfl)) (by omega)) hIp hIxp (k := 0) (W := Wx) ⟨hi, hl⟩ ?_
      · obtain ⟨f1, f2, f3, f4, f5, f6⟩ := key
        refine ⟨f1, f2, f3, f4, f5, f6.mono ?_⟩
        rintro e W' (⟨rfl, y1, y2⟩ | ⟨rfl, y1, y2⟩)
        · exact .inl ⟨rfl, y1⟩
        · exact .inr ⟨rfl, y1⟩
      · intro K hK
        obtain ⟨h1, h2, h3⟩ := (hI3 _ _).1 hi
        obtain ⟨q1, q2, q3, q4⟩ := h1 rfl
        have lx : W0.heap.size + 1 < Wx.heap.size := (Array.getElem?_eq_some_iff.1 hl).1
        gi_wp2
        refine hK _ _ (Below.heap_alloc Wx _ _ lx) (St.alloc _ (by omega)) (fun r' => ?_)
        clear hK
        have hx1 := World.alloc_heap_new Wx (.cells #[.int .i64 a.f, .pointer (some ⟨a.T, 0, none⟩)] 73)
        have hxa : Below Wx.heap.size Wx (Wx.alloc (.cells #[.int .i64 a.f, .pointer (some ⟨a.T, 0, none⟩)] 73)) := (Below.refl _ Wx).alloc (Nat.le_refl _) _
        have hxl := (hxa.block _ lx).trans hl
        have hx3 := h3.below hxa (by omega)
        have hxj := hJ.g1 _ _ _ q1 hxa
        have hxb : Below W.heap.size W (Wx.alloc (.cells #[.int .i64 a.f, .pointer (some ⟨a.T, 0, none⟩)] 73)) := q2.trans (hxa.mono (by have := q2.size; omega))
        have hxy := (hxa.block W.heap.size (by omega)).trans q3
        have hxz : (Wx.alloc (.cells #[.int .i64 a.f, .pointer (some ⟨a.T, 0, none⟩)] 73)).heap.size = Wx.heap.size + 1 := by simp
        generalize Wx.alloc (.cells #[.int .i64 a.f, .pointer (some ⟨a.T, 0, none⟩)] 73) = Wa at *
        have rl : (Wa.putObj (W0.heap.size + 1) (.loop r')).heap[W0.heap.size + 1]? = some (.loop r') := World.putObj_heap_same (by omega)
        have rp : (Wa.putObj (W0.heap.size + 1) (.loop r')).heap[Wx.heap.size]? = some (.cells #[.int .i64 a.f, .pointer (some ⟨a.T, 0, none⟩)] 73 (0, 0)) := (World.putObj_heap_other (by omega)).trans hx1
        have rd := hx3.put (.loop r') (show W0.heap.size ≠ W0.heap.size + 1 by omega) (show Bl ≠ W0.heap.size + 1 by omega)
        have rj := hJ.g2 _ _ _ _ (.loop r') hxj (show W.heap.size ≤ W0.heap.size + 1 by omega) hxl rfl
        have rb : Below W.heap.size W (Wa.putObj (W0.heap.size + 1) (.loop r')) := hxb.trans ⟨rfl, rfl, rfl, by simp [World.putObj], fun j hj => World.putObj_heap_other (by omega)⟩
        have ry : (Wa.putObj (W0.heap.size + 1) (.loop r')).heap[W.heap.size]? = some (.cells #[.func (.yield l) #[] #[]] 82 (0, 0)) := (World.putObj_heap_other (by omega)).trans hxy
        have rz : (Wa.putObj (W0.heap.size + 1) (.loop r')).heap.size = Wx.heap.size + 1 := by simp [World.putObj, hxz]
        generalize Wa.putObj (W0.heap.size + 1) (.loop r') = Wr at *
        clear hx1 hxa hxl hx3 hxj hxb hxy hxz h1 h2 h3 q1 q2 q3 q4 hi hl hb1 hW1
        have hRr : Ri Bl Wr := hJr _ _ rj
        have hnr := hnu.chg (X := fun k => W.heap.size ≤ k) ⟨rb.os, rb.tape, rb.output, rb.size, fun k hk _ => rb.block k hk⟩ (by have := hnu.lt.1; omega) (by have := hnu.lt.2; omega) (fun b hb => ⟨by have := (hnu.sets b hb).lt.1; omega, fun g hg => by have := (hnu.sets b hb).lt.2 g hg; omega⟩)
        obtain ⟨⟨cs, hSe⟩, hOk, hlen, _⟩ := hnr.sets a (by simp)
        have cp : Wr.cell? ⟨Wx.heap.size, 1, none⟩ = some (.pointer (some ⟨a.T, 0, none⟩)) := by simp [World.cell?, rp]
        have hball : Below Wr.heap.size Wr (Wr.alloc (.cells #[.pointer (some ⟨a.T, 0, none⟩)] 70)) := (Below.refl _ Wr).alloc (Nat.le_refl _) _
        have hcol := collect_c a.T cs Wr.heap.size a.o a.L (Wr.alloc (.cells #[.pointer (some ⟨a.T, 0, none⟩)] 70)) (hSe.below hball (Nat.le_refl _)) hlen (cell1_new Wr _ 70)
        rw [hN] at hcol
        have Z0 : Aside _ := z0
        have RZ : Aside _ := rz
        clear z0 rz hball
        refine wpIn_block ?_
        gi_wp2_with fail
        refine ⟨trivial, rfl, CallsIn.inRound _ (callsIn_wide.2 ((all_any _ _).mono ?_))⟩
        rintro e w' ⟨rfl, hw⟩
        subst w'
        gi_wp2_with fail
        refine ⟨trivial, rfl, CallsIn.inRound _ (callsIn_wide.2 (hcol.mono ?_))⟩
        rintro e Wc ⟨oc, cc, rfl, hRs, hcm, hbc, hoc⟩
        gi_wp2_with fail
        refine ⟨trivial, rfl, CallsIn.inRound _ (callsIn_wide.2 ((back61_c _ _ _ _).mono ?_))⟩
        rintro e w' ⟨rfl, hw⟩
        subst w'
        gi_wp2
        have hb4 : Below Wr.heap.size Wr (Wc.alloc (.cells #[.slice oc N cc] 47)) := (((Below.refl _ Wr).alloc (Nat.le_refl _) _).trans (hbc.mono (by simp))).alloc (by have := hbc.size; simp at this; omega) _
        have hs4 := World.alloc_heap_new Wc (.cells #[.slice oc N cc] 47)
        have hRs4 : (oc = none ∧ N = 0) ∨ ∃ q R, oc = some ⟨q, 0, none⟩ ∧ (Wc.alloc (.cells #[.slice oc N cc] 47)).heap[q]? = some (.cells (fl a.L ++ R).toArray 53 (0, 0)) ∧ Wr.heap.size ≤ q := by
          rcases hRs with ⟨r1, r2, _⟩ | ⟨q, R, r1, r2, _⟩
          · exact .inl ⟨r1, by rw [← hN, r2]; rfl⟩
          · exact .inr ⟨q, R, r1, At.alloc r2 _, by have := hoc q r1; simp at this; omega⟩
        have hz4 : (Wc.alloc (.cells #[.slice oc N cc] 47)).heap.size = Wc.heap.size + 1 := by simp
        have hzc : Wr.heap.size + 1 ≤ Wc.heap.size := by have := hbc.size; simpa using this
        generalize Wc.alloc (.cells #[.slice oc N cc] 47) = W4 at *
        clear hcol hRs hbc hoc
        have z0 := Z0.out
        have rz := RZ.out
        have hbW : Below W.heap.size W W4 := rb.trans (hb4.mono (by omega))
        have hR4 : Ri Bl W4 := hR.below hbW
        have l4 := hb4.size
        obtain ⟨X4, hX4⟩ : ∃ X4 : Nat → Prop, ∀ k, X4 k ↔ (X k ∨ k = W4.heap.size) := ⟨_, fun _ => Iff.rfl⟩
        have nX4 : ∀ k, W.heap.size ≤ k → k < W4.heap.size → ¬ X4 k := fun k h1 h2 hx => by
          rcases (hX4 k).1 hx with hx | hx
          · exact nX k h1 hx
          · omega
        have own : ∀ b o, W.heap.size ≤ b → W4.heap[b]? = some o → Hs X4 Bl b o W4 := fun b o hb ho => Hs.newer o hR hbW (nX4 b hb (Array.getElem?_eq_some_iff.1 ho).1) hb ho
        have o1 := own W.heap.size _ (Nat.le_refl _) ((hb4.block _ (by omega)).trans ry)
        have o2 := own W0.heap.size _ (by omega) ((hb4.block _ (by omega)).trans rd.1)
        have o3 := own (W0.heap.size + 1) _ (by omega) ((hb4.block _ (by omega)).trans rl)
        have o4 := own Wc.heap.size _ (by omega) hs4
        have o5 : (oc = none ∧ N = 0) ∨ ∃ q R, oc = some ⟨q, 0, none⟩ ∧ Hs X4 Bl q (.cells (fl a.L ++ R).toArray 53 (0, 0)) W4 := by
          rcases hRs4 with h | ⟨q, R, r1, r2, r3⟩
          · exact .inl h
          · exact .inr ⟨q, R, r1, own q _ (by omega) r2⟩
        have j4 : J 0 W4 := hJ.g1 _ _ _ rj hb4
        have st4 : St X3 Bl Wr W4 := St.below hb4 (by omega)
        obtain ⟨I4, hI4⟩ : ∃ I4 : Nat → World → Prop, ∀ k Wx, I4 k Wx ↔ (J k Wx ∧ Hs X4 Bl W.heap.size (.cells #[.func (.yield l) #[] #[]] 82 (0, 0)) Wx ∧ Hs X4 Bl W0.heap.size (.deferred (some [])) Wx ∧ Hs X4 Bl (W0.heap.size + 1) (.loop r') Wx ∧ Hs X4 Bl Wc.heap.size (.cells #[.slice oc N cc] 47 (0, 0)) Wx ∧
          ((oc = none ∧ N = 0) ∨ ∃ q R, oc = some ⟨q, 0, none⟩ ∧ Hs X4 Bl q (.cells (fl a.L ++ R).toArray 53 (0, 0)) Wx) ∧ (∀ n c, Wx.cell? ⟨Bl, 0, none⟩ ≠ some (.slice (some ⟨W4.heap.size, 0, none⟩) n c)) ∧ St X3 Bl Wr Wx) := ⟨_, fun _ _ => Iff.rfl⟩
        obtain ⟨Ix4, hIx4⟩ : ∃ Ix4 : Code → Nat → World → Prop, ∀ cd k Wx, Ix4 cd k Wx ↔ (cd = .ret ∧ (∃ j, j ≤ N ∧ Jx j Wx) ∧ Hs X4 Bl W0.heap.size (.deferred (some [])) Wx ∧ Hs X4 Bl (W0.heap.size + 1) (.loop r') Wx ∧ St X3 Bl Wr Wx) := ⟨_, fun _ _ _ => Iff.rfl⟩
        have x4l : X4 W4.heap.size := (hX4 _).2 (.inr rfl)
        have hne4 : Bl ≠ W4.heap.size := by omega
        have hIp4 : ∀ k Wx r r', I4 k Wx → Wx.heap[W4.heap.size]? = some (.loop r) → I4 k (Wx.putObj W4.heap.size (.loop r')) := by
          intro k Wx r r'' hi hl
          obtain ⟨i1, i2, i3, i4, i5, i6, i7, i8⟩ := (hI4 _ _).1 hi
          have sp : St X4 Bl Wx (Wx.putObj W4.heap.size (.loop r'')) := St.put _ x4l hne4
          refine (hI4 _ _).2 ⟨hJ.g2 _ _ _ _ _ i1 (by omega) hl rfl, i2.st sp, i3.st sp, i4.st sp, i5.st sp, ?_, fun n c e => i7 n c (by rwa [cell?_putObj_other _ (by exact hne4)] at e), i8.putNew _ (by omega) hne4⟩
          rcases i6 with h | ⟨q, R, r1, r2⟩
          · exact .inl h
          · exact .inr ⟨q, R, r1, r2.st sp⟩
        have hIxp4 : ∀ cd k Wx r r', Ix4 cd k Wx → Wx.heap[W4.heap.size]? = some (.loop r) → Ix4 cd k (Wx.putObj W4.heap.size (.loop r')) := by
          intro cd k Wx r r'' hi hl
          obtain ⟨i1, ⟨j, i2, i2'⟩, i3, i4, i5⟩ := (hIx4 _ _ _).1 hi
          have sp : St X4 Bl Wx (Wx.putObj W4.heap.size (.loop r'')) := St.put _ x4l hne4
          exact (hIx4 _ _ _).2 ⟨i1, ⟨j, i2, hJx.g2 _ _ _ _ _ i2' (by omega) hl rfl⟩, i3.st sp, i4.st sp, i5.putNew _ (by omega) hne4⟩
        refine range_in (l₀ := W0.heap.size + 1) (r₀ := r') o3.1 (gf := 71) (lb := #[.pointer (some ⟨Wc.heap.size, 0, none⟩)]) rfl (enters_of Try.func71 (by kernel_rfl) rfl) (I := I4) (Ix := Ix4) (N := N) hIp4 hIxp4 ?h04 ?hseq4 ?hdone4 ?hstop4
        case h04 =>
          intro o
          have hbb : Below W4.heap.size W4 (W4.alloc o) := (Below.refl _ W4).alloc (Nat.le_refl _) _
          have sp : St X4 Bl W4 (W4.alloc o) := St.below hbb hR4.1
          refine (hI4 _ _).2 ⟨hJ.g1 _ _ _ j4 hbb, o1.st sp, o2.st sp, o3.st sp, o4.st sp, ?_, fun n c e => ?_, st4.trans (St.below hbb hR4.1)⟩
          · rcases o5 with h | ⟨q, R, r1, r2⟩
            · exact .inl h
            · exact .inr ⟨q, R, r1, r2.st sp⟩
          · rw [World.cell?_alloc_lt _ _ _ hR4.1] at e
            have := hR4.2 _ _ _ e
            omega
        case hdone4 =>
          intro Wy hi
          obtain ⟨i1, i2, i3, i4, i5, i6, i7, i8⟩ := (hI4 _ _).1 hi
          refine ⟨i4.1.trans rl.symm, i8, (hI3 _ _).2 ⟨fun h => by omega, fun _ => i1, i3.wide ?_⟩⟩
          exact rd.2.1
        case hstop4 =>
          intro cd k Wy hk hi
          obtain ⟨rfl, i2, i3, i4, i5⟩ := (hIx4 _ _ _).1 hi
          gi_wp2
          exact ⟨i4.1.trans rl.symm, i5, (hIx3 _ _ _).2 ⟨rfl, i2, i3.wide rd.2.1⟩⟩
        case hseq4 =>
          intro fn4 D4 W5 hW5 hb5
          have h5 := (hI4 _ _).1 hb5.1
          rcases h5.2.2.2.2.2.1 with ⟨rfl, rfl⟩ | ⟨q, R, rfl, hq⟩
          · exact back_none Wc.heap.size W4.heap.size cc _ _ W5 (h5.2.2.2.2.1.cell0 0) hb5
          · refine back_spans Wc.heap.size q cc N W4.heap.size a.L hN E hE _ _ W5 (fun k Wy hy => ?_) (by omega) (fun k Wy hk hby => ?_) hb5
            · obtain ⟨i1, i2, i3, i4, i5, i6, i7, i8⟩ := (hI4 _ _).1 hy.1
              refine ⟨i5.cell0 0, ?_⟩
              rcases i6 with ⟨h, _⟩ | ⟨q', R', r1, r2⟩
              · cases h
              · obtain rfl : q = q' := by simpa using r1
                exact ⟨R', r2.1⟩
            · have key := round_raw (P := Try.prog) (encs := fun k : Nat => #[.int .i64 ((N : Int) - 1 - k), .agg #[.int .i64 (E k).1, .int .i64 (E k).2]]) (fun _ => rfl) (Kp := fun _ _ => True) (fun _ _ => trivial) (fun _ _ _ _ => trivial) hIp4 hIxp4 hby ?_
              · obtain ⟨f1, f2, f3, f4, f5, f6⟩ := key
                refine ⟨f1, f2, f3, f4, f5, f6.mono ?_⟩
                rintro e W' (⟨rfl, y1, y2⟩ | ⟨rfl, y1, y2⟩)
                · exact .inl ⟨rfl, y1⟩
                · exact .inr ⟨rfl, y1⟩
              · intro K hK
                obtain ⟨hi, hl⟩ := hby
                obtain ⟨i1, i2, i3, i4, i5, i6, i7, i8⟩ := (hI4 _ _).1 hi
                have lx : W4.heap.size < Wy.heap.size := (Array.getElem?_eq_some_iff.1 hl).1
                have hRy := hJr _ _ i1
                have hba : Below Wy.heap.size Wy (Wy.alloc (.cells #[.int .i64 (E k).1, .int .i64 (E k).2] 53)) := (Below.refl _ Wy).alloc (Nat.le_refl _) _
                have ha1 := World.alloc_heap_new Wy (.cells #[.int .i64 (E k).1, .int .i64 (E k).2] 53)
                have hK2 := fun a' => hK a' (Wy.alloc (.cells #[.int .i64 (E k).1, .int .i64 (E k).2] 53)) (Below.heap_alloc Wy _ _ lx) trivial
                have hIa : I4 k (Wy.alloc (.cells #[.int .i64 (E k).1, .int .i64 (E k).2] 53)) := by
                  have sp : St X4 Bl Wy (Wy.alloc (.cells #[.int .i64 (E k).1, .int .i64 (E k).2] 53)) := St.below hba hRy.1
                  refine (hI4 _ _).2 ⟨hJ.g1 _ _ _ i1 hba, i2.st sp, i3.st sp, i4.st sp, i5.st sp, ?_, fun n c e => i7 n c (by rwa [World.cell?_alloc_lt _ _ _ hRy.1] at e), i8.trans (St.below hba hRy.1)⟩
                  rcases i6 with h | ⟨q, R, r1, r2⟩
                  · exact .inl h
                  · exact .inr ⟨q, R, r1, r2.st sp⟩
                have hla := (hba.block _ lx).trans hl
                have HK2 : Aside _ := hK2
                clear i1 i2 i3 i4 i5 i6 i7 i8 hi hl hK hK2
                gi_wp2
                refine HK2.out _ (fun r4 => ?_)
                clear HK2
                have hIq := hIp4 _ _ _ r4 hIa hla
                have hlq : ((Wy.alloc (.cells #[.int .i64 (E k).1, .int .i64 (E k).2] 53)).putObj W4.heap.size (.loop r4)).heap[W4.heap.size]? = some (.loop r4) := World.putObj_heap_same (by simp; omega)
                have hsq : ((Wy.alloc (.cells #[.int .i64 (E k).1, .int .i64 (E k).2] 53)).putObj W4.heap.size (.loop r4)).heap[Wy.heap.size]? = some (.cells #[.int .i64 (E k).1, .int .i64 (E k).2] 53 (0, 0)) := (World.putObj_heap_other (by omega)).trans ha1
                generalize (Wy.alloc (.cells #[.int .i64 (E k).1, .int .i64 (E k).2] 53)).putObj W4.heap.size (.loop r4) = Wq at *
                clear hIa hla hba ha1
                obtain ⟨i1, i2, i3, i4, i5, i6, i7, i8⟩ := (hI4 _ _).1 hIq
                obtain ⟨fn5, tmps5, assign5, body5, hy5, hR5⟩ := hY k Wq hk i1
                have cy : Wq.cell? ⟨W.heap.size, 0, none⟩ = some (.func (.yield l) #[] #[]) := i2.cell0 0
                have c0 : Wq.cell? ⟨Wy.heap.size, 0, none⟩ = some (.int .i64 (E k).1) := by simp [World.cell?, hsq]
                have c1 : Wq.cell? ⟨Wy.heap.size, 1, none⟩ = some (.int .i64 (E k).2) := by simp [World.cell?, hsq]
                have HQ : Aside _ := hIq
                have HL : Aside (Hs X Bl W4.heap.size (.loop r4) Wq) := ⟨hlq, nX _ (by omega), i7⟩
                clear i1 i2 i3 i4 i5 i6 i7 i8 hIq hsq
                have Z0' : Aside _ := z0
                have RZ' : Aside _ := rz
                have HZ4 : Aside _ := hz4
                clear z0 rz hz4 Z0 RZ
                generalize (E k).1 = xa at *
                generalize (E k).2 = xb at *
                refine wpIn_block ?_
                gi_wp2
                refine ⟨rfl, RoundIn.mono hR5 ?_⟩
                rintro e W' (⟨rfl, y1, y2⟩ | ⟨rfl, y1, y2⟩)
                · have HY1 : Aside _ := y1
                  have HY2 : Aside _ := y2
                  clear y1 y2 hR5 hy5
                  gi_wp2
                  obtain ⟨i1, i2, i3, i4, i5, i6, i7, i8⟩ := (hI4 _ _).1 HQ.out
                  have s4 : St X4 Bl Wq W' := St.mono HY2.out (fun k hk => (hX4 k).2 (.inl hk))
                  have s3 : St X3 Bl Wq W' := St.mono HY2.out (fun k hk => (hX3 k).2 (.inl hk))
                  have hl' := Hs.st HL.out HY2.out
                  refine ⟨hl'.1.trans hlq.symm, trivial, (hI4 _ _).2 ⟨HY1.out, i2.st s4, i3.st s4, i4.st s4, i5.st s4, ?_, hl'.2.2, i8.trans s3⟩⟩
                  rcases i6 with h | ⟨q, R, r1, r2⟩
                  · exact .inl h
                  · exact .inr ⟨q, R, r1, r2.st s4⟩
                · have HY1 : Aside _ := y1
                  have HY2 : Aside _ := y2
                  clear y1 y2 hR5 hy5
                  gi_wp2
                  obtain ⟨i1, i2, i3, i4, i5, i6, i7, i8⟩ := (hI4 _ _).1 HQ.out
                  have s4 : St X4 Bl Wq W' := St.mono HY2.out (fun k hk => (hX4 k).2 (.inl hk))
                  have s3 : St X3 Bl Wq W' := St.mono HY2.out (fun k hk => (hX3 k).2 (.inl hk))
                  have hl' := Hs.st HL.out HY2.out
                  exact ⟨hl'.1.trans hlq.symm, trivial, (hIx4 _ _ _).2 ⟨rfl, ⟨k + 1, by omega, HY1.out⟩, i3.st s4, i4.st s4, i8.trans s3⟩⟩
end Go.Proofs.YtlobnlkpbenngaaR
