/- seen: New, Take. -/
import Derived.Test.YtlobnlkpbenngaaSn
namespace Go.Proofs.YtlobnlkpbenngaaR
open Go.RowKit Go.Shelf Go.Lib
set_option linter.unusedVariables false

/-- A number is in one of the parts. -/
def InQ (n : Int) (Q : List Pt) : Prop := ∃ a ∈ Q, In n a.L

set_option maxRecDepth 100000 in
/-- due: a closure over three boxes. -/
theorem due_mk (s M : Nat) (v : Svs) (n t : Int) (w : World) (h : Sc w s M v) (h0 : -1 ≤ v.g) (h1 : v.g ≤ 4611686018427387903) :
    Calls Try.prog 24 #[.pointer (some ⟨s, 0, none⟩), .int .i64 n, .int .i64 t] w fun e w' => e = .returned (.func (.func 36) #[] #[.pointer (some ⟨w.heap.size, 0, none⟩), .pointer (some ⟨w.heap.size + 1, 0, none⟩), .pointer (some ⟨w.heap.size + 2, 0, none⟩)]) ∧ Below w.heap.size w w' ∧
      w'.heap[w.heap.size]? = some (.cells #[.pointer (some ⟨s, 0, none⟩)] 23 (0, 0)) ∧ w'.heap[w.heap.size + 1]? = some (.cells #[.int .i64 t] 3 (0, 0)) ∧ w'.heap[w.heap.size + 2]? = some (.cells #[.bool (decide (n = v.g + 1))] 4 (0, 0)) := by
  have c3 := h.cells.2.2.2.1
  have hl := h.lt
  have hw : IntKind.i64.wrap (v.g + 1) = v.g + 1 := by rw [IntKind.wrap_i64]; omega
  clear h
  have hE : ∀ b : Bool, Below w.heap.size w (((w.alloc (.cells #[.pointer (some ⟨s, 0, none⟩)] 23)).alloc (.cells #[.int .i64 t] 3)).alloc (.cells #[.bool b] 4)) ∧
      (((w.alloc (.cells #[.pointer (some ⟨s, 0, none⟩)] 23)).alloc (.cells #[.int .i64 t] 3)).alloc (.cells #[.bool b] 4)).heap[w.heap.size]? = some (.cells #[.pointer (some ⟨s, 0, none⟩)] 23 (0, 0)) ∧
      (((w.alloc (.cells #[.pointer (some ⟨s, 0, none⟩)] 23)).alloc (.cells #[.int .i64 t] 3)).alloc (.cells #[.bool b] 4)).heap[w.heap.size + 1]? = some (.cells #[.int .i64 t] 3 (0, 0)) ∧
      (((w.alloc (.cells #[.pointer (some ⟨s, 0, none⟩)] 23)).alloc (.cells #[.int .i64 t] 3)).alloc (.cells #[.bool b] 4)).heap[w.heap.size + 2]? = some (.cells #[.bool b] 4 (0, 0)) := by
    intro b
    refine ⟨(((Below.refl _ w).alloc (Nat.le_refl _) _).alloc (by simp) _).alloc (by simp; omega) _, ?_, ?_, ?_⟩
    · rw [Below.heap_alloc _ _ _ (by simp; omega), Below.heap_alloc _ _ _ (by simp)]; exact World.alloc_heap_new w _
    · rw [Below.heap_alloc _ _ _ (by simp)]
      have := World.alloc_heap_new (w.alloc (.cells #[.pointer (some ⟨s, 0, none⟩)] 23)) (.cells #[.int .i64 t] 3)
      rwa [World.size_alloc] at this
    · have := World.alloc_heap_new ((w.alloc (.cells #[.pointer (some ⟨s, 0, none⟩)] 23)).alloc (.cells #[.int .i64 t] 3)) (.cells #[.bool b] 4)
      simpa using this
  have HE : Aside _ := hE
  clear hE
  by_cases hn : n = v.g + 1
  · have hb : (n == v.g + 1) = true := by simpa using hn
    rw [decide_eq_true hn]
    have HN : Aside _ := hn
    clear hn
    go_enter Try.func24, Try.ntmps24
    go_wp2
    go_ret
    exact ⟨rfl, HE.out true⟩
  · have hb : (n == v.g + 1) = false := by simpa using hn
    rw [decide_eq_false hn]
    go_enter Try.func24, Try.ntmps24
    go_wp2
    go_ret
    exact ⟨rfl, HE.out false⟩

set_option maxRecDepth 100000 in
/-- What is due, if a packet waits that comes at t. -/
theorem due1_c (s M B1 B2 B3 : Nat) (v : Svs) (t : Int) (nx : Bool) (w : World) (h : Sc w s M v) (h1 : w.heap[B1]? = some (.cells #[.pointer (some ⟨s, 0, none⟩)] 23 (0, 0))) (h2 : w.heap[B2]? = some (.cells #[.int .i64 t] 3 (0, 0))) (h3 : w.heap[B3]? = some (.cells #[.bool nx] 4 (0, 0)))
    (hd0 : 0 ≤ v.d) (hd1 : v.d ≤ 1125899906842624) (ht0 : 0 ≤ t) (ht1 : t ≤ 1125899906842624) :
    Calls Try.prog 36 #[.pointer (some ⟨B1, 0, none⟩), .pointer (some ⟨B2, 0, none⟩), .pointer (some ⟨B3, 0, none⟩)] w fun e w' => e = .returned (.int .i64 (if v.t = -1 then (if nx then t + v.d else t) else min v.t t)) ∧ Below w.heap.size w w' := by
  obtain ⟨c0, c1, c2, c3, c4, c5, c6⟩ := h.cells
  have e1 : w.cell? ⟨B1, 0, none⟩ = some (.pointer (some ⟨s, 0, none⟩)) := by simp [World.cell?, h1]
  have e2 : w.cell? ⟨B2, 0, none⟩ = some (.int .i64 t) := by simp [World.cell?, h2]
  have e3 : w.cell? ⟨B3, 0, none⟩ = some (.bool nx) := by simp [World.cell?, h3]
  have hw : IntKind.i64.wrap (t + v.d) = t + v.d := by rw [IntKind.wrap_i64]; omega
  have hbd : ∀ k, Below w.heap.size w (w.drewN k) := fun k => ⟨rfl, rfl, rfl, Nat.le_refl _, fun _ _ => rfl⟩
  clear h h1 h2 h3
  by_cases ht : v.t = -1
  · rw [if_pos ht]
    rw [ht] at c6
    clear ht
    cases nx with
    | true =>
      simp only [if_true]
      go_enter Try.func36, Try.ntmps36
      go_wp2
      go_quiet (fail)
      go_wp2
      go_ret
      exact ⟨rfl, hbd _⟩
    | false =>
      simp only [Bool.false_eq_true, if_false]
      go_enter Try.func36, Try.ntmps36
      go_wp2
      go_ret
      exact ⟨rfl, Below.refl _ _⟩
  · rw [if_neg ht]
    go_enter Try.func36, Try.ntmps36
    go_wp2
    go_quiet (fail)
    go_wp2
    go_ret
    exact ⟨rfl, hbd _⟩

theorem eg36 : ∀ args w, (callFunc 36 args).run Try.prog w = .ok (.enter 36 args) w := enters_of Try.func36 (by kernel_rfl) rfl

/-- When an acknowledgement is due behind a fresh packet that waits. -/
def dueAt (v : Svs) (n t : Int) : Int := if v.t = -1 then (if decide (n = v.g + 1) = true then t + v.d else t) else min v.t t

/-- What Take leaves. -/
def TakeQ (n₀ s M G c : Nat) (v : Svs) (Q : List Pt) (J : List Pt → Prop) (n t : Int) (el : Bool) (w : World) (e : Ending) (w' : World) : Prop :=
  (e = .returned (.tuple #[.bool false, .int .i64 0]) ∧ (n ≤ v.f ∨ InQ n Q) ∧ Sc w' s M { v with n := t } ∧ Nu n₀ w' M G c Q ∧ Chg (fun k => k = s) w w') ∨
  (e = .returned (.tuple #[.bool true, .int .i64 0]) ∧ v.f < n ∧ ¬ InQ n Q ∧ (∃ G' c' Q', Nu n₀ w' M G' c' Q' ∧ J Q') ∧ Ks n₀ s w w' ∧
    Sc w' s M ⟨v.d, v.f, if v.g < n then n else v.g, if v.g < n then t else v.a, t, if el then dueAt v n t else v.t⟩)

theorem chg_set {w : World} {s M : Nat} {v : Svs} (h : Sc w s M v) (j : Nat) (x : Value) : Chg (fun k => k = s) w (w.setCell ⟨s, j, none⟩ x) := by
  have h' : w.heap[s]? = some (.cells (v.cs M) 43 (0, 0)) := h
  rw [setCell_eq_setRow w s j _ 43 (0, 0) _ h']
  exact (Chg.refl _ w).set s _ (.inl rfl)

set_option maxRecDepth 100000 in
set_option maxHeartbeats 1000000 in
theorem take_c (n₀ s M G c : Nat) (v : Svs) (Q : List Pt) (J : List Pt → Prop) (n t : Int) (el : Bool) (w : World) (hs : Sc w s M v) (hu : Nu n₀ w M G c Q) (hn₀ : n₀ ≤ w.heap.size)
    (h0 : 0 ≤ n) (h1 : n ≤ 4611686018427387903) (h2 : 0 ≤ t) (h3 : t ≤ 1125899906842624) (h4 : v.n ≤ t) (hg0 : -1 ≤ v.g) (hg1 : v.g ≤ 4611686018427387903) (hd0 : 0 ≤ v.d) (hd1 : v.d ≤ 1125899906842624)
    (hhas : ∀ X, Nu n₀ X M G c Q → Calls Try.prog 23 #[.pointer (some ⟨M, 0, none⟩), .int .i64 n] X fun e w' => ∃ b : Bool, e = .returned (.bool b) ∧ (b = true ↔ InQ n Q) ∧ Below X.heap.size X w')
    (hadd : ∀ X, Nu n₀ X M G c Q → n₀ ≤ X.heap.size → Calls Try.prog 25 #[.pointer (some ⟨M, 0, none⟩), .int .i64 n] X fun e w' => (∃ v, e = .returned v) ∧ (∃ G' c' Q', Nu n₀ w' M G' c' Q' ∧ J Q') ∧ Kp n₀ X w') :
    Calls Try.prog 10 #[.pointer (some ⟨s, 0, none⟩), .int .i64 n, .bool el, .int .i64 t] w (TakeQ n₀ s M G c v Q J n t el w) := by
  have hwr := wrong_sc s M v n t w hs h0 h1 h2 h3 h4
  obtain ⟨c0, c1, c2, c3, c4, c5, c6⟩ := hs.cells
  have hf5 := hs.frozen 5
  have hsA : Sc (w.setCell ⟨s, 5, none⟩ (.int .i64 t)) s M { v with n := t } := hs.set 5 _ _ rfl
  have huA := hu.store hs 5 (.int .i64 t)
  have hcA := chg_set hs 5 (.int .i64 t)
  have HS : Aside _ := hs
  have HHAS : Aside _ := hhas
  have HADD : Aside _ := hadd
  have eg := eg36
  clear hhas hadd hs hu
  by_cases hf : n ≤ v.f
  · have HP : Aside (TakeQ n₀ s M G c v Q J n t el w (.returned (.tuple #[.bool false, .int .i64 0])) (w.setCell ⟨s, 5, none⟩ (.int .i64 t))) := .inl ⟨rfl, .inl hf, hsA, huA, hcA⟩
    clear hsA huA hcA
    go_enter Try.func10, Try.ntmps10
    go_wp2_with fail
    refine hwr.mono ?_
    rintro e w' ⟨rfl, hw⟩
    subst w'
    go_wp2
    go_ret2
    exact HP.out
  · have hhas := HHAS.out _ huA
    have HSA : Aside _ := hsA
    have HUA : Aside _ := huA
    have HCA : Aside _ := hcA
    clear hsA huA hcA
    go_enter Try.func10, Try.ntmps10
    go_wp2_with fail
    refine hwr.mono ?_
    rintro e w' ⟨rfl, hw⟩
    subst w'
    go_wp2_with fail
    refine hhas.mono ?_
    rintro e WB ⟨b, rfl, hb, hbb⟩
    clear hhas c0 c1 c2 c3 c4 c5 c6
    have hsB := Sc.below HSA.out hbb
    have huB := HUA.out.below hbb
    cases b with
    | true =>
      have HP : Aside (TakeQ n₀ s M G c v Q J n t el w (.returned (.tuple #[.bool false, .int .i64 0])) WB) := .inl ⟨rfl, .inr (hb.1 rfl), hsB, huB, Chg.trans HCA.out (Chg.below hbb)⟩
      clear hsB huB hb hbb
      go_wp2
      go_ret2
      exact HP.out
    | false =>
      have hin : ¬ InQ n Q := fun h => by have := hb.2 h; cases this
      have HIN : Aside _ := hin
      have hdue := due_mk s M _ n t WB hsB hg0 hg1
      have HKB : Aside (Ks n₀ s w WB) := Ks.trans ⟨HCA.out.1, HCA.out.2.1, HCA.out.2.2.1, HCA.out.2.2.2.1, fun k hk hks _ => HCA.out.2.2.2.2 k hk hks⟩ (Ks.below hbb)
      have HSB : Aside _ := hsB
      have HUB : Aside _ := huB
      clear hsB huB hb hbb hin HSA HUA HCA hwr
      go_wp2_with fail
      refine hdue.mono ?_
      rintro e WC ⟨rfl, hbc, b1, b2, b3⟩
      clear hdue
      have hsC := Sc.below HSB.out hbc
      have huC := HUB.out.below hbc
      have cC1 := hsC.cells.2.1
      have hadd := HADD.out WC huC (Nat.le_trans (Nat.le_trans hn₀ HKB.out.2.2.2.1) hbc.size)
      have HBC : Aside _ := Ks.trans HKB.out (Ks.below hbc)
      clear hbc
      generalize WB.heap.size = B1 at *
      have HSC : Aside _ := hsC
      have HB1 : Aside _ := b1
      have HB2 : Aside _ := b2
      have HB3 : Aside _ := b3
      clear hsC huC HKB HSB HUB b1 b2 b3
      go_wp2_with fail
      refine hadd.mono ?_
      rintro e WD ⟨⟨r, rfl⟩, hq, hk⟩
      clear hadd cC1
      have hsD := Sc.kp HSC.out hk
      have b1 := hk.cells HB1.out nut23
      have b2 := hk.cells HB2.out nut3
      have b3 := hk.cells HB3.out nut4
      have HKD : Aside (Ks n₀ s w WD) := Ks.trans HBC.out (Ks.kp hk)
      have HQ : Aside _ := hq
      clear hk hq HSC HBC HB1 HB2 HB3 HHAS HADD
      have ne1 : B1 ≠ s := by rintro rfl; have h' : WD.heap[B1]? = _ := hsD; rw [h'] at b1; simp at b1
      have ne2 : B1 + 1 ≠ s := by rintro rfl; have h' : WD.heap[B1 + 1]? = _ := hsD; rw [h'] at b2; simp at b2
      have ne3 : B1 + 2 ≠ s := by rintro rfl; have h' : WD.heap[B1 + 2]? = _ := hsD; rw [h'] at b3; simp at b3
      obtain ⟨c0, c1, c2, c3, c4, c5, c6⟩ := hsD.cells
      have f3 := hsD.frozen 3
      have f4 := hsD.frozen 4
      have f6 := hsD.frozen 6
      dsimp only at *
      by_cases hgn : v.g < n
      · have hsE := hsD.set 3 (.int .i64 n) ⟨v.d, v.f, n, v.a, t, v.t⟩ rfl
        have hsF := hsE.set 4 (.int .i64 t) ⟨v.d, v.f, n, t, t, v.t⟩ rfl
        have hKE : Ks n₀ s WD (WD.setCell ⟨s, 3, none⟩ (.int .i64 n)) := Ks.set hsD 3 _
        have hKF : Ks n₀ s WD ((WD.setCell ⟨s, 3, none⟩ (.int .i64 n)).setCell ⟨s, 4, none⟩ (.int .i64 t)) := hKE.trans (Ks.set hsE 4 _)
        have hqF : ∃ G' c' Q', Nu n₀ ((WD.setCell ⟨s, 3, none⟩ (.int .i64 n)).setCell ⟨s, 4, none⟩ (.int .i64 t)) M G' c' Q' ∧ J Q' := by
          obtain ⟨G', c', Q', q1, q2⟩ := HQ.out
          exact ⟨G', c', Q', (q1.store hsD 3 _).store hsE 4 _, q2⟩
        have d1 := hKF.cells b1 ne1 nut23
        have d2 := hKF.cells b2 ne2 nut3
        have d3 := hKF.cells b3 ne3 nut4
        cases el with
        | false =>
          have HP : Aside (TakeQ n₀ s M G c v Q J n t false w (.returned (.tuple #[.bool true, .int .i64 0])) ((WD.setCell ⟨s, 3, none⟩ (.int .i64 n)).setCell ⟨s, 4, none⟩ (.int .i64 t))) :=
            .inr ⟨rfl, by omega, HIN.out, hqF, Ks.trans HKD.out hKF, by simpa [hgn] using hsF⟩
          clear hsE hsF hKE hKF hqF d1 d2 d3 b1 b2 b3 HKD HQ
          go_wp2
          go_ret2
          exact HP.out
        | true =>
          obtain ⟨D, hD⟩ : ∃ D, dueAt v n t = D := ⟨_, rfl⟩
          have hd : Calls Try.prog 36 #[.pointer (some ⟨B1, 0, none⟩), .pointer (some ⟨B1 + 1, 0, none⟩), .pointer (some ⟨B1 + 2, 0, none⟩)] ((WD.setCell ⟨s, 3, none⟩ (.int .i64 n)).setCell ⟨s, 4, none⟩ (.int .i64 t)) fun e w' => e = .returned (.int .i64 D) ∧ Below ((WD.setCell ⟨s, 3, none⟩ (.int .i64 n)).setCell ⟨s, 4, none⟩ (.int .i64 t)).heap.size ((WD.setCell ⟨s, 3, none⟩ (.int .i64 n)).setCell ⟨s, 4, none⟩ (.int .i64 t)) w' := by
            rw [← hD]
            exact due1_c s M B1 (B1 + 1) (B1 + 2) ⟨v.d, v.f, n, t, t, v.t⟩ t _ _ hsF d1 d2 d3 hd0 hd1 h2 h3
          have HSF : Aside _ := hsF
          have HQF : Aside _ := hqF
          have HKF : Aside _ := Ks.trans HKD.out hKF
          have HD : Aside _ := hD
          clear hsE hsF hKE hKF hqF d1 d2 d3 b1 b2 b3 HKD HQ hD
          go_wp2_with (go_at_fn 36; refine hd.mono ?_; rintro e WE ⟨rfl, hbe⟩; have hsW := Sc.below HSF.out hbe; have q6 := hsW.cells.2.2.2.2.2.2; have qf := hsW.frozen 6; dsimp only at q6; have HSW : Aside _ := hsW; have HBE : Aside _ := hbe; clear hsW hbe hd)
          go_ret2
          refine .inr ⟨rfl, by omega, HIN.out, ?_, Ks.trans (Ks.trans HKF.out (Ks.below HBE.out)) (Ks.set HSW.out 6 _), ?_⟩
          · obtain ⟨G', c', Q', q1, q2⟩ := HQF.out
            exact ⟨G', c', Q', (q1.below HBE.out).store HSW.out 6 _, q2⟩
          · simp only [hgn, if_true, HD.out]
            exact Sc.set HSW.out 6 _ _ rfl
      · have hqD := HQ.out
        have HG : Aside _ := hgn
        cases el with
        | false =>
          have HP : Aside (TakeQ n₀ s M G c v Q J n t false w (.returned (.tuple #[.bool true, .int .i64 0])) WD) :=
            .inr ⟨rfl, by omega, HIN.out, hqD, HKD.out, by simpa [hgn] using hsD⟩
          clear hsD b1 b2 b3 HKD HQ hqD
          go_wp2
          go_ret2
          exact HP.out
        | true =>
          obtain ⟨D, hD⟩ : ∃ D, dueAt v n t = D := ⟨_, rfl⟩
          have hd : Calls Try.prog 36 #[.pointer (some ⟨B1, 0, none⟩), .pointer (some ⟨B1 + 1, 0, none⟩), .pointer (some ⟨B1 + 2, 0, none⟩)] WD fun e w' => e = .returned (.int .i64 D) ∧ Below WD.heap.size WD w' := by
            rw [← hD]
            exact due1_c s M B1 (B1 + 1) (B1 + 2) ⟨v.d, v.f, v.g, v.a, t, v.t⟩ t _ _ hsD b1 b2 b3 hd0 hd1 h2 h3
          have HSF : Aside _ := hsD
          have HD : Aside _ := hD
          clear hsD b1 b2 b3 hD hqD
          go_wp2_with (go_at_fn 36; refine hd.mono ?_; rintro e WE ⟨rfl, hbe⟩; have hsW := Sc.below HSF.out hbe; have q6 := hsW.cells.2.2.2.2.2.2; have qf := hsW.frozen 6; dsimp only at q6; have HSW : Aside _ := hsW; have HBE : Aside _ := hbe; clear hsW hbe hd)
          go_ret2
          refine .inr ⟨rfl, by omega, HIN.out, ?_, Ks.trans (Ks.trans HKD.out (Ks.below HBE.out)) (Ks.set HSW.out 6 _), ?_⟩
          · obtain ⟨G', c', Q', q1, q2⟩ := HQ.out
            exact ⟨G', c', Q', (q1.below HBE.out).store HSW.out 6 _, q2⟩
          · rw [if_neg HG.out, if_neg HG.out, if_pos rfl, HD.out]
            exact Sc.set HSW.out 6 _ _ rfl
end Go.Proofs.YtlobnlkpbenngaaR
