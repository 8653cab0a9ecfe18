/- ecn: Acked. -/
import Derived.Test.YthfloemckhbljaaAk
import Derived.Deep.CutBlock
import Derived.Deep.MidRow
namespace Go.Proofs.Ythfloemckhbljaa
open Go.RowKit
set_option linter.unusedVariables false

/-- Acked. -/
def Ev.ack (v : Ev) (m a b c : Int) (y : Bool) : Bool × Int × Ev :=
  if ¬ (v.way m ∧ cnts a b c) then (false, 2, v)
  else if v.s = 3 ∨ (m = 0 ∧ y = false) then (false, 0, { v with h := v.h + m })
  else if y = false ∨ v.wrg m a b c then (false, 0, { v with h := v.h + m, s := 3 })
  else (decide (v.c < c), 0, { v with h := v.h + m, s := if 0 < m then 4 else v.s, a := a, b := b, c := c })
theorem Ev.ack_ok (v : Ev) (m a b c : Int) (y : Bool) (h : v.ok) : (v.ack m a b c y).2.2.ok := by
  unfold Ev.ack
  split
  · exact h
  · rename_i hw
    have hw' : v.way m ∧ cnts a b c := Decidable.byContradiction hw
    obtain ⟨⟨w0, w1⟩, ⟨a0, a1⟩, ⟨b0, b1⟩, ⟨c0, c1⟩⟩ := hw'
    obtain ⟨h1, h2, h3, h4, h5, h6, h7, h8, h9, h10, h11, h12⟩ := h
    split
    · constructor <;> simp only <;> omega
    · split
      · constructor <;> simp only <;> omega
      · rename_i hx
        have hb : b = 0 := by
          have : ¬ v.wrg m a b c := fun h => hx (.inr h)
          unfold Ev.wrg at this
          omega
        by_cases hm : 0 < m
        · simp only [hm, if_true]
          constructor <;> simp only <;> omega
        · simp only [hm, if_false]
          constructor <;> simp only <;> omega
theorem Ev.ack_n (v : Ev) (m a b c : Int) (y : Bool) : (v.ack m a b c y).2.2.n = v.n := by
  unfold Ev.ack
  split
  · rfl
  · split
    · rfl
    · split <;> rfl
theorem Rt.cell3 {T : Nat} {w : World} {b : Nat} {v : Ev} (h : Rt T w b v) (x y z : Int) : Rt T (((w.setCell ⟨b, 4, none⟩ (.int .i64 x)).setCell ⟨b, 5, none⟩ (.int .i64 y)).setCell ⟨b, 6, none⟩ (.int .i64 z)) b { v with a := x, b := y, c := z } ∧ Tn b w (((w.setCell ⟨b, 4, none⟩ (.int .i64 x)).setCell ⟨b, 5, none⟩ (.int .i64 y)).setCell ⟨b, 6, none⟩ (.int .i64 z)) := by
  have h1 := h.set 4 (.int .i64 x) { v with a := x } rfl
  have h2 := h1.set 5 (.int .i64 y) { v with a := x, b := y } rfl
  have h3 := h2.set 6 (.int .i64 z) { v with a := x, b := y, c := z } rfl
  exact ⟨h3, (Tn.set h 4 _).trans ((Tn.set h1 5 _).trans (Tn.set h2 6 _))⟩
theorem mkHid {p : Prop} (h : p) : Hid p := h
theorem one3 (a b c : Int) : (#[Value.int .i64 a, .int .i64 b, .int .i64 c] : Array Value).all (·.oneCell') = true := by simp [Value.oneCell']
theorem m28 : (Try.prog.info? 28).map (·.size) = some 3 := by kernel_rfl
theorem Rt.there3 {T : Nat} {w : World} {b : Nat} {v : Ev} (h : Rt T w b v) : w.there b 4 3 := by
  obtain ⟨c0, c1, c2, c3, c4, c5, c6⟩ := h.cells
  intro j hj
  refine ⟨?_, h.frozen _⟩
  match j, hj with
  | 0, _ => rw [c4]; rfl
  | 1, _ => rw [c5]; rfl
  | 2, _ => rw [c6]; rfl
/-- What Acked leaves. -/
def AkP (w : World) (p : Nat) (r : Bool × Int × Ev) (e : Ending) (w' : World) : Prop := e = .returned (.tuple #[.bool r.1, .int .i64 r.2.1]) ∧ Rt 43 w' p r.2.2 ∧ Tn p w w'
set_option maxRecDepth 100000 in
set_option maxHeartbeats 1000000 in
theorem acked_c (p : Nat) (v : Ev) (m a b c : Int) (y : Bool) (w : World) (h : Rt 43 w p v) (ho : v.ok) : Calls Try.prog 15 #[.pointer (some ⟨p, 0, none⟩), .int .i64 m, .agg #[.int .i64 a, .int .i64 b, .int .i64 c], .bool y] w (AkP w p (v.ack m a b c y)) := by
  obtain ⟨W, hW⟩ : ∃ W, w.alloc (.cells #[.int .i64 a, .int .i64 b, .int .i64 c] 28) = W := ⟨_, rfl⟩
  have hB' : Below w.heap.size w W := by rw [← hW]; exact bel1 _ _
  have HR : Aside (Rt 43 W p v) := h.below hB'
  have HT : Aside (Tn p w W) := Tn.below hB'
  have hlt := h.lt
  have q0 : W.heap[w.heap.size]? = some (.cells #[.int .i64 a, .int .i64 b, .int .i64 c] 28 (0, 0)) := by rw [← hW]; exact heap_alloc_new _ _
  have HO : Aside v.ok := ho
  have h1 := none_c p v W HR.out ho
  have h2 := onWay_c p v m W HR.out ho
  clear h hB' ho
  obtain ⟨A, hA⟩ : ∃ A, w.heap.size = A := ⟨_, rfl⟩
  rw [hA] at q0
  have HP : Aside (∀ r e w', r = v.ack m a b c y → e = .returned (.tuple #[.bool r.1, .int .i64 r.2.1]) → Rt 43 w' p r.2.2 → Tn p w w' → AkP w p (v.ack m a b c y) e w') := by
    rintro r e w' rfl he hr ht
    exact ⟨he, hr, ht⟩
  obtain ⟨RR, hRR⟩ : ∃ RR, AkP w p (v.ack m a b c y) = RR := ⟨_, rfl⟩
  rw [hRR] at HP ⊢
  clear hRR
  by_cases hw : v.way m
  rotate_left
  · rw [show decide (v.way m) = false from decide_eq_false hw] at h2
    have HX : Aside ((false, (2 : Int), v) = v.ack m a b c y) := by show _ = _; unfold Ev.ack; rw [if_pos (fun h => hw h.1)]
    clear hw q0
    go_enter Try.func15, Try.ntmps15
    go_wp2_with fail
    refine h1.mono ?_
    rintro e w1 ⟨rfl, hw1⟩
    subst w1
    go_wp2_with fail
    refine h2.mono ?_
    rintro e w1 ⟨rfl, hb⟩
    have HY : Aside (RR (.returned (.tuple #[.bool false, .int .i64 2])) w1) := HP.out (false, 2, v) _ _ HX.out rfl (HR.out.below hb) (HT.out.trans (Tn.below hb))
    clear hb
    go_wp2
    exact HY.out
  rw [show decide (v.way m) = true from decide_eq_true hw] at h2
  have HW : Aside (v.way m) := hw
  clear hw
  by_cases hc : cnts a b c
  rotate_left
  · have HX : Aside ((false, (2 : Int), v) = v.ack m a b c y) := by show _ = _; unfold Ev.ack; rw [if_pos (fun h => hc h.2)]
    have HC : Aside (∀ X, Calls Try.prog 20 #[.agg #[.int .i64 a, .int .i64 b, .int .i64 c]] X fun e w' => e = .returned (.bool false) ∧ Below X.heap.size X w') := fun X => by
      have := counts_c a b c X
      rwa [show decide (cnts a b c) = false from decide_eq_false hc] at this
    clear hc
    go_enter Try.func15, Try.ntmps15
    go_wp2_with fail
    refine h1.mono ?_
    rintro e w1 ⟨rfl, hw1⟩
    subst w1
    go_wp2_with fail
    refine h2.mono ?_
    rintro e w1 ⟨rfl, hb⟩
    have r0 : w1.cell? ⟨A, 0, none⟩ = some (.int .i64 a) := by
      have h' := (hb.block A (Array.getElem?_eq_some_iff.1 q0).1).trans q0
      simp [World.cell?, h']
    have r1 : w1.cell? ⟨A, 1, none⟩ = some (.int .i64 b) := by
      have h' := (hb.block A (Array.getElem?_eq_some_iff.1 q0).1).trans q0
      simp [World.cell?, h']
    have r2 : w1.cell? ⟨A, 2, none⟩ = some (.int .i64 c) := by
      have h' := (hb.block A (Array.getElem?_eq_some_iff.1 q0).1).trans q0
      simp [World.cell?, h']
    have h3 := HC.out w1
    have HY : Aside (∀ X, Below w1.heap.size w1 X → RR (.returned (.tuple #[.bool false, .int .i64 2])) X) := fun X hX => HP.out (false, 2, v) _ _ HX.out rfl ((HR.out.below hb).below hX) (HT.out.trans ((Tn.below hb).trans (Tn.below hX)))
    clear hb q0 h2
    go_wp2_with fail
    refine h3.mono ?_
    rintro e w2 ⟨rfl, hb⟩
    have HZ : Aside (RR (.returned (.tuple #[.bool false, .int .i64 2])) w2) := HY.out _ hb
    clear hb h3
    go_wp2
    exact HZ.out
  have hX : v.ack m a b c y = (if v.s = 3 ∨ (m = 0 ∧ y = false) then (false, 0, { v with h := v.h + m }) else if y = false ∨ v.wrg m a b c then (false, 0, { v with h := v.h + m, s := 3 }) else (decide (v.c < c), 0, { v with h := v.h + m, s := if 0 < m then 4 else v.s, a := a, b := b, c := c })) := by unfold Ev.ack; rw [if_neg (fun h => h ⟨HW.out, hc⟩)]
  have HX : Aside (v.ack m a b c y = (if v.s = 3 ∨ (m = 0 ∧ y = false) then (false, 0, { v with h := v.h + m }) else if y = false ∨ v.wrg m a b c then (false, 0, { v with h := v.h + m, s := 3 }) else (decide (v.c < c), 0, { v with h := v.h + m, s := if 0 < m then 4 else v.s, a := a, b := b, c := c }))) := hX
  clear hX
  have HC : Aside (∀ X, Calls Try.prog 20 #[.agg #[.int .i64 a, .int .i64 b, .int .i64 c]] X fun e w' => e = .returned (.bool true) ∧ Below X.heap.size X w') := fun X => by
    have := counts_c a b c X
    rwa [show decide (cnts a b c) = true from decide_eq_true hc] at this
  have HO2 : Aside (({ v with h := v.h + m } : Ev).ok) := by
    obtain ⟨w0, w1⟩ := HW.out
    obtain ⟨h1, h2, h3, h4, h5, h6, h7, h8, h9, h10, h11, h12⟩ := HO.out
    constructor <;> simp only <;> omega
  have HG : Aside (∀ X, Rt 43 X p { v with h := v.h + m } → Calls Try.prog 21 #[.pointer (some ⟨p, 0, none⟩), .int .i64 m, .agg #[.int .i64 a, .int .i64 b, .int .i64 c]] X fun e w' => e = .returned (.bool (decide (v.wrg m a b c))) ∧ Below X.heap.size X w') := fun X hX => wrong_c p { v with h := v.h + m } m a b c X hX HO2.out hc
  clear hc
  have i1 : IntKind.i64.wrap (v.h + m) = v.h + m := wrp _ (by have := HO.out.h0; have := HW.out.1; omega) (by have := HO.out.n1; have := HO.out.l0; have := HW.out.2; omega)
  generalize v.ack m a b c y = RA at *
  obtain ⟨s, n, l, hh, va, vb, vc⟩ := v
  dsimp only at *
  clear HW HO HO2
  go_enter Try.func15, Try.ntmps15
  go_wp2_with fail
  refine h1.mono ?_
  rintro e w1 ⟨rfl, hw1⟩
  subst w1
  go_wp2_with fail
  refine h2.mono ?_
  rintro e w1 ⟨rfl, hb⟩
  have q1 := (hb.block A (Array.getElem?_eq_some_iff.1 q0).1).trans q0
  have r0 : w1.cell? ⟨A, 0, none⟩ = some (.int .i64 a) := by simp [World.cell?, q1]
  have r1 : w1.cell? ⟨A, 1, none⟩ = some (.int .i64 b) := by simp [World.cell?, q1]
  have r2 : w1.cell? ⟨A, 2, none⟩ = some (.int .i64 c) := by simp [World.cell?, q1]
  have h3 := HC.out w1
  have HR1 : Aside (Rt 43 w1 p ⟨s, n, l, hh, va, vb, vc⟩) := HR.out.below hb
  have HT1 : Aside (Tn p w w1) := HT.out.trans (Tn.below hb)
  clear hb q0 h1 h2 HR HT HC hW W hlt
  go_wp2_with fail
  refine h3.mono ?_
  rintro e w2 ⟨rfl, hb⟩
  have q2 := (hb.block A (Array.getElem?_eq_some_iff.1 q1).1).trans q1
  have HR2 : Aside (Rt 43 w2 p ⟨s, n, l, hh, va, vb, vc⟩) := HR1.out.below hb
  have HT2 : Aside (Tn p w w2) := HT1.out.trans (Tn.below hb)
  clear hb q1 r0 r1 r2 HR1 HT1 h3
  have f3 := HR2.out.frozen 3
  obtain ⟨c0, c1, c2, c3, c4, c5, c6⟩ := HR2.out.cells
  dsimp only at c0 c1 c2 c3 c4 c5 c6
  obtain ⟨X, hX⟩ : ∃ X, w2.setCell ⟨p, 3, none⟩ (.int .i64 (hh + m)) = X := ⟨_, rfl⟩
  have HR3 : Aside (Rt 43 X p ⟨s, n, l, hh + m, va, vb, vc⟩) := by rw [← hX]; exact HR2.out.set 3 _ _ rfl
  have HT3 : Aside (Tn p w X) := by rw [← hX]; exact HT2.out.trans (Tn.set HR2.out 3 _)
  have HAp : Aside (A ≠ p) := by
    rintro rfl
    have := HR2.out
    unfold Rt at this
    rw [this] at q2
    simp at q2
  have q3 : X.heap[A]? = some (.cells #[.int .i64 a, .int .i64 b, .int .i64 c] 28 (0, 0)) := by rw [← hX]; exact ((Tn.set HR2.out 3 _).2.2.2.2 A (Array.getElem?_eq_some_iff.1 q2).1 HAp.out).trans q2
  go_upto_block 1 with fail
  clear hX c0 c1 c2 c3 c4 c5 c6 HR2 HT2 q2 f3
  have f0 := HR3.out.frozen 0
  obtain ⟨c0, c1, c2, c3, c4, c5, c6⟩ := HR3.out.cells
  dsimp only at c0 c1 c2 c3 c4 c5 c6
  have r0 : X.cell? ⟨A, 0, none⟩ = some (.int .i64 a) := by simp [World.cell?, q3]
  have r1 : X.cell? ⟨A, 1, none⟩ = some (.int .i64 b) := by simp [World.cell?, q3]
  have r2 : X.cell? ⟨A, 2, none⟩ = some (.int .i64 c) := by simp [World.cell?, q3]
  by_cases k3 : s = 3
  · have k3' : (s == 3) = true := by simpa using k3
    have HY : Aside (RR (.returned (.tuple #[.bool false, .int .i64 0])) X) := HP.out (false, 0, ⟨s, n, l, hh + m, va, vb, vc⟩) _ _ (by rw [HX.out, if_pos (.inl k3)]) rfl HR3.out HT3.out
    clear k3
    go_wp2
    exact HY.out
  have k3' : (s == 3) = false := by simpa using k3
  by_cases ky : y = false
  · subst ky
    by_cases km : m = 0
    · subst km
      have HY : Aside (RR (.returned (.tuple #[.bool false, .int .i64 0])) X) := HP.out (false, 0, ⟨s, n, l, hh + 0, va, vb, vc⟩) _ _ (by rw [HX.out, if_pos (.inr ⟨rfl, rfl⟩)]) rfl HR3.out HT3.out
      clear k3
      go_wp2
      exact HY.out
    · have km' : (m == 0) = false := by simpa using km
      have HY : Aside (RR (.returned (.tuple #[.bool false, .int .i64 0])) (X.setCell ⟨p, 0, none⟩ (.int .i64 3))) := HP.out (false, 0, ⟨3, n, l, hh + m, va, vb, vc⟩) _ _ (by rw [HX.out, if_neg (by rintro (h | ⟨h, -⟩); exact k3 h; exact km h), if_pos (.inl rfl)]) rfl (HR3.out.set 0 _ _ rfl) (HT3.out.trans (Tn.set HR3.out 0 _))
      clear k3
      go_wp2
      exact HY.out
  have ky' : y = true := by cases y; exact absurd rfl ky; rfl
  subst ky'
  clear ky
  have h4 := HG.out X HR3.out
  clear HG
  cases hbm : (m == 0)
  · skip
    by_cases kw : (Ev.mk s n l hh va vb vc).wrg m a b c
    · rw [show decide ((Ev.mk s n l hh va vb vc).wrg m a b c) = true from decide_eq_true kw] at h4
      have HX2 : Aside (RA = (false, 0, ⟨3, n, l, hh + m, va, vb, vc⟩)) := by show _ = _; rw [HX.out, if_neg (by rintro (h | ⟨-, h⟩); exact k3 h; cases h), if_pos (.inr kw)]
      clear kw k3
      go_wp2_with fail
      refine h4.mono ?_
      rintro e w3 ⟨rfl, hb⟩
      have HR4 : Aside (Rt 43 w3 p ⟨s, n, l, hh + m, va, vb, vc⟩) := HR3.out.below hb
      have f1 := HR4.out.frozen 0
      have HY : Aside (RR (.returned (.tuple #[.bool false, .int .i64 0])) (w3.setCell ⟨p, 0, none⟩ (.int .i64 3))) := HP.out (false, 0, ⟨3, n, l, hh + m, va, vb, vc⟩) _ _ HX2.out.symm rfl (HR4.out.set 0 _ _ rfl) (HT3.out.trans ((Tn.below hb).trans (Tn.set HR4.out 0 _)))
      obtain ⟨d0, d1, d2, d3, d4, d5, d6⟩ := HR4.out.cells
      dsimp only at d0 d1 d2 d3 d4 d5 d6
      clear hb c0 c1 c2 c3 c4 c5 c6 r0 r1 r2 f0 q3 h4
      go_wp2
      exact HY.out
    · rw [show decide ((Ev.mk s n l hh va vb vc).wrg m a b c) = false from decide_eq_false kw] at h4
      have HX2 : Aside (RA = (decide (vc < c), 0, ⟨if 0 < m then 4 else s, n, l, hh + m, a, b, c⟩)) := by show _ = _; rw [HX.out, if_neg (by rintro (h | ⟨-, h⟩); exact k3 h; cases h), if_neg (by rintro (h | h); cases h; exact kw h)]
      clear kw k3 HX
      go_wp2_with fail
      refine h4.mono ?_
      rintro e w3 ⟨rfl, hb⟩
      have HR4 : Aside (Rt 43 w3 p ⟨s, n, l, hh + m, va, vb, vc⟩) := HR3.out.below hb
      have HT4 : Aside (Tn p w w3) := HT3.out.trans (Tn.below hb)
      have q4 := (hb.block A (Array.getElem?_eq_some_iff.1 q3).1).trans q3
      clear hb c0 c1 c2 c3 c4 c5 c6 r0 r1 r2 f0 q3 h4 HR3 HT3
      have f1 := HR4.out.frozen 0
      obtain ⟨d0, d1, d2, d3, d4, d5, d6⟩ := HR4.out.cells
      dsimp only at d0 d1 d2 d3 d4 d5 d6
      by_cases km : 0 < m
      · skip
        have HX3 : Aside (RA = (decide (vc < c), 0, ⟨4, n, l, hh + m, a, b, c⟩)) := by show _ = _; rw [HX2.out, if_pos km]
        obtain ⟨Y, hY⟩ : ∃ Y, w3.setCell ⟨p, 0, none⟩ (.int .i64 4) = Y := ⟨_, rfl⟩
        have HR5 : Aside (Rt 43 Y p ⟨4, n, l, hh + m, va, vb, vc⟩) := by rw [← hY]; exact HR4.out.set 0 _ _ rfl
        have HT5 : Aside (Tn p w Y) := by rw [← hY]; exact HT4.out.trans (Tn.set HR4.out 0 _)
        have q5 : Y.heap[A]? = some (.cells #[.int .i64 a, .int .i64 b, .int .i64 c] 28 (0, 0)) := by rw [← hY]; exact ((Tn.set HR4.out 0 _).2.2.2.2 A (Array.getElem?_eq_some_iff.1 q4).1 HAp.out).trans q4
        clear HX2
        go_wp2_with fail
        clear hY q4 HR4 HT4 d0 d1 d2 d3 d4 d5 d6
        have HR6 : Aside (Rt 43 Y.drew p ⟨4, n, l, hh + m, va, vb, vc⟩) := HR5.out
        have HT6 : Aside (Tn p w Y.drew) := HT5.out
        obtain ⟨d0, d1, d2, d3, d4, d5, d6⟩ := HR6.out.cells
        dsimp only at d0 d1 d2 d3 d4 d5 d6
        have HTH : Aside (Y.drew.there p 4 3) := HR6.out.there3
        have r0 : Y.drew.cell? ⟨A, 0, none⟩ = some (.int .i64 a) := by show Y.cell? _ = _; simp [World.cell?, q5]
        have r1 : Y.drew.cell? ⟨A, 1, none⟩ = some (.int .i64 b) := by show Y.cell? _ = _; simp [World.cell?, q5]
        have r2 : Y.drew.cell? ⟨A, 2, none⟩ = some (.int .i64 c) := by show Y.cell? _ = _; simp [World.cell?, q5]
        have HF : Aside (RR (.returned (.tuple #[.bool (decide (vc < c)), .int .i64 0])) (((Y.drew.setCell ⟨p, 4, none⟩ (.int .i64 a)).setCell ⟨p, 5, none⟩ (.int .i64 b)).setCell ⟨p, 6, none⟩ (.int .i64 c))) := HP.out (decide (vc < c), 0, ⟨4, n, l, hh + m, a, b, c⟩) _ _ HX3.out.symm rfl (HR6.out.cell3 a b c).1 (HT6.out.trans (HR6.out.cell3 a b c).2)
        clear HR6 HT6 q5 HP HX3
        refine wp_region_held_drew (S := fun X => X.cell? ⟨A, 2, none⟩ = some (.int .i64 c) ∧ X.cell? ⟨p, 6, none⟩ = some (.int .i64 vc)) (by kernel_rfl) ⟨r2, d6⟩ (fun hHeld => ?_)
        refine wpAnyH_take (i := 0) (v := .pointer (some ⟨A, 2, none⟩)) rfl (by kernel_rfl) (by kernel_rfl) (by kernel_rfl) (fun _ _ _ h => h) (Or.inl ⟨by rfl, by intro w hs; go_simp⟩) hHeld ?_
        refine norm_any' (fun K hK => ?_)
        go_simp
        refine hK _ _ ?_
        clear hK K
        refine wpAnyH_take (i := 1) (v := .int .i64 c) rfl (by kernel_rfl) (by kernel_rfl) (by kernel_rfl) (fun _ _ _ h => h) (Or.inl ⟨by rfl, by rintro w ⟨s0, s1⟩; go_simp⟩) hHeld ?_
        refine norm_any' (fun K hK => ?_)
        go_simp
        refine hK _ _ ?_
        clear hK K
        refine wpAnyH_take (i := 2) (v := .pointer (some ⟨p, 0, none⟩)) rfl (by kernel_rfl) (by kernel_rfl) (by kernel_rfl) (fun _ _ _ h => h) (Or.inl ⟨by rfl, by intro w hs; go_simp⟩) hHeld ?_
        refine norm_any' (fun K hK => ?_)
        go_simp
        refine hK _ _ ?_
        clear hK K
        refine wpAnyH_take (i := 3) (v := .pointer (some ⟨p, 0, none⟩)) rfl (by kernel_rfl) (by kernel_rfl) (by kernel_rfl) (fun _ _ _ h => h) (Or.inl ⟨by rfl, by intro w hs; go_simp⟩) hHeld ?_
        refine norm_any' (fun K hK => ?_)
        go_simp
        refine hK _ _ ?_
        clear hK K
        refine wpAnyH_take (i := 4) (v := .pointer (some ⟨p, 4, none⟩)) rfl (by kernel_rfl) (by kernel_rfl) (by kernel_rfl) (fun _ _ _ h => h) (Or.inl ⟨by rfl, by intro w hs; go_simp⟩) hHeld ?_
        refine norm_any' (fun K hK => ?_)
        go_simp
        refine hK _ _ ?_
        clear hK K
        refine wpAnyH_take (i := 5) (v := .pointer (some ⟨p, 6, none⟩)) rfl (by kernel_rfl) (by kernel_rfl) (by kernel_rfl) (fun _ _ _ h => h) (Or.inl ⟨by rfl, by intro w hs; go_simp⟩) hHeld ?_
        refine norm_any' (fun K hK => ?_)
        go_simp
        refine hK _ _ ?_
        clear hK K
        refine wpAnyH_take (i := 6) (v := .int .i64 vc) rfl (by kernel_rfl) (by kernel_rfl) (by kernel_rfl) (fun _ _ _ h => h) (Or.inl ⟨by rfl, by rintro w ⟨s0, s1⟩; go_simp⟩) hHeld ?_
        refine norm_any' (fun K hK => ?_)
        go_simp
        refine hK _ _ ?_
        clear hK K
        refine wpAnyH_take (i := 7) (v := .bool (decide (vc < c))) rfl (by kernel_rfl) (by kernel_rfl) (by kernel_rfl) (fun _ _ _ h => h) (Or.inl ⟨by rfl, by intro w hs; go_simp⟩) hHeld ?_
        refine norm_any' (fun K hK => ?_)
        go_simp
        refine hK _ _ ?_
        clear hK K
        refine wpAnyH_take (i := 8) (v := .bool (decide (vc < c))) rfl (by kernel_rfl) (by kernel_rfl) (by kernel_rfl) (fun _ _ _ h => h) (Or.inl ⟨by rfl, by intro w hs; go_simp⟩) hHeld ?_
        refine norm_any' (fun K hK => ?_)
        go_simp
        refine hK _ _ ?_
        clear hK K
        refine wpAnyH_done (by kernel_rfl) ?_ _
        clear hHeld
        go_wp2_with (refine wpList_store_mid rfl 28 (.tmp 73) (.tmp 71) rfl p 4 #[.int .i64 a, .int .i64 b, .int .i64 c] rfl rfl HTH.out m28 (one3 a b c) (Hid.out ?_))
        refine mkHid ?_
        go_wp2
        exact HF.out
      · skip
        have HX3 : Aside (RA = (decide (vc < c), 0, ⟨s, n, l, hh + m, a, b, c⟩)) := by show _ = _; rw [HX2.out, if_neg km]
        clear HX2
        go_wp2_with fail
        clear d0 d1 d2 d3 d4 d5 d6
        have HR6 : Aside (Rt 43 w3.drew p ⟨s, n, l, hh + m, va, vb, vc⟩) := HR4.out
        have HT6 : Aside (Tn p w w3.drew) := HT4.out
        obtain ⟨d0, d1, d2, d3, d4, d5, d6⟩ := HR6.out.cells
        dsimp only at d0 d1 d2 d3 d4 d5 d6
        have HTH : Aside (w3.drew.there p 4 3) := HR6.out.there3
        have r0 : w3.drew.cell? ⟨A, 0, none⟩ = some (.int .i64 a) := by show w3.cell? _ = _; simp [World.cell?, q4]
        have r1 : w3.drew.cell? ⟨A, 1, none⟩ = some (.int .i64 b) := by show w3.cell? _ = _; simp [World.cell?, q4]
        have r2 : w3.drew.cell? ⟨A, 2, none⟩ = some (.int .i64 c) := by show w3.cell? _ = _; simp [World.cell?, q4]
        have HF : Aside (RR (.returned (.tuple #[.bool (decide (vc < c)), .int .i64 0])) (((w3.drew.setCell ⟨p, 4, none⟩ (.int .i64 a)).setCell ⟨p, 5, none⟩ (.int .i64 b)).setCell ⟨p, 6, none⟩ (.int .i64 c))) := HP.out (decide (vc < c), 0, ⟨s, n, l, hh + m, a, b, c⟩) _ _ HX3.out.symm rfl (HR6.out.cell3 a b c).1 (HT6.out.trans (HR6.out.cell3 a b c).2)
        clear HR6 HT6 q4 HP HX3
        refine wp_region_held_drew (S := fun X => X.cell? ⟨A, 2, none⟩ = some (.int .i64 c) ∧ X.cell? ⟨p, 6, none⟩ = some (.int .i64 vc)) (by kernel_rfl) ⟨r2, d6⟩ (fun hHeld => ?_)
        refine wpAnyH_take (i := 0) (v := .pointer (some ⟨A, 2, none⟩)) rfl (by kernel_rfl) (by kernel_rfl) (by kernel_rfl) (fun _ _ _ h => h) (Or.inl ⟨by rfl, by intro w hs; go_simp⟩) hHeld ?_
        refine norm_any' (fun K hK => ?_)
        go_simp
        refine hK _ _ ?_
        clear hK K
        refine wpAnyH_take (i := 1) (v := .int .i64 c) rfl (by kernel_rfl) (by kernel_rfl) (by kernel_rfl) (fun _ _ _ h => h) (Or.inl ⟨by rfl, by rintro w ⟨s0, s1⟩; go_simp⟩) hHeld ?_
        refine norm_any' (fun K hK => ?_)
        go_simp
        refine hK _ _ ?_
        clear hK K
        refine wpAnyH_take (i := 2) (v := .pointer (some ⟨p, 0, none⟩)) rfl (by kernel_rfl) (by kernel_rfl) (by kernel_rfl) (fun _ _ _ h => h) (Or.inl ⟨by rfl, by intro w hs; go_simp⟩) hHeld ?_
        refine norm_any' (fun K hK => ?_)
        go_simp
        refine hK _ _ ?_
        clear hK K
        refine wpAnyH_take (i := 3) (v := .pointer (some ⟨p, 0, none⟩)) rfl (by kernel_rfl) (by kernel_rfl) (by kernel_rfl) (fun _ _ _ h => h) (Or.inl ⟨by rfl, by intro w hs; go_simp⟩) hHeld ?_
        refine norm_any' (fun K hK => ?_)
        go_simp
        refine hK _ _ ?_
        clear hK K
        refine wpAnyH_take (i := 4) (v := .pointer (some ⟨p, 4, none⟩)) rfl (by kernel_rfl) (by kernel_rfl) (by kernel_rfl) (fun _ _ _ h => h) (Or.inl ⟨by rfl, by intro w hs; go_simp⟩) hHeld ?_
        refine norm_any' (fun K hK => ?_)
        go_simp
        refine hK _ _ ?_
        clear hK K
        refine wpAnyH_take (i := 5) (v := .pointer (some ⟨p, 6, none⟩)) rfl (by kernel_rfl) (by kernel_rfl) (by kernel_rfl) (fun _ _ _ h => h) (Or.inl ⟨by rfl, by intro w hs; go_simp⟩) hHeld ?_
        refine norm_any' (fun K hK => ?_)
        go_simp
        refine hK _ _ ?_
        clear hK K
        refine wpAnyH_take (i := 6) (v := .int .i64 vc) rfl (by kernel_rfl) (by kernel_rfl) (by kernel_rfl) (fun _ _ _ h => h) (Or.inl ⟨by rfl, by rintro w ⟨s0, s1⟩; go_simp⟩) hHeld ?_
        refine norm_any' (fun K hK => ?_)
        go_simp
        refine hK _ _ ?_
        clear hK K
        refine wpAnyH_take (i := 7) (v := .bool (decide (vc < c))) rfl (by kernel_rfl) (by kernel_rfl) (by kernel_rfl) (fun _ _ _ h => h) (Or.inl ⟨by rfl, by intro w hs; go_simp⟩) hHeld ?_
        refine norm_any' (fun K hK => ?_)
        go_simp
        refine hK _ _ ?_
        clear hK K
        refine wpAnyH_take (i := 8) (v := .bool (decide (vc < c))) rfl (by kernel_rfl) (by kernel_rfl) (by kernel_rfl) (fun _ _ _ h => h) (Or.inl ⟨by rfl, by intro w hs; go_simp⟩) hHeld ?_
        refine norm_any' (fun K hK => ?_)
        go_simp
        refine hK _ _ ?_
        clear hK K
        refine wpAnyH_done (by kernel_rfl) ?_ _
        clear hHeld
        go_wp2_with (refine wpList_store_mid rfl 28 (.tmp 73) (.tmp 71) rfl p 4 #[.int .i64 a, .int .i64 b, .int .i64 c] rfl rfl HTH.out m28 (one3 a b c) (Hid.out ?_))
        refine mkHid ?_
        go_wp2
        exact HF.out
  · skip
    by_cases kw : (Ev.mk s n l hh va vb vc).wrg m a b c
    · rw [show decide ((Ev.mk s n l hh va vb vc).wrg m a b c) = true from decide_eq_true kw] at h4
      have HX2 : Aside (RA = (false, 0, ⟨3, n, l, hh + m, va, vb, vc⟩)) := by show _ = _; rw [HX.out, if_neg (by rintro (h | ⟨-, h⟩); exact k3 h; cases h), if_pos (.inr kw)]
      clear kw k3
      go_wp2_with fail
      refine h4.mono ?_
      rintro e w3 ⟨rfl, hb⟩
      have HR4 : Aside (Rt 43 w3 p ⟨s, n, l, hh + m, va, vb, vc⟩) := HR3.out.below hb
      have f1 := HR4.out.frozen 0
      have HY : Aside (RR (.returned (.tuple #[.bool false, .int .i64 0])) (w3.setCell ⟨p, 0, none⟩ (.int .i64 3))) := HP.out (false, 0, ⟨3, n, l, hh + m, va, vb, vc⟩) _ _ HX2.out.symm rfl (HR4.out.set 0 _ _ rfl) (HT3.out.trans ((Tn.below hb).trans (Tn.set HR4.out 0 _)))
      obtain ⟨d0, d1, d2, d3, d4, d5, d6⟩ := HR4.out.cells
      dsimp only at d0 d1 d2 d3 d4 d5 d6
      clear hb c0 c1 c2 c3 c4 c5 c6 r0 r1 r2 f0 q3 h4
      go_wp2
      exact HY.out
    · rw [show decide ((Ev.mk s n l hh va vb vc).wrg m a b c) = false from decide_eq_false kw] at h4
      have HX2 : Aside (RA = (decide (vc < c), 0, ⟨if 0 < m then 4 else s, n, l, hh + m, a, b, c⟩)) := by show _ = _; rw [HX.out, if_neg (by rintro (h | ⟨-, h⟩); exact k3 h; cases h), if_neg (by rintro (h | h); cases h; exact kw h)]
      clear kw k3 HX
      go_wp2_with fail
      refine h4.mono ?_
      rintro e w3 ⟨rfl, hb⟩
      have HR4 : Aside (Rt 43 w3 p ⟨s, n, l, hh + m, va, vb, vc⟩) := HR3.out.below hb
      have HT4 : Aside (Tn p w w3) := HT3.out.trans (Tn.below hb)
      have q4 := (hb.block A (Array.getElem?_eq_some_iff.1 q3).1).trans q3
      clear hb c0 c1 c2 c3 c4 c5 c6 r0 r1 r2 f0 q3 h4 HR3 HT3
      have f1 := HR4.out.frozen 0
      obtain ⟨d0, d1, d2, d3, d4, d5, d6⟩ := HR4.out.cells
      dsimp only at d0 d1 d2 d3 d4 d5 d6
      by_cases km : 0 < m
      · skip
        have HX3 : Aside (RA = (decide (vc < c), 0, ⟨4, n, l, hh + m, a, b, c⟩)) := by show _ = _; rw [HX2.out, if_pos km]
        obtain ⟨Y, hY⟩ : ∃ Y, w3.setCell ⟨p, 0, none⟩ (.int .i64 4) = Y := ⟨_, rfl⟩
        have HR5 : Aside (Rt 43 Y p ⟨4, n, l, hh + m, va, vb, vc⟩) := by rw [← hY]; exact HR4.out.set 0 _ _ rfl
        have HT5 : Aside (Tn p w Y) := by rw [← hY]; exact HT4.out.trans (Tn.set HR4.out 0 _)
        have q5 : Y.heap[A]? = some (.cells #[.int .i64 a, .int .i64 b, .int .i64 c] 28 (0, 0)) := by rw [← hY]; exact ((Tn.set HR4.out 0 _).2.2.2.2 A (Array.getElem?_eq_some_iff.1 q4).1 HAp.out).trans q4
        clear HX2
        go_wp2_with fail
        clear hY q4 HR4 HT4 d0 d1 d2 d3 d4 d5 d6
        have HR6 : Aside (Rt 43 Y.drew p ⟨4, n, l, hh + m, va, vb, vc⟩) := HR5.out
        have HT6 : Aside (Tn p w Y.drew) := HT5.out
        obtain ⟨d0, d1, d2, d3, d4, d5, d6⟩ := HR6.out.cells
        dsimp only at d0 d1 d2 d3 d4 d5 d6
        have HTH : Aside (Y.drew.there p 4 3) := HR6.out.there3
        have r0 : Y.drew.cell? ⟨A, 0, none⟩ = some (.int .i64 a) := by show Y.cell? _ = _; simp [World.cell?, q5]
        have r1 : Y.drew.cell? ⟨A, 1, none⟩ = some (.int .i64 b) := by show Y.cell? _ = _; simp [World.cell?, q5]
        have r2 : Y.drew.cell? ⟨A, 2, none⟩ = some (.int .i64 c) := by show Y.cell? _ = _; simp [World.cell?, q5]
        have HF : Aside (RR (.returned (.tuple #[.bool (decide (vc < c)), .int .i64 0])) (((Y.drew.setCell ⟨p, 4, none⟩ (.int .i64 a)).setCell ⟨p, 5, none⟩ (.int .i64 b)).setCell ⟨p, 6, none⟩ (.int .i64 c))) := HP.out (decide (vc < c), 0, ⟨4, n, l, hh + m, a, b, c⟩) _ _ HX3.out.symm rfl (HR6.out.cell3 a b c).1 (HT6.out.trans (HR6.out.cell3 a b c).2)
        clear HR6 HT6 q5 HP HX3
        refine wp_region_held_drew (S := fun X => X.cell? ⟨A, 2, none⟩ = some (.int .i64 c) ∧ X.cell? ⟨p, 6, none⟩ = some (.int .i64 vc)) (by kernel_rfl) ⟨r2, d6⟩ (fun hHeld => ?_)
        refine wpAnyH_take (i := 0) (v := .pointer (some ⟨A, 2, none⟩)) rfl (by kernel_rfl) (by kernel_rfl) (by kernel_rfl) (fun _ _ _ h => h) (Or.inl ⟨by rfl, by intro w hs; go_simp⟩) hHeld ?_
        refine norm_any' (fun K hK => ?_)
        go_simp
        refine hK _ _ ?_
        clear hK K
        refine wpAnyH_take (i := 1) (v := .int .i64 c) rfl (by kernel_rfl) (by kernel_rfl) (by kernel_rfl) (fun _ _ _ h => h) (Or.inl ⟨by rfl, by rintro w ⟨s0, s1⟩; go_simp⟩) hHeld ?_
        refine norm_any' (fun K hK => ?_)
        go_simp
        refine hK _ _ ?_
        clear hK K
        refine wpAnyH_take (i := 2) (v := .pointer (some ⟨p, 0, none⟩)) rfl (by kernel_rfl) (by kernel_rfl) (by kernel_rfl) (fun _ _ _ h => h) (Or.inl ⟨by rfl, by intro w hs; go_simp⟩) hHeld ?_
        refine norm_any' (fun K hK => ?_)
        go_simp
        refine hK _ _ ?_
        clear hK K
        refine wpAnyH_take (i := 3) (v := .pointer (some ⟨p, 0, none⟩)) rfl (by kernel_rfl) (by kernel_rfl) (by kernel_rfl) (fun _ _ _ h => h) (Or.inl ⟨by rfl, by intro w hs; go_simp⟩) hHeld ?_
        refine norm_any' (fun K hK => ?_)
        go_simp
        refine hK _ _ ?_
        clear hK K
        refine wpAnyH_take (i := 4) (v := .pointer (some ⟨p, 4, none⟩)) rfl (by kernel_rfl) (by kernel_rfl) (by kernel_rfl) (fun _ _ _ h => h) (Or.inl ⟨by rfl, by intro w hs; go_simp⟩) hHeld ?_
        refine norm_any' (fun K hK => ?_)
        go_simp
        refine hK _ _ ?_
        clear hK K
        refine wpAnyH_take (i := 5) (v := .pointer (some ⟨p, 6, none⟩)) rfl (by kernel_rfl) (by kernel_rfl) (by kernel_rfl) (fun _ _ _ h => h) (Or.inl ⟨by rfl, by intro w hs; go_simp⟩) hHeld ?_
        refine norm_any' (fun K hK => ?_)
        go_simp
        refine hK _ _ ?_
        clear hK K
        refine wpAnyH_take (i := 6) (v := .int .i64 vc) rfl (by kernel_rfl) (by kernel_rfl) (by kernel_rfl) (fun _ _ _ h => h) (Or.inl ⟨by rfl, by rintro w ⟨s0, s1⟩; go_simp⟩) hHeld ?_
        refine norm_any' (fun K hK => ?_)
        go_simp
        refine hK _ _ ?_
        clear hK K
        refine wpAnyH_take (i := 7) (v := .bool (decide (vc < c))) rfl (by kernel_rfl) (by kernel_rfl) (by kernel_rfl) (fun _ _ _ h => h) (Or.inl ⟨by rfl, by intro w hs; go_simp⟩) hHeld ?_
        refine norm_any' (fun K hK => ?_)
        go_simp
        refine hK _ _ ?_
        clear hK K
        refine wpAnyH_take (i := 8) (v := .bool (decide (vc < c))) rfl (by kernel_rfl) (by kernel_rfl) (by kernel_rfl) (fun _ _ _ h => h) (Or.inl ⟨by rfl, by intro w hs; go_simp⟩) hHeld ?_
        refine norm_any' (fun K hK => ?_)
        go_simp
        refine hK _ _ ?_
        clear hK K
        refine wpAnyH_done (by kernel_rfl) ?_ _
        clear hHeld
        go_wp2_with (refine wpList_store_mid rfl 28 (.tmp 73) (.tmp 71) rfl p 4 #[.int .i64 a, .int .i64 b, .int .i64 c] rfl rfl HTH.out m28 (one3 a b c) (Hid.out ?_))
        refine mkHid ?_
        go_wp2
        exact HF.out
      · skip
        have HX3 : Aside (RA = (decide (vc < c), 0, ⟨s, n, l, hh + m, a, b, c⟩)) := by show _ = _; rw [HX2.out, if_neg km]
        clear HX2
        go_wp2_with fail
        clear d0 d1 d2 d3 d4 d5 d6
        have HR6 : Aside (Rt 43 w3.drew p ⟨s, n, l, hh + m, va, vb, vc⟩) := HR4.out
        have HT6 : Aside (Tn p w w3.drew) := HT4.out
        obtain ⟨d0, d1, d2, d3, d4, d5, d6⟩ := HR6.out.cells
        dsimp only at d0 d1 d2 d3 d4 d5 d6
        have HTH : Aside (w3.drew.there p 4 3) := HR6.out.there3
        have r0 : w3.drew.cell? ⟨A, 0, none⟩ = some (.int .i64 a) := by show w3.cell? _ = _; simp [World.cell?, q4]
        have r1 : w3.drew.cell? ⟨A, 1, none⟩ = some (.int .i64 b) := by show w3.cell? _ = _; simp [World.cell?, q4]
        have r2 : w3.drew.cell? ⟨A, 2, none⟩ = some (.int .i64 c) := by show w3.cell? _ = _; simp [World.cell?, q4]
        have HF : Aside (RR (.returned (.tuple #[.bool (decide (vc < c)), .int .i64 0])) (((w3.drew.setCell ⟨p, 4, none⟩ (.int .i64 a)).setCell ⟨p, 5, none⟩ (.int .i64 b)).setCell ⟨p, 6, none⟩ (.int .i64 c))) := HP.out (decide (vc < c), 0, ⟨s, n, l, hh + m, a, b, c⟩) _ _ HX3.out.symm rfl (HR6.out.cell3 a b c).1 (HT6.out.trans (HR6.out.cell3 a b c).2)
        clear HR6 HT6 q4 HP HX3
        refine wp_region_held_drew (S := fun X => X.cell? ⟨A, 2, none⟩ = some (.int .i64 c) ∧ X.cell? ⟨p, 6, none⟩ = some (.int .i64 vc)) (by kernel_rfl) ⟨r2, d6⟩ (fun hHeld => ?_)
        refine wpAnyH_take (i := 0) (v := .pointer (some ⟨A, 2, none⟩)) rfl (by kernel_rfl) (by kernel_rfl) (by kernel_rfl) (fun _ _ _ h => h) (Or.inl ⟨by rfl, by intro w hs; go_simp⟩) hHeld ?_
        refine norm_any' (fun K hK => ?_)
        go_simp
        refine hK _ _ ?_
        clear hK K
        refine wpAnyH_take (i := 1) (v := .int .i64 c) rfl (by kernel_rfl) (by kernel_rfl) (by kernel_rfl) (fun _ _ _ h => h) (Or.inl ⟨by rfl, by rintro w ⟨s0, s1⟩; go_simp⟩) hHeld ?_
        refine norm_any' (fun K hK => ?_)
        go_simp
        refine hK _ _ ?_
        clear hK K
        refine wpAnyH_take (i := 2) (v := .pointer (some ⟨p, 0, none⟩)) rfl (by kernel_rfl) (by kernel_rfl) (by kernel_rfl) (fun _ _ _ h => h) (Or.inl ⟨by rfl, by intro w hs; go_simp⟩) hHeld ?_
        refine norm_any' (fun K hK => ?_)
        go_simp
        refine hK _ _ ?_
        clear hK K
        refine wpAnyH_take (i := 3) (v := .pointer (some ⟨p, 0, none⟩)) rfl (by kernel_rfl) (by kernel_rfl) (by kernel_rfl) (fun _ _ _ h => h) (Or.inl ⟨by rfl, by intro w hs; go_simp⟩) hHeld ?_
        refine norm_any' (fun K hK => ?_)
        go_simp
        refine hK _ _ ?_
        clear hK K
        refine wpAnyH_take (i := 4) (v := .pointer (some ⟨p, 4, none⟩)) rfl (by kernel_rfl) (by kernel_rfl) (by kernel_rfl) (fun _ _ _ h => h) (Or.inl ⟨by rfl, by intro w hs; go_simp⟩) hHeld ?_
        refine norm_any' (fun K hK => ?_)
        go_simp
        refine hK _ _ ?_
        clear hK K
        refine wpAnyH_take (i := 5) (v := .pointer (some ⟨p, 6, none⟩)) rfl (by kernel_rfl) (by kernel_rfl) (by kernel_rfl) (fun _ _ _ h => h) (Or.inl ⟨by rfl, by intro w hs; go_simp⟩) hHeld ?_
        refine norm_any' (fun K hK => ?_)
        go_simp
        refine hK _ _ ?_
        clear hK K
        refine wpAnyH_take (i := 6) (v := .int .i64 vc) rfl (by kernel_rfl) (by kernel_rfl) (by kernel_rfl) (fun _ _ _ h => h) (Or.inl ⟨by rfl, by rintro w ⟨s0, s1⟩; go_simp⟩) hHeld ?_
        refine norm_any' (fun K hK => ?_)
        go_simp
        refine hK _ _ ?_
        clear hK K
        refine wpAnyH_take (i := 7) (v := .bool (decide (vc < c))) rfl (by kernel_rfl) (by kernel_rfl) (by kernel_rfl) (fun _ _ _ h => h) (Or.inl ⟨by rfl, by intro w hs; go_simp⟩) hHeld ?_
        refine norm_any' (fun K hK => ?_)
        go_simp
        refine hK _ _ ?_
        clear hK K
        refine wpAnyH_take (i := 8) (v := .bool (decide (vc < c))) rfl (by kernel_rfl) (by kernel_rfl) (by kernel_rfl) (fun _ _ _ h => h) (Or.inl ⟨by rfl, by intro w hs; go_simp⟩) hHeld ?_
        refine norm_any' (fun K hK => ?_)
        go_simp
        refine hK _ _ ?_
        clear hK K
        refine wpAnyH_done (by kernel_rfl) ?_ _
        clear hHeld
        go_wp2_with (refine wpList_store_mid rfl 28 (.tmp 73) (.tmp 71) rfl p 4 #[.int .i64 a, .int .i64 b, .int .i64 c] rfl rfl HTH.out m28 (one3 a b c) (Hid.out ?_))
        refine mkHid ?_
        go_wp2
        exact HF.out
end Go.Proofs.Ythfloemckhbljaa
