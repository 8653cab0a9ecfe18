/- PacerEnough: what When tells; the walk. -/
import Derived.Test.YtogoifaoblbejaaBu
import Derived.Test.YtogoifaoblbejaaOpen
namespace Go.Proofs.Ytogoifaoblbejaa
open Go.RowKit
set_option linter.unusedVariables false

theorem wt_enough {l P R d : Int} (l0 : 0 < l) (P0 : 0 < P) (R0 : 0 < R) (hd : wt l P R = d) (h : d ≤ 1073741824) : l * R ≤ d * P ∧ (d - 1) * P < l * R := by
  unfold wt at hd
  split at hd
  · omega
  · have hc1 := Int.mul_ediv_self_le (x := l * (R % P) + P - 1) (k := P) (by omega)
    have hc2 := Int.lt_mul_ediv_self_add (x := l * (R % P) + P - 1) (k := P) P0
    have hR : R = P * (R / P) + R % P := by rw [Int.emod_def]; omega
    generalize (l * (R % P) + P - 1) / P = c at *
    generalize R / P = A at *
    generalize R % P = S at *
    have hd' : d = l * A + c := by omega
    have h1 : d * P = l * (P * A) + P * c := by rw [hd', Int.add_mul, Int.mul_assoc, Int.mul_comm A P, Int.mul_comm c P]
    have h2 : l * R = l * (P * A) + l * S := by rw [hR, Int.mul_add]
    have h3 : (d - 1) * P = d * P - P := by rw [Int.sub_mul, Int.one_mul]
    omega
/-- At When there is enough, and a moment ahead there is not. -/
theorem Pv.enough (v : Pv) (n w r : Int) (h : v.ok) (w0 : 0 ≤ w) (r0 : 0 ≤ r) (he : (v.whn n w r).2 = 0) :
    v.t ≤ (v.whn n w r).1 ∧ (v.whn n w r).1 ≤ 1154047404513689600 ∧ ((v.whn n w r).1 - v.t ≤ 1073741824 → n ≤ v.bud (v.whn n w r).1 w r ∧ v.bud (v.whn n w r).1 w r ≤ v.z ∧ ((v.whn n w r).1 = v.t ∨ v.bud ((v.whn n w r).1 - 1) w r < n)) := by
  have hz := fun t => (v.bud_b t w r h).2
  obtain ⟨z0, z1, b0, b1, t0, t1⟩ := h
  unfold Pv.whn at he ⊢
  split at he
  · cases he
  · rename_i hm
    rw [if_neg hm]
    split at he
    · cases he
    · rename_i hz1
      rw [if_neg hz1]
      split at he
      · rename_i hb
        rw [if_pos hb]
        refine ⟨Int.le_refl _, by simp only; omega, fun _ => ⟨?_, hz _, .inl rfl⟩⟩
        simp only
        unfold Pv.bud
        rw [if_neg (by omega)]
        have := (inn_b (t0 := v.t) (t := v.t) (v := w) (r := r) w0).1
        omega
      · rename_i hb
        rw [if_neg hb]
        split at he
        · cases he
        · rename_i hx
          rw [if_neg hx]
          have hP : 0 < pt w := by unfold pt; omega
          have hR := rd_b r
          have hwb := wt_b (n - v.b) (pt w) (rd r) (by omega) hP (by omega)
          have hen := fun h => wt_enough (l := n - v.b) (P := pt w) (R := rd r) (by omega) hP (by omega) rfl h
          simp only
          refine ⟨by omega, by omega, fun hd => ?_⟩
          obtain ⟨g1, g2⟩ := hen (by omega)
          generalize hd' : wt (n - v.b) (pt w) (rd r) = d at *
          refine ⟨?_, hz _, ?_⟩
          · unfold Pv.bud
            rw [if_neg (by omega)]
            have : n - v.b ≤ inn v.t (v.t + d) w r := by
              unfold inn
              rw [show cl (v.t + d - v.t) 0 1073741824 = d by unfold cl; omega]
              exact Int.le_ediv_of_mul_le (by omega) g1
            omega
          · by_cases hd0 : d = 0
            · exact .inl (by omega)
            · right
              unfold Pv.bud
              rw [if_neg (by omega)]
              have : inn v.t (v.t + d - 1) w r < n - v.b := by
                unfold inn
                rw [show cl (v.t + d - 1 - v.t) 0 1073741824 = d - 1 by unfold cl; omega]
                exact Int.ediv_lt_of_lt_mul (by omega) g2
              omega
/-- Where When tells no time. -/
theorem Pv.whn_no (v : Pv) (n w r : Int) (w0 : 0 ≤ w) (r0 : 0 ≤ r) (he : ¬ (v.whn n w r).2 = 0) : n < 0 ∨ v.z < n ∨ w = 0 := by
  unfold Pv.whn at he
  split at he
  · omega
  · split at he
    · omega
    · split at he
      · simp at he
      · split at he
        · omega
        · simp at he
/-- A pacer in block b and the act in block A, both of one's own. -/
structure En (w : World) (b A : Nat) (v : Pv) (a : Ac) (W : World) : Prop where
  p : Rt W b v
  o : v.ok
  q : W.heap[A]? = some (.cells a.cs.toArray 32 (0, 0))
  ne : A ≠ b
  b0 : w.heap.size ≤ b
  A0 : w.heap.size ≤ A
  u : Below w.heap.size w W
theorem En.turn {w : World} {b A : Nat} {v v' : Pv} {a : Ac} {W W' : World} (h : En w b A v a W) (ht : Tn b W W') (hr : Rt W' b v') (ho : v'.ok) : En w b A v' a W' :=
  ⟨hr, ho, (ht.2.2.2.2 A (Array.getElem?_eq_some_iff.1 h.q).1 h.ne).trans h.q, h.ne, h.b0, h.A0, h.u.trans (ht.toBelow h.u.size h.b0)⟩
theorem En.keep {w : World} {b A : Nat} {v : Pv} {a : Ac} {W W' : World} (h : En w b A v a W) (hb : Below W.heap.size W W') : En w b A v a W' := h.turn (Tn.below hb) (h.p.below hb) h.o
theorem En.cells {w : World} {b A : Nat} {v : Pv} {a : Ac} {W : World} (h : En w b A v a W) : W.cell? ⟨A, 0, none⟩ = some (.int .i64 a.n) ∧ W.cell? ⟨A, 1, none⟩ = some (.int .i64 a.t) ∧ W.cell? ⟨A, 2, none⟩ = some (.int .i64 a.w) ∧ W.cell? ⟨A, 3, none⟩ = some (.int .i64 a.r) ∧ W.cell? ⟨A, 4, none⟩ = some (.int .i64 a.q) := by
  have h' := h.q
  refine ⟨?_, ?_, ?_, ?_, ?_⟩ <;> simp [World.cell?, h', Ac.cs]
theorem En.budget {w : World} {b A : Nat} {v : Pv} {a : Ac} {W : World} (h : En w b A v a W) (t x r B : Int) (t1 : t ≤ 9223372036854775807) (hB : v.bud t x r = B) : Calls Try.prog 14 #[.pointer (some ⟨b, 0, none⟩), .int .i64 t, .int .i64 x, .int .i64 r] W fun e w' => e = .returned (.int .i64 B) ∧ En w b A v a w' := by
  have := budget_c b v t x r W h.p h.o t1
  rw [hB] at this
  exact this.mono (by rintro e w' ⟨rfl, hb⟩; exact ⟨rfl, h.keep hb⟩)
theorem En.when {w : World} {b A : Nat} {v : Pv} {a : Ac} {W : World} (h : En w b A v a W) (n x r : Int) : Calls Try.prog 12 #[.pointer (some ⟨b, 0, none⟩), .int .i64 n, .int .i64 x, .int .i64 r] W fun e w' => e = .returned (.tuple #[.int .i64 (v.whn n x r).1, .int .i64 (v.whn n x r).2]) ∧ En w b A v a w' :=
  (when_c b v n x r W h.p h.o).mono (by rintro e w' ⟨rfl, hb⟩; exact ⟨rfl, h.keep hb⟩)
theorem En.sent {w : World} {b A : Nat} {v : Pv} {a : Ac} {W : World} (h : En w b A v a W) (n t x r : Int) (n1 : n ≤ 9223372036854775807) (t1 : t ≤ 9223372036854775807) : Calls Try.prog 10 #[.pointer (some ⟨b, 0, none⟩), .int .i64 n, .int .i64 t, .int .i64 x, .int .i64 r] W fun e w' => e = .returned (.int .i64 (v.snt n t x r).1) ∧ En w b A (v.snt n t x r).2 a w' :=
  (sent_c b v n t x r W h.p h.o n1 t1).mono (by rintro e w' ⟨rfl, hr, ht⟩; exact ⟨rfl, h.turn ht hr (v.snt_ok n t x r h.o)⟩)
theorem pv0_bud (w r : Int) (w0 : 0 ≤ w) (r0 : 0 ≤ r) : (pv0 1200).bud 0 w r = 12000 := by
  unfold Pv.bud
  rw [if_neg (by omega)]
  have := (inn_b (t0 := (pv0 1200).t) (t := 0) (v := w) (r := r) w0).1
  simp only [pv0] at *
  omega

set_option maxRecDepth 100000 in
set_option maxHeartbeats 2000000 in
theorem enough_walk (a : Ac) (y : Int) (w : World) (hwf : a.wf) : Calls Try.prog 5 #[.agg #[.int .i64 a.n, .int .i64 a.t, .int .i64 a.w, .int .i64 a.r, .int .i64 a.q], .int .i64 y] w fun e w' => e = .returned (.bool true) ∧ Below w.heap.size w w' := by
  obtain ⟨⟨n0, n1⟩, ⟨t0, t1⟩, ⟨w0, w1⟩, ⟨r0, r1⟩, _⟩ := hwf
  obtain ⟨W0, hW0⟩ : ∃ W0, (w.alloc (.cells #[.int .i64 a.n, .int .i64 a.t, .int .i64 a.w, .int .i64 a.r, .int .i64 a.q] 32)) = W0 := ⟨_, rfl⟩
  have hq0 : W0.heap[w.heap.size]? = some (.cells a.cs.toArray 32 (0, 0)) := by rw [← hW0]; exact heap_alloc_new w _
  have hs0 : W0.heap.size = w.heap.size + 1 := by rw [← hW0]; simp
  have hb0 : Below w.heap.size w W0 := by rw [← hW0]; exact bel1 _ _
  have hnew := new_c 1200 W0 (by decide) (by decide)
  have HH : Aside (∀ X, Rt X W0.heap.size (pv0 1200) → Below W0.heap.size W0 X → En w W0.heap.size w.heap.size (pv0 1200) a X) := fun X hr hb => ⟨hr, pv0_ok 1200 (by decide) (by decide), (hb.block _ (by omega)).trans hq0, by omega, by omega, Nat.le_refl _, hb0.trans (hb.mono hb0.size)⟩
  generalize W0.heap.size = B at *
  generalize hA : w.heap.size = A at *
  clear hq0 hs0 hb0
  go_enter Try.func5, Try.ntmps5
  go_wp2_with fail
  refine hnew.mono ?_
  rintro e W1 ⟨rfl, hr1, hb1⟩
  have H1 : Aside (En w B A (pv0 1200) a W1) := HH.out _ hr1 hb1
  clear HH hr1 hb1 hnew hW0
  have hbu := H1.out.budget 0 0 0 12000 (by decide) (pv0_bud 0 0 (by decide) (by decide))
  go_wp2_with fail
  refine hbu.mono ?_
  rintro e W2 ⟨rfl, h2⟩
  clear hbu H1
  have hse := h2.sent a.n a.t a.w a.r n1 t1
  obtain ⟨c0, c1, c2, c3, c4⟩ := h2.cells
  clear h2
  by_cases hno : min (min (min a.n a.t) a.w) a.r < 0 ∨ 1125899906842624 < a.t
  · rw [show (pv0 1200).snt a.n a.t a.w a.r = (2, pv0 1200) by unfold Pv.snt; rw [if_pos hno]] at hse
    dsimp only at hse
    clear hno
    go_wp2_with fail
    refine hse.mono ?_
    rintro e W3 ⟨rfl, h3⟩
    have hbu := h3.budget 0 0 0 12000 (by decide) (pv0_bud 0 0 (by decide) (by decide))
    clear h3 hse c0 c1 c2 c3 c4
    go_wp2_with fail
    refine hbu.mono ?_
    rintro e W4 ⟨rfl, h4⟩
    have H4 : Aside (Below w.heap.size w W4) := h4.u
    clear h4 hbu
    go_wp2
    go_ret
    exact ⟨rfl, by rw [← hA]; exact H4.out⟩
  · have w0' : 0 ≤ a.w := by omega
    have r0' : 0 ≤ a.r := by omega
    have t0' : 0 ≤ a.t := by omega
    have t1' : a.t ≤ 1125899906842624 := by omega
    rw [show (pv0 1200).snt a.n a.t a.w a.r = (0, ((pv0 1200).snt a.n a.t a.w a.r).2) by unfold Pv.snt; rw [if_neg hno]] at hse
    have hvt : ((pv0 1200).snt a.n a.t a.w a.r).2.t = a.t := by unfold Pv.snt; rw [if_neg hno]; simp only [pv0]; omega
    have hvz : ((pv0 1200).snt a.n a.t a.w a.r).2.z = 12000 := by unfold Pv.snt; rw [if_neg hno]; rfl
    generalize ((pv0 1200).snt a.n a.t a.w a.r).2 = v at *
    dsimp only at hse
    clear hno
    go_wp2_with fail
    refine hse.mono ?_
    rintro e W3 ⟨rfl, h3⟩
    have hok := h3.o
    clear hse c0 c1 c2 c3 c4
    obtain ⟨c0, c1, c2, c3, c4⟩ := h3.cells
    have hwh := h3.when y a.w a.r
    clear h3
    have hno := v.whn_no y a.w a.r w0' r0'
    have hyes := v.enough y a.w a.r hok w0' r0'
    rw [hvz] at hno hyes
    rw [hvt] at hyes
    generalize v.whn y a.w a.r = Q at *
    obtain ⟨T, E⟩ := Q
    dsimp only at hno hyes hwh
    by_cases hE : E = 0
    · obtain ⟨g1, g2, g3⟩ := hyes hE
      subst hE
      clear hno hyes
      have d1 : ¬ T < a.t := by omega
      have i1 : IntKind.i64.wrap (T - a.t) = T - a.t := wrp _ (by omega) (by omega)
      have i2 : IntKind.i64.wrap (T - 1) = T - 1 := wrp _ (by omega) (by omega)
      by_cases hd : 1073741824 < T - a.t
      · have d3 : decide (a.t ≤ T) = true := decide_eq_true (by omega)
        have d4 : a.t ≤ T := by omega
        clear g1 g2 g3
        go_wp2_with fail
        refine hwh.mono ?_
        rintro e W4 ⟨rfl, h4⟩
        clear hwh c0 c1 c2 c3 c4
        obtain ⟨c0, c1, c2, c3, c4⟩ := h4.cells
        have H4 : Aside (Below w.heap.size w W4) := h4.u
        clear h4
        go_wp2
        go_ret
        exact ⟨rfl, by rw [← hA]; exact H4.out⟩
      · obtain ⟨g4, g5, g6⟩ := g3 (by omega)
        clear g3
        have hb1 := v.bud_b T a.w a.r hok
        have hb2 := v.bud_b (T - 1) a.w a.r hok
        obtain ⟨B1, hB1⟩ : ∃ x, v.bud T a.w a.r = x := ⟨_, rfl⟩
        obtain ⟨B2, hB2⟩ : ∃ x, v.bud (T - 1) a.w a.r = x := ⟨_, rfl⟩
        rw [hB1] at g4 g5
        rw [hB2] at g6
        have HB1 : Aside _ := hB1
        have HB2 : Aside _ := hB2
        clear hb1 hb2 hB1 hB2
        go_wp2_with fail
        refine hwh.mono ?_
        rintro e W4 ⟨rfl, h4⟩
        clear hwh c0 c1 c2 c3 c4
        obtain ⟨c0, c1, c2, c3, c4⟩ := h4.cells
        have hbu := h4.budget T a.w a.r B1 (by omega) HB1.out
        clear h4
        go_wp2_with fail
        refine hbu.mono ?_
        rintro e W5 ⟨rfl, h5⟩
        clear hbu c0 c1 c2 c3 c4
        obtain ⟨c0, c1, c2, c3, c4⟩ := h5.cells
        have hbu := h5.budget (T - 1) a.w a.r B2 (by omega) HB2.out
        have H5 : Aside (Below w.heap.size w W5) := h5.u
        clear h5
        by_cases hT : T = a.t
        · have q1 : (T == a.t) = true := by simpa using hT
          have q2 : decide (y ≤ B1) = true := decide_eq_true g4
          have q3 : decide (B1 ≤ 12000) = true := decide_eq_true g5
          clear hT hbu
          go_wp2
          go_ret
          exact ⟨rfl, by rw [← hA]; exact H5.out⟩
        · have q1 : (T == a.t) = false := by simpa using hT
          have g7 : B2 < y := g6.resolve_left hT
          clear g6 hT
          go_wp2_with fail
          refine hbu.mono ?_
          rintro e W6 ⟨rfl, h6⟩
          have H6 : Aside (Below w.heap.size w W6) := h6.u
          clear h6 hbu
          go_wp2
          go_ret
          exact ⟨rfl, by rw [← hA]; exact H6.out⟩
    · have hE' : (E == 0) = false := by simpa using hE
      have hd := hno hE
      clear hno hyes
      go_wp2_with fail
      refine hwh.mono ?_
      rintro e W4 ⟨rfl, h4⟩
      clear hwh c0 c1 c2 c3 c4
      obtain ⟨c0, c1, c2, c3, c4⟩ := h4.cells
      have H4 : Aside (Below w.heap.size w W4) := h4.u
      clear h4
      by_cases d1 : y < 0
      · go_wp2
        go_ret
        exact ⟨rfl, by rw [← hA]; exact H4.out⟩
      · by_cases d2 : 12000 < y
        · go_wp2
          go_ret
          exact ⟨rfl, by rw [← hA]; exact H4.out⟩
        · have d3 : a.w = 0 := by omega
          rw [d3] at c2
          clear hd d3
          go_wp2
          go_ret
          exact ⟨rfl, by rw [← hA]; exact H4.out⟩
end Go.Proofs.Ytogoifaoblbejaa
