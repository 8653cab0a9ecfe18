/- pacer: Budget, Sent, wait, When, New. -/
import Derived.Test.YtogoifaoblbejaaWn
namespace Go.Proofs.Ytogoifaoblbejaa
open Go.RowKit
set_option linter.unusedVariables false

theorem min3 (x y z : Int) (w : World) : (Builtin.min_ #[3, 3, 3] 3 #[.int .i64 x, .int .i64 y, .int .i64 z]).run Try.prog w = .ok (.int .i64 (min (min x y) z)) w := by
  have e : (Builtin.min_ #[3, 3, 3] 3 #[.int .i64 x, .int .i64 y, .int .i64 z]).run Try.prog w = .ok (.int .i64 (if z < (if y < x then y else x) then z else (if y < x then y else x))) w := by
    simp [Builtin.min_, Builtin.min2, List.foldlM]
  rw [e, min_if x y, min_if (min x y) z]
theorem min4 (x y z u : Int) (w : World) : (Builtin.min_ #[3, 3, 3, 3] 3 #[.int .i64 x, .int .i64 y, .int .i64 z, .int .i64 u]).run Try.prog w = .ok (.int .i64 (min (min (min x y) z) u)) w := by
  have e : (Builtin.min_ #[3, 3, 3, 3] 3 #[.int .i64 x, .int .i64 y, .int .i64 z, .int .i64 u]).run Try.prog w = .ok (.int .i64 (if u < (if z < (if y < x then y else x) then z else (if y < x then y else x)) then u else (if z < (if y < x then y else x) then z else (if y < x then y else x)))) w := by
    simp [Builtin.min_, Builtin.min2, List.foldlM]
  rw [e, min_if x y, min_if (min x y) z, min_if (min (min x y) z) u]
/-- The budget. -/
def Pv.bud (v : Pv) (t w r : Int) : Int := if min (min t w) r < 0 then 0 else min (v.b + inn v.t t w r) v.z
set_option maxRecDepth 100000 in
theorem budget_c (b : Nat) (v : Pv) (t x r : Int) (w : World) (h : Rt w b v) (ho : v.ok) (t1 : t ≤ 9223372036854775807) : Calls Try.prog 14 #[.pointer (some ⟨b, 0, none⟩), .int .i64 t, .int .i64 x, .int .i64 r] w fun e w' => e = .returned (.int .i64 (v.bud t x r)) ∧ Below w.heap.size w w' := by
  have hn := none_c b v w h ho
  have m1 := min3 t x r
  have HL : Aside (v.bud t x r = if min (min t x) r < 0 then 0 else min (v.b + inn v.t t x r) v.z) := rfl
  generalize v.bud t x r = Q at *
  by_cases hm : min (min t x) r < 0
  · have HF : Aside (Q = 0) := by show Q = 0; rw [HL.out, if_pos hm]
    clear HL h ho
    go_enter Try.func14, Try.ntmps14
    go_wp2_with fail
    refine hn.mono ?_
    rintro e w' ⟨rfl, hw⟩
    subst w'
    go_wp2
    go_ret
    rw [HF.out]
    exact ⟨rfl, Below.refl _ _⟩
  · have HF : Aside (Q = min (v.b + inn v.t t x r) v.z) := by show Q = _; rw [HL.out, if_neg hm]
    have t0 : 0 ≤ t := by omega
    have x0 : 0 ≤ x := by omega
    have hco := coming_c b x r w x0
    obtain ⟨q0, q1, _, _⟩ := inn_b (t0 := v.t) (t := t) (v := x) (r := r) x0
    have i1 : IntKind.i64.wrap (v.b + inn v.t t x r) = v.b + inn v.t t x r := wrp _ (by have := ho.b0; omega) (by have := ho.b1; have := ho.z1; omega)
    have i2 := min_if (v.b + inn v.t t x r) v.z
    have HC : Aside (∀ X : World, Below w.heap.size w X → X.cell? ⟨b, 0, none⟩ = some (.int .i64 v.z) ∧ X.cell? ⟨b, 1, none⟩ = some (.int .i64 v.b) ∧ X.cell? ⟨b, 2, none⟩ = some (.int .i64 v.t)) := fun X hX => (h.below hX).cells
    have HO : Aside _ := ho
    clear HL h ho
    have T0 : Aside _ := t0
    have X0 : Aside _ := x0
    clear t0 x0
    go_enter Try.func14, Try.ntmps14
    go_wp2_with fail
    refine hn.mono ?_
    rintro e w' ⟨rfl, hw⟩
    subst w'
    clear hn
    go_wp2_with fail
    refine hco.mono ?_
    rintro e w1 ⟨rfl, hb1, e1, e2, e3⟩
    have hcl := clos_c b w.heap.size (w.heap.size + 1) (w.heap.size + 1 + 1) v.t t x r w1.drew X0.out HO.out.t0 HO.out.t1 T0.out t1 (HC.out _ hb1).2.2 e1 e2 e3
    have HB1 : Aside (Below w.heap.size w w1) := hb1
    have HBd : Aside (Below w.heap.size w w1.drew) := hb1.drew
    clear hco hb1 e1 e2 e3 hm m1
    generalize inn v.t t x r = I at *
    go_wp2_with fail
    go_region_held3 (fun w' => w'.cell? ⟨b, 0, none⟩ = some (.int .i64 v.z) ∧ w'.cell? ⟨b, 1, none⟩ = some (.int .i64 v.b)) (first | exact ⟨(HC.out _ HB4.out).1, (HC.out _ HB4.out).2.1⟩ | exact ⟨(HC.out _ HBd.out).1, (HC.out _ HBd.out).2.1⟩) (first | (go_at_call 23; refine Calls.mono hcl ?_; rintro e w4 ⟨rfl, hb4⟩; have HB4 : Aside (Below w.heap.size w w4) := bel_trans HBd.out hb4; clear hb4))
    go_wp2
    go_ret
    rw [HF.out]
    exact ⟨rfl, HB4.out⟩
theorem Pv.bud_b (v : Pv) (t w r : Int) (h : v.ok) : 0 ≤ v.bud t w r ∧ v.bud t w r ≤ v.z := by
  obtain ⟨z0, z1, b0, b1, t0, t1⟩ := h
  unfold Pv.bud
  split
  · omega
  · rename_i hm
    have := inn_b (t0 := v.t) (t := t) (v := w) (r := r) (by omega)
    omega
/-- So many bytes were sent. -/
def Pv.snt (v : Pv) (n t w r : Int) : Int × Pv := if min (min (min n t) w) r < 0 ∨ 1125899906842624 < t then (2, v) else (0, { v with b := max (v.bud t w r - n) 0, t := max v.t t })
theorem Pv.snt_ok (v : Pv) (n t w r : Int) (h : v.ok) : (v.snt n t w r).2.ok := by
  have hb := v.bud_b t w r h
  obtain ⟨z0, z1, b0, b1, t0, t1⟩ := h
  unfold Pv.snt
  split
  · exact ⟨z0, z1, b0, b1, t0, t1⟩
  · refine ⟨z0, z1, ?_, ?_, ?_, ?_⟩ <;> simp only <;> omega
set_option maxRecDepth 100000 in
theorem sent_c (b : Nat) (v : Pv) (n t x r : Int) (w : World) (h : Rt w b v) (ho : v.ok) (n1 : n ≤ 9223372036854775807) (t1 : t ≤ 9223372036854775807) : Calls Try.prog 10 #[.pointer (some ⟨b, 0, none⟩), .int .i64 n, .int .i64 t, .int .i64 x, .int .i64 r] w fun e w' => e = .returned (.int .i64 (v.snt n t x r).1) ∧ Rt w' b (v.snt n t x r).2 ∧ Tn b w w' := by
  have hn := none_c b v w h ho
  have m1 := min4 n t x r
  have hbb := v.bud_b t x r ho
  have hbu := budget_c b v t x r w h ho t1
  have HL : Aside (v.snt n t x r = if min (min (min n t) x) r < 0 ∨ 1125899906842624 < t then (2, v) else (0, { v with b := max (v.bud t x r - n) 0, t := max v.t t })) := rfl
  generalize v.snt n t x r = Q at *
  have HH : Aside (Rt w b v) := h
  clear h
  by_cases hm : min (min (min n t) x) r < 0
  · have HF : Aside (Q = (2, v)) := by show Q = _; rw [HL.out, if_pos (.inl hm)]
    clear HL hbu
    go_enter Try.func10, Try.ntmps10
    go_wp2_with fail
    refine hn.mono ?_
    rintro e w' ⟨rfl, hw⟩
    subst w'
    clear hn
    go_wp2
    go_ret
    rw [HF.out]
    exact ⟨rfl, HH.out, Tn.refl _ _⟩
  · by_cases ht : 1125899906842624 < t
    · have HF : Aside (Q = (2, v)) := by show Q = _; rw [HL.out, if_pos (.inr ht)]
      clear HL hbu
      go_enter Try.func10, Try.ntmps10
      go_wp2_with fail
      refine hn.mono ?_
      rintro e w' ⟨rfl, hw⟩
      subst w'
      clear hn
      go_wp2
      go_ret
      rw [HF.out]
      exact ⟨rfl, HH.out, Tn.refl _ _⟩
    · have HF : Aside (Q = (0, { v with b := max (v.bud t x r - n) 0, t := max v.t t })) := by show Q = _; rw [HL.out, if_neg (by omega)]
      have i1 : IntKind.i64.wrap (v.bud t x r - n) = v.bud t x r - n := wrp _ (by omega) (by have := ho.z1; omega)
      have i2 := max_if (v.bud t x r - n) 0
      have i3 := max_if v.t t
      clear HL hbb
      generalize v.bud t x r = B at *
      go_enter Try.func10, Try.ntmps10
      go_wp2_with fail
      refine hn.mono ?_
      rintro e w' ⟨rfl, hw⟩
      subst w'
      clear hn
      go_wp2_with fail
      refine hbu.mono ?_
      rintro e w1 ⟨rfl, hb1⟩
      have r0 := HH.out.below hb1
      have r1 := r0.set 1 (.int .i64 (max (B - n) 0)) { v with b := max (B - n) 0 } rfl
      have r2 := r1.set 2 (.int .i64 (max v.t t)) { v with b := max (B - n) 0, t := max v.t t } rfl
      have HT : Aside (Tn b w ((w1.setCell ⟨b, 1, none⟩ (.int .i64 (max (B - n) 0))).setCell ⟨b, 2, none⟩ (.int .i64 (max v.t t)))) := ((Tn.below hb1).trans (Tn.set r0 1 _)).trans (Tn.set r1 2 _)
      have f1 := r0.frozen 1
      have f2 := r0.frozen 2
      obtain ⟨c0, c1, c2⟩ := r0.cells
      have HR : Aside (Rt ((w1.setCell ⟨b, 1, none⟩ (.int .i64 (max (B - n) 0))).setCell ⟨b, 2, none⟩ (.int .i64 (max v.t t))) b { v with b := max (B - n) 0, t := max v.t t }) := r2
      clear hbu r0 r1 r2 hm ht hb1 m1
      go_wp2
      go_ret
      rw [HF.out]
      exact ⟨rfl, HR.out, HT.out⟩
/-- How long so many bytes take to come in. -/
def wt (l P R : Int) : Int := if 1152921504606846976 / l < R / P then 1152921504606846976 else min (l * (R / P) + (l * (R % P) + P - 1) / P) 1152921504606846976
theorem wt_b (l P R : Int) (l0 : 0 < l) (P0 : 0 < P) (R0 : 0 ≤ R) : 0 ≤ wt l P R ∧ wt l P R ≤ 1152921504606846976 := by
  unfold wt
  split
  · omega
  · have h1 : 0 ≤ l * (R / P) := Int.mul_nonneg (by omega) (Int.ediv_nonneg R0 (by omega))
    have h2 : 0 ≤ l * (R % P) := Int.mul_nonneg (by omega) (Int.emod_nonneg _ (by omega))
    have h3 : 0 ≤ (l * (R % P) + P - 1) / P := Int.ediv_nonneg (by omega) (by omega)
    omega
set_option maxRecDepth 100000 in
theorem wait_c (l v r : Int) (w : World) (l0 : 0 < l) (l1 : l ≤ 655350) (v0 : 0 < v) : Calls Try.prog 18 #[.int .i64 l, .int .i64 v, .int .i64 r] w fun e w' => e = .returned (.int .i64 (wt l (pt v) (rd r))) ∧ Below w.heap.size w w' := by
  have hr := rate_c v r w (by omega)
  obtain ⟨_, P1⟩ := pt_b (w := v) (by omega)
  have P0 : 0 < pt v := by unfold pt; omega
  obtain ⟨R0, R1⟩ := rd_b r
  generalize pt v = P at *
  generalize rd r = R at *
  have HL : Aside (wt l P R = if 1152921504606846976 / l < R / P then 1152921504606846976 else min (l * (R / P) + (l * (R % P) + P - 1) / P) 1152921504606846976) := rfl
  generalize wt l P R = Q at *
  have i1 : R.tdiv P = R / P := Int.tdiv_eq_ediv_of_nonneg (by omega)
  have i2 : R.tmod P = R % P := Int.tmod_eq_emod_of_nonneg (by omega)
  have q0 : 0 ≤ R / P := Int.ediv_nonneg (by omega) (by omega)
  have q1 : R / P ≤ R := Int.ediv_le_self _ (by omega)
  have s0 : 0 ≤ R % P := Int.emod_nonneg _ (by omega)
  have s1 : R % P < P := Int.emod_lt_of_pos _ P0
  have j1 : IntKind.i64.wrap (R / P) = R / P := wrp _ (by omega) (by omega)
  have j2 : IntKind.i64.wrap (R % P) = R % P := wrp _ (by omega) (by omega)
  have k0 : ¬ P = 0 := by omega
  have k1 : ¬ l = 0 := by omega
  have k2 : (P == 0) = false := by simpa using k0
  have k3 : (l == 0) = false := by simpa using k1
  have i3 : (1152921504606846976 : Int).tdiv l = 1152921504606846976 / l := Int.tdiv_eq_ediv_of_nonneg (by decide)
  have u0 : 0 ≤ 1152921504606846976 / l := Int.ediv_nonneg (by decide) (by omega)
  have u1 : 1152921504606846976 / l ≤ 1152921504606846976 := Int.ediv_le_self _ (by decide)
  have j3 : IntKind.i64.wrap (1152921504606846976 / l) = 1152921504606846976 / l := wrp _ (by omega) (by omega)
  have hu : l * (1152921504606846976 / l) ≤ 1152921504606846976 := Int.mul_ediv_self_le k1
  generalize R / P = A at *
  generalize hS : R % P = S at *
  generalize 1152921504606846976 / l = U at *
  by_cases hc : U < A
  · have HF : Aside (Q = 1152921504606846976) := by show Q = _; rw [HL.out, if_pos hc]
    clear HL
    go_enter Try.func18, Try.ntmps18
    go_wp2_with fail
    refine hr.mono ?_
    rintro e w' ⟨rfl, hw⟩
    subst w'
    clear hr
    go_wp2_with fail
    go_region_held3 (fun w' => True) (trivial) (fail)
    go_wp2
    go_ret
    rw [HF.out]
    exact ⟨rfl, (Below.refl _ _).drew⟩
  · have HF : Aside (Q = min (l * A + (l * S + P - 1) / P) 1152921504606846976) := by show Q = _; rw [HL.out, if_neg hc]
    have a0 : 0 ≤ l * A := Int.mul_nonneg (by omega) q0
    have a1 : l * A ≤ 1152921504606846976 := Int.le_trans (Int.mul_le_mul_of_nonneg_left (by omega) (by omega)) hu
    have b0 : 0 ≤ l * S := Int.mul_nonneg (by omega) s0
    have b1 : l * S ≤ 655350 * 5368709120 := Int.mul_le_mul l1 (by omega) s0 (by decide)
    have i4 : IntKind.i64.wrap (l * A) = l * A := wrp _ (by omega) (by omega)
    have i5 : IntKind.i64.wrap (l * S) = l * S := wrp _ (by omega) (by omega)
    have i6 : IntKind.i64.wrap (l * S + P) = l * S + P := wrp _ (by omega) (by omega)
    have i7 : IntKind.i64.wrap (l * S + P - 1) = l * S + P - 1 := wrp _ (by omega) (by omega)
    have i8 : (l * S + P - 1).tdiv P = (l * S + P - 1) / P := Int.tdiv_eq_ediv_of_nonneg (by omega)
    have c0 : 0 ≤ (l * S + P - 1) / P := Int.ediv_nonneg (by omega) (by omega)
    have c1 : (l * S + P - 1) / P ≤ l * S + P - 1 := Int.ediv_le_self _ (by omega)
    have i9 : IntKind.i64.wrap ((l * S + P - 1) / P) = (l * S + P - 1) / P := wrp _ (by omega) (by omega)
    have i10 : IntKind.i64.wrap (l * A + (l * S + P - 1) / P) = l * A + (l * S + P - 1) / P := wrp _ (by omega) (by omega)
    have i11 := min_if (l * A + (l * S + P - 1) / P) 1152921504606846976
    clear HL hu
    clear a0 a1 b0 b1 c0 c1 q0 q1 s0 s1 u0 u1
    go_enter Try.func18, Try.ntmps18
    go_wp2_with fail
    refine hr.mono ?_
    rintro e w' ⟨rfl, hw⟩
    subst w'
    clear hr
    go_wp2_with fail
    go_region_held3 (fun w' => True) (trivial) (fail)
    go_wp2
    go_ret
    rw [HF.out]
    exact ⟨rfl, (Below.refl _ _).drew⟩
/-- From when on so many bytes may be sent. -/
def Pv.whn (v : Pv) (n w r : Int) : Int × Int := if min (min n w) r < 0 then (0, 2) else if v.z < n then (0, 3) else if n ≤ v.b then (v.t, 0) else if w = 0 then (0, 15) else (v.t + wt (n - v.b) (pt w) (rd r), 0)
set_option maxRecDepth 100000 in
theorem when_c (b : Nat) (v : Pv) (n x r : Int) (w : World) (h : Rt w b v) (ho : v.ok) : Calls Try.prog 12 #[.pointer (some ⟨b, 0, none⟩), .int .i64 n, .int .i64 x, .int .i64 r] w fun e w' => e = .returned (.tuple #[.int .i64 (v.whn n x r).1, .int .i64 (v.whn n x r).2]) ∧ Below w.heap.size w w' := by
  have hn := none_c b v w h ho
  have m1 := min3 n x r
  obtain ⟨c0, c1, c2⟩ := h.cells
  have HL : Aside (v.whn n x r = if min (min n x) r < 0 then (0, 2) else if v.z < n then (0, 3) else if n ≤ v.b then (v.t, 0) else if x = 0 then (0, 15) else (v.t + wt (n - v.b) (pt x) (rd r), 0)) := rfl
  generalize v.whn n x r = Q at *
  have HC : Aside (∀ X : World, Below w.heap.size w X → X.cell? ⟨b, 1, none⟩ = some (.int .i64 v.b) ∧ X.cell? ⟨b, 2, none⟩ = some (.int .i64 v.t)) := fun X hX => (h.below hX).cells.2
  clear h
  by_cases hm : min (min n x) r < 0
  · have HF : Aside (Q = (0, 2)) := by show Q = _; rw [HL.out, if_pos hm]
    clear HL
    go_enter Try.func12, Try.ntmps12
    go_wp2_with fail
    refine hn.mono ?_
    rintro e w' ⟨rfl, hw⟩
    subst w'
    clear hn
    go_wp2
    go_ret2
    rw [HF.out]
    exact ⟨rfl, Below.refl _ _⟩
  · by_cases hz : v.z < n
    · have HF : Aside (Q = (0, 3)) := by show Q = _; rw [HL.out, if_neg hm, if_pos hz]
      clear HL
      go_enter Try.func12, Try.ntmps12
      go_wp2_with fail
      refine hn.mono ?_
      rintro e w' ⟨rfl, hw⟩
      subst w'
      clear hn
      go_wp2
      go_ret2
      rw [HF.out]
      exact ⟨rfl, Below.refl _ _⟩
    · by_cases hb : n ≤ v.b
      · have HF : Aside (Q = (v.t, 0)) := by show Q = _; rw [HL.out, if_neg hm, if_neg hz, if_pos hb]
        clear HL
        go_enter Try.func12, Try.ntmps12
        go_wp2_with fail
        refine hn.mono ?_
        rintro e w' ⟨rfl, hw⟩
        subst w'
        clear hn
        go_wp2
        go_ret2
        rw [HF.out]
        exact ⟨rfl, Below.refl _ _⟩
      · by_cases hx : x = 0
        · have HF : Aside (Q = (0, 15)) := by show Q = _; rw [HL.out, if_neg hm, if_neg hz, if_neg hb, if_pos hx]
          clear HL
          subst hx
          go_enter Try.func12, Try.ntmps12
          go_wp2_with fail
          refine hn.mono ?_
          rintro e w' ⟨rfl, hw⟩
          subst w'
          clear hn
          go_wp2
          go_ret2
          rw [HF.out]
          exact ⟨rfl, Below.refl _ _⟩
        · have HF : Aside (Q = (v.t + wt (n - v.b) (pt x) (rd r), 0)) := by show Q = _; rw [HL.out, if_neg hm, if_neg hz, if_neg hb, if_neg hx]
          have hw := wait_c (n - v.b) x r w.drew (by omega) (by have := ho.z1; have := ho.b0; omega) (by omega)
          have hwb := wt_b (n - v.b) (pt x) (rd r) (by omega) (by unfold pt; omega) (by have := rd_b r; omega)
          have i1 : IntKind.i64.wrap (n - v.b) = n - v.b := wrp _ (by omega) (by have := ho.z1; have := ho.b0; omega)
          have i2 : IntKind.i64.wrap (v.t + wt (n - v.b) (pt x) (rd r)) = v.t + wt (n - v.b) (pt x) (rd r) := wrp _ (by have := ho.t0; omega) (by have := ho.t1; omega)
          have HBd : Aside (Below w.heap.size w w.drew) := (Below.refl _ _).drew
          have hx' : (x == 0) = false := by simpa using hx
          generalize wt (n - v.b) (pt x) (rd r) = T at *
          clear HL hwb ho
          go_enter Try.func12, Try.ntmps12
          go_wp2_with fail
          refine hn.mono ?_
          rintro e w' ⟨rfl, hw'⟩
          subst w'
          clear hn
          go_wp2_with fail
          go_region_held3 (fun w' => w'.cell? ⟨b, 1, none⟩ = some (.int .i64 v.b) ∧ w'.cell? ⟨b, 2, none⟩ = some (.int .i64 v.t)) (first | exact HC.out _ HB4.out | exact HC.out _ HBd.out) (first | (go_at_call 18; refine Calls.mono hw ?_; rintro e w4 ⟨rfl, hb4⟩; have HB4 : Aside (Below w.heap.size w w4) := bel_trans HBd.out hb4; clear hb4))
          go_wp2
          go_ret2
          rw [HF.out]
          exact ⟨rfl, HB4.out⟩
/-- A new pacer. -/
def pv0 (z : Int) : Pv := ⟨10 * z, 10 * z, 0⟩
theorem pv0_ok (z : Int) (h0 : 1200 ≤ z) (h1 : z ≤ 65535) : (pv0 z).ok := by
  refine ⟨?_, ?_, ?_, ?_, ?_, ?_⟩ <;> simp only [pv0] <;> omega
set_option maxRecDepth 100000 in
theorem new_c (z : Int) (w : World) (h0 : 1200 ≤ z) (h1 : z ≤ 65535) : Calls Try.prog 7 #[.int .i64 z] w fun e w' => e = .returned (.tuple #[.pointer (some ⟨w.heap.size, 0, none⟩), .int .i64 0]) ∧ Rt w' w.heap.size (pv0 z) ∧ Below w.heap.size w w' := by
  have i1 : IntKind.i64.wrap (10 * z) = 10 * z := wrp _ (by omega) (by omega)
  have hb := between_c z 1200 65535 w
  rw [show cl z 1200 65535 = z by unfold cl; omega] at hb
  have HN : Aside (Rt (w.alloc (.cells (pv0 z).cs 42)) w.heap.size (pv0 z)) := heap_alloc_new w _
  go_enter Try.func7, Try.ntmps7
  go_wp2_with fail
  refine hb.mono ?_
  rintro e w' ⟨rfl, hw⟩
  subst w'
  go_wp2
  go_ret2
  exact ⟨rfl, HN.out, bel1 w _⟩
end Go.Proofs.Ytogoifaoblbejaa
