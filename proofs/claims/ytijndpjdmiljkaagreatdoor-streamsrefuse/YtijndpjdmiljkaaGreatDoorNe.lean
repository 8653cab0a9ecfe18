/- streams: limits as values; isIn, within, ownMost, peerMost. -/
import Derived.Test.YtijndpjdmiljkaaGreatDoorWt
namespace Go.Proofs.YtijndpjdmiljkaaGreatDoor
open Go.RowKit
set_option linter.unusedVariables false

/-- Limits. -/
structure Lm where
  d : Int
  l : Int
  r : Int
  u : Int
  b : Int
  s : Int
def Lm.v (x : Lm) : List Value := [.int .i64 x.d, .int .i64 x.l, .int .i64 x.r, .int .i64 x.u, .int .i64 x.b, .int .i64 x.s]
def isin (n m : Int) : Bool := decide (0 ≤ n) && decide (n ≤ m)
def Lm.le (x y : Lm) : Bool := isin x.d y.d && isin x.l y.l && isin x.r y.r && isin x.u y.u && isin x.b y.b && isin x.s y.s
def ownM : Lm := ⟨1073741824, 1048576, 1048576, 1048576, 1024, 1024⟩
def peerM : Lm := ⟨4611686018427387903, 4611686018427387903, 4611686018427387903, 4611686018427387903, 1152921504606846976, 1152921504606846976⟩
theorem u23 : Tryz.prog.underlying 23 = some (.struct (Tryz.prog.fieldsOf 23)) := by kernel_rfl
theorem i23 : (Tryz.prog.info? 23).map (·.size) = some 6 := by kernel_rfl
theorem isIn_c (n m : Int) (w : World) : Calls Tryz.prog 98 #[.int .i64 n, .int .i64 m] w fun e w' => e = .returned (.bool (isin n m)) ∧ w' = w := by
  unfold isin
  by_cases h1 : 0 ≤ n
  · rw [decide_eq_true h1]
    by_cases h2 : n ≤ m
    · rw [decide_eq_true h2]
      go_enter Tryz.func98, Tryz.ntmps98
      go_wp2
      go_ret
      exact ⟨rfl, rfl⟩
    · rw [decide_eq_false h2]
      go_enter Tryz.func98, Tryz.ntmps98
      go_wp2
      go_ret
      exact ⟨rfl, rfl⟩
  · rw [decide_eq_false h1]
    go_enter Tryz.func98, Tryz.ntmps98
    go_wp2
    go_ret
    exact ⟨rfl, rfl⟩
theorem two_lims (x y : Lm) (w : World) : ∃ W, (w.alloc (.cells x.v.toArray 23)).alloc (.cells y.v.toArray 23) = W ∧ Below w.heap.size w W ∧ W.heap[w.heap.size]? = some (.cells x.v.toArray 23 (0, 0)) ∧ W.heap[w.heap.size + 1]? = some (.cells y.v.toArray 23 (0, 0)) := by
  refine ⟨_, rfl, bel_trans (bel1 _ _) (bel1 _ _), ?_, ?_⟩
  · exact heap_bel (heap_alloc_new w _) (bel1 _ _)
  · have := heap_alloc_new (w.alloc (.cells x.v.toArray 23)) (.cells y.v.toArray 23)
    rwa [World.size_alloc] at this
theorem lim_cells {x : Lm} {w : World} {b : Nat} (h : w.heap[b]? = some (.cells x.v.toArray 23 (0, 0))) : w.cell? ⟨b, 0, none⟩ = some (.int .i64 x.d) ∧ w.cell? ⟨b, 1, none⟩ = some (.int .i64 x.l) ∧ w.cell? ⟨b, 2, none⟩ = some (.int .i64 x.r) ∧ w.cell? ⟨b, 3, none⟩ = some (.int .i64 x.u) ∧ w.cell? ⟨b, 4, none⟩ = some (.int .i64 x.b) ∧ w.cell? ⟨b, 5, none⟩ = some (.int .i64 x.s) := by
  refine ⟨?_, ?_, ?_, ?_, ?_, ?_⟩ <;> simp [World.cell?, h, Lm.v]
set_option maxRecDepth 100000 in
theorem within_c (x y : Lm) (w : World) : Calls Tryz.prog 41 #[.agg x.v.toArray, .agg y.v.toArray] w fun e w' => e = .returned (.bool (x.le y)) ∧ Below w.heap.size w w' := by
  obtain ⟨W, hW, hb, h1, h2⟩ := two_lims x y w
  obtain ⟨a0, a1, a2, a3, a4, a5⟩ := lim_cells h1
  obtain ⟨b0, b1, b2, b3, b4, b5⟩ := lim_cells h2
  have HB : Hid _ := hb
  clear h1 h2 hb
  unfold Lm.le
  have k0 := isIn_c x.d y.d
  have k1 := isIn_c x.l y.l
  have k2 := isIn_c x.r y.r
  have k3 := isIn_c x.u y.u
  have k4 := isIn_c x.b y.b
  have k5 := isIn_c x.s y.s
  generalize isin x.d y.d = q0 at *
  generalize isin x.l y.l = q1 at *
  generalize isin x.r y.r = q2 at *
  generalize isin x.u y.u = q3 at *
  generalize isin x.b y.b = q4 at *
  generalize isin x.s y.s = q5 at *
  go_enter Tryz.func41, Tryz.ntmps41
  go_wp2_with fail
  rw [show (w.alloc (.cells x.v.toArray 23)).alloc (.cells y.v.toArray 23) = W from hW] at *
  refine (k0 _).mono ?_
  rintro e w' ⟨rfl, rfl⟩
  cases q0
  · go_wp2
    go_ret
    exact ⟨rfl, HB.out⟩
  · go_wp2_with fail
    refine (k1 _).mono ?_
    rintro e w' ⟨rfl, rfl⟩
    cases q1
    · go_wp2
      go_ret
      exact ⟨rfl, HB.out⟩
    · go_wp2_with fail
      refine (k2 _).mono ?_
      rintro e w' ⟨rfl, rfl⟩
      cases q2
      · go_wp2
        go_ret
        exact ⟨rfl, HB.out⟩
      · go_wp2_with fail
        refine (k3 _).mono ?_
        rintro e w' ⟨rfl, rfl⟩
        cases q3
        · go_wp2
          go_ret
          exact ⟨rfl, HB.out⟩
        · go_wp2_with fail
          refine (k4 _).mono ?_
          rintro e w' ⟨rfl, rfl⟩
          cases q4
          · go_wp2
            go_ret
            exact ⟨rfl, HB.out⟩
          · go_wp2_with fail
            refine (k5 _).mono ?_
            rintro e w' ⟨rfl, rfl⟩
            cases q5
            · go_wp2
              go_ret
              exact ⟨rfl, HB.out⟩
            · go_wp2_with fail
              go_ret
              exact ⟨rfl, HB.out⟩
set_option maxRecDepth 100000 in
theorem ownMost_c (w : World) : Calls Tryz.prog 42 #[] w fun e w' => e = .returned (.agg ownM.v.toArray) ∧ Below w.heap.size w w' := by
  have HB : Hid _ := bel1 w (.cells ownM.v.toArray 23)
  have HS : Hid _ := heap_alloc_new w (.cells ownM.v.toArray 23)
  go_enter Tryz.func42, Tryz.ntmps42
  go_wp2_with fail
  exact bodyPost_ret (v := .agg ownM.v.toArray) (results_cell_row (fn := Tryz.f42) (p := 0) rfl _ _ w.heap.size 23 _ (0, 0) _ rfl HS.out u23 rfl i23) rfl ⟨rfl, HB.out⟩
set_option maxRecDepth 100000 in
theorem peerMost_c (w : World) : Calls Tryz.prog 43 #[] w fun e w' => e = .returned (.agg peerM.v.toArray) ∧ Below w.heap.size w w' := by
  have HB : Hid _ := bel1 w (.cells peerM.v.toArray 23)
  have HS : Hid _ := heap_alloc_new w (.cells peerM.v.toArray 23)
  go_enter Tryz.func43, Tryz.ntmps43
  go_wp2_with fail
  exact bodyPost_ret (v := .agg peerM.v.toArray) (results_cell_row (fn := Tryz.f43) (p := 0) rfl _ _ w.heap.size 23 _ (0, 0) _ rfl HS.out u23 rfl i23) rfl ⟨rfl, HB.out⟩
end Go.Proofs.YtijndpjdmiljkaaGreatDoor
