/- frame.mayBe, standing, isKind, of any frame. -/
import Derived.Test.YtaeapgkfmofjlaaDoorSl
import Derived.Laws.Rows
import Derived.Laws.Tables
namespace Go.Proofs.YtaeapgkfmofjlaaDoor
open Go.ChangeShapes Go.WideShapes Go.ChangeAt Go.RowKit
set_option linter.unusedVariables false
set_option maxRecDepth 100000

def mayB (a : Fa) : Bool :=
  if a.k = 0 then decide (1 ≤ a.cnt)
  else if a.k = 6 ∨ a.k = 8 then decide (a.o ≤ 4611686018427387903 - (a.D.length : Int))
  else if a.k = 7 then decide (0 < a.D.length)
  else if a.k = 18 ∨ a.k = 19 ∨ a.k = 22 ∨ a.k = 23 then decide (a.lim ≤ 1152921504606846976)
  else if a.k = 24 then decide (a.ret ≤ a.seq) && decide (1 ≤ a.I.length) && decide (a.I.length ≤ 20)
  else true
/-- A frame's cells are one each. -/
structure On (f : Fr) (d : Da) : Prop where
  vD : f.D = .slice d.oD d.D.length d.cD
  vA : f.A = .slice d.oA d.A.length d.cA
  vI : f.I = .slice d.oI d.I.length d.cI
  vR : f.rs = bc d.R
  vT : f.pt = bc d.T
  r16 : d.R.length = 16
  t8 : d.T.length = 8
  lD : d.D.length ≤ 9223372036854775807
  lI : d.I.length ≤ 9223372036854775807
theorem On.one {f : Fr} {d : Da} (h : On f d) : f.cells.toArray.all (·.oneCell') = true := by
  rw [List.all_toArray]
  unfold Fr.cells
  rw [h.vD, h.vA, h.vI, h.vR, h.vT]
  have h1 : (bc d.R).all (·.oneCell') = true := List.all_eq_true.2 (bc_one d.R)
  have h2 : (bc d.T).all (·.oneCell') = true := List.all_eq_true.2 (bc_one d.T)
  simp only [List.all_append, h1, h2]
  rfl
theorem On.size {f : Fr} {d : Da} (h : On f d) : f.cells.length = 42 := by simp [Fr.cells, h.vR, h.vT, bc_length, h.r16, h.t8]
theorem On.c41 {f : Fr} {d : Da} (h : On f d) : f.cells[41]? = some (.int .i64 f.cnt) := Fr.cnt41 (by rw [h.vR, bc_length, h.r16]) (by rw [h.vT, bc_length, h.t8])
theorem i28s : (Tryd.prog.info? 28).map (·.size) = some 42 := by kernel_rfl
theorem hu28 : Tryd.prog.underlying 28 = some (.struct (Tryd.prog.fieldsOf 28)) := by kernel_rfl
set_option maxHeartbeats 2000000 in
theorem mayBe_c (f : Fr) (d : Da) (w : World) (h : On f d) : Calls Tryd.prog 19 #[.agg f.cells.toArray] w fun e w' => e = .returned (.bool (mayB (ab f d))) ∧ Below w.heap.size w w' := by
  have hn0 : Fm (w.alloc (.cells f.cells.toArray 28)) w.heap.size f := heap_alloc_new w _
  have c0 := hn0.at 0 _ (show f.cells[0]? = some (.int .i64 f.k) from rfl)
  have c2 := hn0.at 2 _ (show f.cells[2]? = some (.int .i64 f.o) from rfl)
  have c3 := hn0.at 3 _ (show f.cells[3]? = some f.D from rfl)
  have c6 := hn0.at 6 _ (show f.cells[6]? = some (.int .i64 f.lim) from rfl)
  have c14 := hn0.at 14 _ (show f.cells[14]? = some (.int .i64 f.seq) from rfl)
  have c15 := hn0.at 15 _ (show f.cells[15]? = some (.int .i64 f.ret) from rfl)
  have c16 := hn0.at 16 _ (show f.cells[16]? = some f.I from rfl)
  have c41 := hn0.at 41 _ h.c41
  rw [h.vD] at c3
  rw [h.vI] at c16
  have lD := h.lD
  have lI := h.lI
  have HE : Aside (mayB (ab f d) = if f.k = 0 then decide (1 ≤ f.cnt)
    else if f.k = 6 ∨ f.k = 8 then decide (f.o ≤ 4611686018427387903 - (d.D.length : Int))
    else if f.k = 7 then decide (0 < d.D.length)
    else if f.k = 18 ∨ f.k = 19 ∨ f.k = 22 ∨ f.k = 23 then decide (f.lim ≤ 1152921504606846976)
    else if f.k = 24 then decide (f.ret ≤ f.seq) && decide (1 ≤ d.I.length) && decide (d.I.length ≤ 20)
    else true) := rfl
  generalize mayB (ab f d) = E at *
  have HB : Aside (Below w.heap.size w (w.alloc (.cells f.cells.toArray 28))) := bel1 w _
  obtain ⟨W1, hW1⟩ : ∃ W1, w.alloc (.cells f.cells.toArray 28) = W1 := ⟨_, rfl⟩
  rw [hW1] at c0 c2 c3 c6 c14 c15 c16 c41 HB
  clear hn0 h
  generalize f.cells.toArray = X at *
  obtain ⟨nD, hnD⟩ : ∃ n, d.D.length = n := ⟨_, rfl⟩
  obtain ⟨nI, hnI⟩ : ∃ n, d.I.length = n := ⟨_, rfl⟩
  rw [hnD] at c3 HE lD
  rw [hnI] at c16 HE lI
  clear hnD hnI
  generalize f.k = k at *
  generalize f.cnt = cnt at *
  generalize f.o = o at *
  generalize f.lim = lim at *
  generalize f.seq = seq at *
  generalize f.ret = ret at *
  have i1 : IntKind.i64.wrap (4611686018427387903 - (nD : Int)) = 4611686018427387903 - (nD : Int) := wrp _ (by omega) (by omega)
  by_cases k0 : k = 0
  · subst k0
    obtain rfl : E = decide (1 ≤ cnt) := HE.out
    clear HE
    go_enter Tryd.func19, Tryd.ntmps19
    go_wp2
    go_ret
    exact ⟨by simp, HB.out⟩
  by_cases k6 : k = 6
  · subst k6
    obtain rfl : E = decide (o ≤ 4611686018427387903 - (nD : Int)) := HE.out
    clear HE
    go_enter Tryd.func19, Tryd.ntmps19
    go_wp2
    go_ret
    exact ⟨by simp, HB.out⟩
  by_cases k8 : k = 8
  · subst k8
    obtain rfl : E = decide (o ≤ 4611686018427387903 - (nD : Int)) := HE.out
    clear HE
    go_enter Tryd.func19, Tryd.ntmps19
    go_wp2
    go_ret
    exact ⟨by simp, HB.out⟩
  by_cases k7 : k = 7
  · subst k7
    obtain rfl : E = decide (0 < nD) := HE.out
    clear HE
    go_enter Tryd.func19, Tryd.ntmps19
    go_wp2
    go_ret
    exact ⟨by simp, HB.out⟩
  by_cases k18 : k = 18
  · subst k18
    obtain rfl : E = decide (lim ≤ 1152921504606846976) := HE.out
    clear HE
    go_enter Tryd.func19, Tryd.ntmps19
    go_wp2
    go_ret
    exact ⟨by simp, HB.out⟩
  by_cases k19 : k = 19
  · subst k19
    obtain rfl : E = decide (lim ≤ 1152921504606846976) := HE.out
    clear HE
    go_enter Tryd.func19, Tryd.ntmps19
    go_wp2
    go_ret
    exact ⟨by simp, HB.out⟩
  by_cases k22 : k = 22
  · subst k22
    obtain rfl : E = decide (lim ≤ 1152921504606846976) := HE.out
    clear HE
    go_enter Tryd.func19, Tryd.ntmps19
    go_wp2
    go_ret
    exact ⟨by simp, HB.out⟩
  by_cases k23 : k = 23
  · subst k23
    obtain rfl : E = decide (lim ≤ 1152921504606846976) := HE.out
    clear HE
    go_enter Tryd.func19, Tryd.ntmps19
    go_wp2
    go_ret
    exact ⟨by simp, HB.out⟩
  by_cases k24 : k = 24
  · subst k24
    have hE : E = (decide (ret ≤ seq) && decide (1 ≤ nI) && decide (nI ≤ 20)) := HE.out
    clear HE
    by_cases h1 : ret ≤ seq
    · by_cases h2 : (1 : Int) ≤ (nI : Int)
      · by_cases h3 : (nI : Int) ≤ 20
        · obtain rfl : E = true := by rw [hE, decide_eq_true h1, decide_eq_true (by omega), decide_eq_true (by omega)]; rfl
          clear hE
          go_enter Tryd.func19, Tryd.ntmps19
          go_wp2
          go_ret
          exact ⟨by simp, HB.out⟩
        · obtain rfl : E = false := by rw [hE, decide_eq_false (show ¬ nI ≤ 20 by omega)]; simp
          clear hE
          go_enter Tryd.func19, Tryd.ntmps19
          go_wp2
          go_ret
          exact ⟨by simp, HB.out⟩
      · obtain rfl : E = false := by rw [hE, decide_eq_false (show ¬ 1 ≤ nI by omega)]; simp
        clear hE
        go_enter Tryd.func19, Tryd.ntmps19
        go_wp2
        go_ret
        exact ⟨by simp, HB.out⟩
    · obtain rfl : E = false := by rw [hE, decide_eq_false h1]; simp
      clear hE
      go_enter Tryd.func19, Tryd.ntmps19
      go_wp2
      go_ret
      exact ⟨by simp, HB.out⟩
  · obtain rfl : E = true := by rw [HE.out, if_neg k0, if_neg (by omega), if_neg k7, if_neg (by omega), if_neg k24]
    have q0 : (k == 0) = false := by simpa using k0
    have q6 : (k == 6) = false := by simpa using k6
    have q7 : (k == 7) = false := by simpa using k7
    have q8 : (k == 8) = false := by simpa using k8
    have q18 : (k == 18) = false := by simpa using k18
    have q19 : (k == 19) = false := by simpa using k19
    have q22 : (k == 22) = false := by simpa using k22
    have q23 : (k == 23) = false := by simpa using k23
    have q24 : (k == 24) = false := by simpa using k24
    clear HE k0 k6 k7 k8 k18 k19 k22 k23 k24
    go_enter Tryd.func19, Tryd.ntmps19
    go_wp2
    go_ret
    exact ⟨by simp, HB.out⟩
def stB (a : Fa) : Int := if a.k = 8 then 8 + (if a.o = 0 then 0 else 4) + (if a.len = true then 2 else 0) + (if a.fin = true then 1 else 0) else a.k
theorem standing_c (f : Fr) (d : Da) (w : World) (h : On f d) : Calls Tryd.prog 20 #[.agg f.cells.toArray] w fun e w' => e = .returned (.int .i64 (stB (ab f d))) ∧ Below w.heap.size w w' := by
  have hn0 : Fm (w.alloc (.cells f.cells.toArray 28)) w.heap.size f := heap_alloc_new w _
  have c0 := hn0.at 0 _ (show f.cells[0]? = some (.int .i64 f.k) from rfl)
  have c2 := hn0.at 2 _ (show f.cells[2]? = some (.int .i64 f.o) from rfl)
  have c4 := hn0.at 4 _ (show f.cells[4]? = some (.bool f.fin) from rfl)
  have c5 := hn0.at 5 _ (show f.cells[5]? = some (.bool f.len) from rfl)
  have HE : Aside (stB (ab f d) = if f.k = 8 then 8 + (if f.o = 0 then 0 else 4) + (if f.len = true then 2 else 0) + (if f.fin = true then 1 else 0) else f.k) := rfl
  generalize stB (ab f d) = E at *
  have HB : Aside (Below w.heap.size w (w.alloc (.cells f.cells.toArray 28))) := bel1 w _
  obtain ⟨W1, hW1⟩ : ∃ W1, w.alloc (.cells f.cells.toArray 28) = W1 := ⟨_, rfl⟩
  rw [hW1] at c0 c2 c4 c5 HB
  clear hn0 h
  generalize f.cells.toArray = X at *
  generalize f.k = k at *
  generalize f.o = o at *
  generalize f.len = ln at *
  generalize f.fin = fin at *
  have b84 : bits .or .i64 8 4 = 12 := by decide
  have b82 : bits .or .i64 8 2 = 10 := by decide
  have b81 : bits .or .i64 8 1 = 9 := by decide
  have b122 : bits .or .i64 12 2 = 14 := by decide
  have b121 : bits .or .i64 12 1 = 13 := by decide
  have b101 : bits .or .i64 10 1 = 11 := by decide
  have b141 : bits .or .i64 14 1 = 15 := by decide
  by_cases k8 : k = 8
  · subst k8
    by_cases ho : o = 0
    · subst ho
      cases ln <;> cases fin
      all_goals
        obtain rfl := HE.out
        clear HE
        go_enter Tryd.func20, Tryd.ntmps20
        go_wp2
        go_ret
        exact ⟨rfl, HB.out⟩
    · have ho' : (o == 0) = false := by simpa using ho
      cases ln <;> cases fin
      all_goals
        have hE := HE.out
        rw [if_pos rfl, if_neg ho] at hE
        obtain rfl := hE
        clear HE ho
        go_enter Tryd.func20, Tryd.ntmps20
        go_wp2
        go_ret
        exact ⟨rfl, HB.out⟩
  · have hE := HE.out
    rw [if_neg k8] at hE
    have k8' : (k == 8) = false := by simpa using k8
    clear HE k8
    subst hE
    go_enter Tryd.func20, Tryd.ntmps20
    go_wp2
    go_ret
    exact ⟨rfl, HB.out⟩
def isKd (k : Int) : Bool := decide (0 ≤ k ∧ k ≤ 30) || decide (k = 48) || decide (k = 49)
theorem isKind_c (k : Int) (w : World) : Calls Tryd.prog 17 #[.int .i64 k] w fun e w' => e = .returned (.bool (isKd k)) ∧ w' = w := by
  by_cases h0 : 0 ≤ k
  · by_cases h30 : k ≤ 30
    · have hE : isKd k = true := by simp [isKd, h0, h30]
      rw [hE]
      go_enter Tryd.func17, Tryd.ntmps17
      go_wp2
      go_ret
      exact ⟨rfl, rfl⟩
    · by_cases h48 : k = 48
      · subst h48
        go_enter Tryd.func17, Tryd.ntmps17
        go_wp2
        go_ret
        exact ⟨rfl, rfl⟩
      · by_cases h49 : k = 49
        · subst h49
          go_enter Tryd.func17, Tryd.ntmps17
          go_wp2
          go_ret
          exact ⟨rfl, rfl⟩
        · have hE : isKd k = false := by simp [isKd, h30, h48, h49]
          rw [hE]
          have q48 : (k == 48) = false := by simpa using h48
          have q49 : (k == 49) = false := by simpa using h49
          go_enter Tryd.func17, Tryd.ntmps17
          go_wp2
          go_ret
          exact ⟨rfl, rfl⟩
  · have hE : isKd k = false := by simp [isKd]; omega
    rw [hE]
    have q48 : (k == 48) = false := by simp; omega
    have q49 : (k == 49) = false := by simp; omega
    go_enter Tryd.func17, Tryd.ntmps17
    go_wp2
    go_ret
    exact ⟨rfl, rfl⟩
end Go.Proofs.YtaeapgkfmofjlaaDoor
