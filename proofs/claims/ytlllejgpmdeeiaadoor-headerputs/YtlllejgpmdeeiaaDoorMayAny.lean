/- What header.mayBePut answers: a contract. -/
import Derived.Test.YtlllejgpmdeeiaaDoorMay
namespace Go.Proofs.YtlllejgpmdeeiaaDoor
open Go.ChangeShapes Go.WideShapes Go.ChangeAt Go.RowKit
set_option linter.unusedVariables false

/-- may it be put, by its kind -/
def mayK (k len n : Int) (tn : Nat) (lst : List Int) : Prop :=
  (k = 0 ∧ tn ≤ 512 ∧ n ≤ len ∧ len ≤ 16383 ∧ 1 ≤ n ∧ n ≤ 4) ∨ ((k = 1 ∨ k = 2) ∧ n ≤ len ∧ len ≤ 16383 ∧ 1 ≤ n ∧ n ≤ 4) ∨ (k = 5 ∧ 1 ≤ n ∧ n ≤ 4) ∨ (k = 3 ∧ 0 < tn ∧ tn ≤ 512) ∨ (k = 4 ∧ 0 < lst.length ∧ lst.any noV = false)
def mayP (k len n : Int) (dn sn tn : Nat) (lst : List Int) : Prop := dn ≤ 20 ∧ (k = 5 ∨ sn ≤ 20) ∧ mayK k len n tn lst

set_option maxRecDepth 10000 in
set_option maxHeartbeats 400000 in
theorem may_0 (cs : Array Value) (ver len n : Int) (da sa ta la : Option Addr) (dn dc sn sc tn tc lc : Nat) (lst : List Int) (ph : Bool) (tg : List Value) (w : World)
    (hcs : cs = (hc 0 ver (.slice da dn dc) (.slice sa sn sc) (.slice ta tn tc) len ph (.slice la lst.length lc) tg).toArray) (h1 : dn ≤ 9223372036854775000) (h2 : sn ≤ 9223372036854775000) (h3 : tn ≤ 9223372036854775000) (h4 : lst.length ≤ 140737488355328) (hil : Il w la lst) (r : Bool) (hr : r = true ↔ mayP 0 len n dn sn tn lst) :
    Calls Tryd.prog 18 #[.agg cs, .int .i64 n] w fun e w' => e = .returned (.bool r) ∧ Below w.heap.size w w' := by
  have hrow := heap_alloc_new w (.cells cs 26)
  have c0 : (w.alloc (.cells cs 26)).cell? ⟨w.heap.size, 0, none⟩ = some (.int .i64 0) := by unfold World.cell?; rw [hrow, hcs]; rfl
  have c2 : (w.alloc (.cells cs 26)).cell? ⟨w.heap.size, 2, none⟩ = some (.slice da dn dc) := by unfold World.cell?; rw [hrow, hcs]; rfl
  have c3 : (w.alloc (.cells cs 26)).cell? ⟨w.heap.size, 3, none⟩ = some (.slice sa sn sc) := by unfold World.cell?; rw [hrow, hcs]; rfl
  have c4 : (w.alloc (.cells cs 26)).cell? ⟨w.heap.size, 4, none⟩ = some (.slice ta tn tc) := by unfold World.cell?; rw [hrow, hcs]; rfl
  have c5 : (w.alloc (.cells cs 26)).cell? ⟨w.heap.size, 5, none⟩ = some (.int .i64 len) := by unfold World.cell?; rw [hrow, hcs]; rfl
  have c7 : (w.alloc (.cells cs 26)).cell? ⟨w.heap.size, 7, none⟩ = some (.slice la lst.length lc) := by unfold World.cell?; rw [hrow, hcs]; rfl
  have HR := mkHid hr
  have HIL := mkHid (show Il (w.alloc (.cells cs 26)) la lst from fun j hj => by
    obtain ⟨b, off, he, hc⟩ := hil j hj
    exact ⟨b, off, he, (((Below.refl w.heap.size w).alloc (Nat.le_refl _) _).cell (p := ⟨b, off + j, none⟩) (World.block_lt_of_cell? w _ hc)).trans hc⟩)
  clear hrow hcs hr hil
  go_enter Tryd.func18, Tryd.ntmps18
  go_wp2
  all_goals
    go_ret
    refine ⟨ret_bool ?_, (Below.refl _ _).alloc (Nat.le_refl _) _⟩
    rw [Bool.eq_iff_iff, HR.out]
    unfold mayP mayK
    simp
    omega

set_option maxRecDepth 10000 in
set_option maxHeartbeats 400000 in
theorem may_1 (cs : Array Value) (ver len n : Int) (da sa ta la : Option Addr) (dn dc sn sc tn tc lc : Nat) (lst : List Int) (ph : Bool) (tg : List Value) (w : World)
    (hcs : cs = (hc 1 ver (.slice da dn dc) (.slice sa sn sc) (.slice ta tn tc) len ph (.slice la lst.length lc) tg).toArray) (h1 : dn ≤ 9223372036854775000) (h2 : sn ≤ 9223372036854775000) (h3 : tn ≤ 9223372036854775000) (h4 : lst.length ≤ 140737488355328) (hil : Il w la lst) (r : Bool) (hr : r = true ↔ mayP 1 len n dn sn tn lst) :
    Calls Tryd.prog 18 #[.agg cs, .int .i64 n] w fun e w' => e = .returned (.bool r) ∧ Below w.heap.size w w' := by
  have hrow := heap_alloc_new w (.cells cs 26)
  have c0 : (w.alloc (.cells cs 26)).cell? ⟨w.heap.size, 0, none⟩ = some (.int .i64 1) := by unfold World.cell?; rw [hrow, hcs]; rfl
  have c2 : (w.alloc (.cells cs 26)).cell? ⟨w.heap.size, 2, none⟩ = some (.slice da dn dc) := by unfold World.cell?; rw [hrow, hcs]; rfl
  have c3 : (w.alloc (.cells cs 26)).cell? ⟨w.heap.size, 3, none⟩ = some (.slice sa sn sc) := by unfold World.cell?; rw [hrow, hcs]; rfl
  have c4 : (w.alloc (.cells cs 26)).cell? ⟨w.heap.size, 4, none⟩ = some (.slice ta tn tc) := by unfold World.cell?; rw [hrow, hcs]; rfl
  have c5 : (w.alloc (.cells cs 26)).cell? ⟨w.heap.size, 5, none⟩ = some (.int .i64 len) := by unfold World.cell?; rw [hrow, hcs]; rfl
  have c7 : (w.alloc (.cells cs 26)).cell? ⟨w.heap.size, 7, none⟩ = some (.slice la lst.length lc) := by unfold World.cell?; rw [hrow, hcs]; rfl
  have HR := mkHid hr
  have HIL := mkHid (show Il (w.alloc (.cells cs 26)) la lst from fun j hj => by
    obtain ⟨b, off, he, hc⟩ := hil j hj
    exact ⟨b, off, he, (((Below.refl w.heap.size w).alloc (Nat.le_refl _) _).cell (p := ⟨b, off + j, none⟩) (World.block_lt_of_cell? w _ hc)).trans hc⟩)
  clear hrow hcs hr hil
  go_enter Tryd.func18, Tryd.ntmps18
  go_wp2
  all_goals
    go_ret
    refine ⟨ret_bool ?_, (Below.refl _ _).alloc (Nat.le_refl _) _⟩
    rw [Bool.eq_iff_iff, HR.out]
    unfold mayP mayK
    simp
    omega

set_option maxRecDepth 10000 in
set_option maxHeartbeats 400000 in
theorem may_2 (cs : Array Value) (ver len n : Int) (da sa ta la : Option Addr) (dn dc sn sc tn tc lc : Nat) (lst : List Int) (ph : Bool) (tg : List Value) (w : World)
    (hcs : cs = (hc 2 ver (.slice da dn dc) (.slice sa sn sc) (.slice ta tn tc) len ph (.slice la lst.length lc) tg).toArray) (h1 : dn ≤ 9223372036854775000) (h2 : sn ≤ 9223372036854775000) (h3 : tn ≤ 9223372036854775000) (h4 : lst.length ≤ 140737488355328) (hil : Il w la lst) (r : Bool) (hr : r = true ↔ mayP 2 len n dn sn tn lst) :
    Calls Tryd.prog 18 #[.agg cs, .int .i64 n] w fun e w' => e = .returned (.bool r) ∧ Below w.heap.size w w' := by
  have hrow := heap_alloc_new w (.cells cs 26)
  have c0 : (w.alloc (.cells cs 26)).cell? ⟨w.heap.size, 0, none⟩ = some (.int .i64 2) := by unfold World.cell?; rw [hrow, hcs]; rfl
  have c2 : (w.alloc (.cells cs 26)).cell? ⟨w.heap.size, 2, none⟩ = some (.slice da dn dc) := by unfold World.cell?; rw [hrow, hcs]; rfl
  have c3 : (w.alloc (.cells cs 26)).cell? ⟨w.heap.size, 3, none⟩ = some (.slice sa sn sc) := by unfold World.cell?; rw [hrow, hcs]; rfl
  have c4 : (w.alloc (.cells cs 26)).cell? ⟨w.heap.size, 4, none⟩ = some (.slice ta tn tc) := by unfold World.cell?; rw [hrow, hcs]; rfl
  have c5 : (w.alloc (.cells cs 26)).cell? ⟨w.heap.size, 5, none⟩ = some (.int .i64 len) := by unfold World.cell?; rw [hrow, hcs]; rfl
  have c7 : (w.alloc (.cells cs 26)).cell? ⟨w.heap.size, 7, none⟩ = some (.slice la lst.length lc) := by unfold World.cell?; rw [hrow, hcs]; rfl
  have HR := mkHid hr
  have HIL := mkHid (show Il (w.alloc (.cells cs 26)) la lst from fun j hj => by
    obtain ⟨b, off, he, hc⟩ := hil j hj
    exact ⟨b, off, he, (((Below.refl w.heap.size w).alloc (Nat.le_refl _) _).cell (p := ⟨b, off + j, none⟩) (World.block_lt_of_cell? w _ hc)).trans hc⟩)
  clear hrow hcs hr hil
  go_enter Tryd.func18, Tryd.ntmps18
  go_wp2
  all_goals
    go_ret
    refine ⟨ret_bool ?_, (Below.refl _ _).alloc (Nat.le_refl _) _⟩
    rw [Bool.eq_iff_iff, HR.out]
    unfold mayP mayK
    simp
    omega

set_option maxRecDepth 10000 in
set_option maxHeartbeats 400000 in
theorem may_5 (cs : Array Value) (ver len n : Int) (da sa ta la : Option Addr) (dn dc sn sc tn tc lc : Nat) (lst : List Int) (ph : Bool) (tg : List Value) (w : World)
    (hcs : cs = (hc 5 ver (.slice da dn dc) (.slice sa sn sc) (.slice ta tn tc) len ph (.slice la lst.length lc) tg).toArray) (h1 : dn ≤ 9223372036854775000) (h2 : sn ≤ 9223372036854775000) (h3 : tn ≤ 9223372036854775000) (h4 : lst.length ≤ 140737488355328) (hil : Il w la lst) (r : Bool) (hr : r = true ↔ mayP 5 len n dn sn tn lst) :
    Calls Tryd.prog 18 #[.agg cs, .int .i64 n] w fun e w' => e = .returned (.bool r) ∧ Below w.heap.size w w' := by
  have hrow := heap_alloc_new w (.cells cs 26)
  have c0 : (w.alloc (.cells cs 26)).cell? ⟨w.heap.size, 0, none⟩ = some (.int .i64 5) := by unfold World.cell?; rw [hrow, hcs]; rfl
  have c2 : (w.alloc (.cells cs 26)).cell? ⟨w.heap.size, 2, none⟩ = some (.slice da dn dc) := by unfold World.cell?; rw [hrow, hcs]; rfl
  have c3 : (w.alloc (.cells cs 26)).cell? ⟨w.heap.size, 3, none⟩ = some (.slice sa sn sc) := by unfold World.cell?; rw [hrow, hcs]; rfl
  have c4 : (w.alloc (.cells cs 26)).cell? ⟨w.heap.size, 4, none⟩ = some (.slice ta tn tc) := by unfold World.cell?; rw [hrow, hcs]; rfl
  have c5 : (w.alloc (.cells cs 26)).cell? ⟨w.heap.size, 5, none⟩ = some (.int .i64 len) := by unfold World.cell?; rw [hrow, hcs]; rfl
  have c7 : (w.alloc (.cells cs 26)).cell? ⟨w.heap.size, 7, none⟩ = some (.slice la lst.length lc) := by unfold World.cell?; rw [hrow, hcs]; rfl
  have HR := mkHid hr
  have HIL := mkHid (show Il (w.alloc (.cells cs 26)) la lst from fun j hj => by
    obtain ⟨b, off, he, hc⟩ := hil j hj
    exact ⟨b, off, he, (((Below.refl w.heap.size w).alloc (Nat.le_refl _) _).cell (p := ⟨b, off + j, none⟩) (World.block_lt_of_cell? w _ hc)).trans hc⟩)
  clear hrow hcs hr hil
  go_enter Tryd.func18, Tryd.ntmps18
  go_wp2
  all_goals
    go_ret
    refine ⟨ret_bool ?_, (Below.refl _ _).alloc (Nat.le_refl _) _⟩
    rw [Bool.eq_iff_iff, HR.out]
    unfold mayP mayK
    simp
    omega

set_option maxRecDepth 10000 in
set_option maxHeartbeats 400000 in
theorem may_3 (cs : Array Value) (ver len n : Int) (da sa ta la : Option Addr) (dn dc sn sc tn tc lc : Nat) (lst : List Int) (ph : Bool) (tg : List Value) (w : World)
    (hcs : cs = (hc 3 ver (.slice da dn dc) (.slice sa sn sc) (.slice ta tn tc) len ph (.slice la lst.length lc) tg).toArray) (h1 : dn ≤ 9223372036854775000) (h2 : sn ≤ 9223372036854775000) (h3 : tn ≤ 9223372036854775000) (h4 : lst.length ≤ 140737488355328) (hil : Il w la lst) (r : Bool) (hr : r = true ↔ mayP 3 len n dn sn tn lst) :
    Calls Tryd.prog 18 #[.agg cs, .int .i64 n] w fun e w' => e = .returned (.bool r) ∧ Below w.heap.size w w' := by
  have hrow := heap_alloc_new w (.cells cs 26)
  have c0 : (w.alloc (.cells cs 26)).cell? ⟨w.heap.size, 0, none⟩ = some (.int .i64 3) := by unfold World.cell?; rw [hrow, hcs]; rfl
  have c2 : (w.alloc (.cells cs 26)).cell? ⟨w.heap.size, 2, none⟩ = some (.slice da dn dc) := by unfold World.cell?; rw [hrow, hcs]; rfl
  have c3 : (w.alloc (.cells cs 26)).cell? ⟨w.heap.size, 3, none⟩ = some (.slice sa sn sc) := by unfold World.cell?; rw [hrow, hcs]; rfl
  have c4 : (w.alloc (.cells cs 26)).cell? ⟨w.heap.size, 4, none⟩ = some (.slice ta tn tc) := by unfold World.cell?; rw [hrow, hcs]; rfl
  have c5 : (w.alloc (.cells cs 26)).cell? ⟨w.heap.size, 5, none⟩ = some (.int .i64 len) := by unfold World.cell?; rw [hrow, hcs]; rfl
  have c7 : (w.alloc (.cells cs 26)).cell? ⟨w.heap.size, 7, none⟩ = some (.slice la lst.length lc) := by unfold World.cell?; rw [hrow, hcs]; rfl
  have HR := mkHid hr
  have HIL := mkHid (show Il (w.alloc (.cells cs 26)) la lst from fun j hj => by
    obtain ⟨b, off, he, hc⟩ := hil j hj
    exact ⟨b, off, he, (((Below.refl w.heap.size w).alloc (Nat.le_refl _) _).cell (p := ⟨b, off + j, none⟩) (World.block_lt_of_cell? w _ hc)).trans hc⟩)
  clear hrow hcs hr hil
  by_cases hd : dn ≤ 20 ∧ sn ≤ 20
  · obtain ⟨hd1, hd2⟩ := hd
    go_enter Tryd.func18, Tryd.ntmps18
    go_wp2_with fail
    refine (retryToken_any ta tn tc _ h3).mono ?_
    rintro e w' ⟨rfl, rfl⟩
    generalize hq : decide (0 < tn ∧ tn ≤ 512) = q
    have HQ := mkHid hq
    clear hq
    go_wp2
    go_ret
    refine ⟨ret_bool ?_, (Below.refl _ _).alloc (Nat.le_refl _) _⟩
    rw [Bool.eq_iff_iff, HR.out]
    unfold mayP mayK
    rw [← HQ.out, decide_eq_true_eq]
    omega
  · by_cases hd1 : dn ≤ 20
    · have hd2 : 20 < sn := by omega
      clear hd
      go_enter Tryd.func18, Tryd.ntmps18
      go_wp2
      go_ret
      refine ⟨ret_bool ?_, (Below.refl _ _).alloc (Nat.le_refl _) _⟩
      rw [Bool.eq_iff_iff, HR.out]
      unfold mayP mayK
      simp
      omega
    · clear hd
      go_enter Tryd.func18, Tryd.ntmps18
      go_wp2
      go_ret
      refine ⟨ret_bool ?_, (Below.refl _ _).alloc (Nat.le_refl _) _⟩
      rw [Bool.eq_iff_iff, HR.out]
      unfold mayP mayK
      simp
      omega
set_option maxRecDepth 10000 in
set_option maxHeartbeats 400000 in
theorem may_4 (cs : Array Value) (ver len n : Int) (da sa ta la : Option Addr) (dn dc sn sc tn tc lc : Nat) (lst : List Int) (ph : Bool) (tg : List Value) (w : World)
    (hcs : cs = (hc 4 ver (.slice da dn dc) (.slice sa sn sc) (.slice ta tn tc) len ph (.slice la lst.length lc) tg).toArray) (h1 : dn ≤ 9223372036854775000) (h2 : sn ≤ 9223372036854775000) (h3 : tn ≤ 9223372036854775000) (h4 : lst.length ≤ 140737488355328) (hil : Il w la lst) (r : Bool) (hr : r = true ↔ mayP 4 len n dn sn tn lst) :
    Calls Tryd.prog 18 #[.agg cs, .int .i64 n] w fun e w' => e = .returned (.bool r) ∧ Below w.heap.size w w' := by
  have hrow := heap_alloc_new w (.cells cs 26)
  have c0 : (w.alloc (.cells cs 26)).cell? ⟨w.heap.size, 0, none⟩ = some (.int .i64 4) := by unfold World.cell?; rw [hrow, hcs]; rfl
  have c2 : (w.alloc (.cells cs 26)).cell? ⟨w.heap.size, 2, none⟩ = some (.slice da dn dc) := by unfold World.cell?; rw [hrow, hcs]; rfl
  have c3 : (w.alloc (.cells cs 26)).cell? ⟨w.heap.size, 3, none⟩ = some (.slice sa sn sc) := by unfold World.cell?; rw [hrow, hcs]; rfl
  have c4 : (w.alloc (.cells cs 26)).cell? ⟨w.heap.size, 4, none⟩ = some (.slice ta tn tc) := by unfold World.cell?; rw [hrow, hcs]; rfl
  have c5 : (w.alloc (.cells cs 26)).cell? ⟨w.heap.size, 5, none⟩ = some (.int .i64 len) := by unfold World.cell?; rw [hrow, hcs]; rfl
  have c7 : (w.alloc (.cells cs 26)).cell? ⟨w.heap.size, 7, none⟩ = some (.slice la lst.length lc) := by unfold World.cell?; rw [hrow, hcs]; rfl
  have HR := mkHid hr
  have HIL := mkHid (show Il (w.alloc (.cells cs 26)) la lst from fun j hj => by
    obtain ⟨b, off, he, hc⟩ := hil j hj
    exact ⟨b, off, he, (((Below.refl w.heap.size w).alloc (Nat.le_refl _) _).cell (p := ⟨b, off + j, none⟩) (World.block_lt_of_cell? w _ hc)).trans hc⟩)
  clear hrow hcs hr hil
  by_cases hd : dn ≤ 20 ∧ sn ≤ 20 ∧ 0 < lst.length
  · obtain ⟨hd1, hd2, hd3⟩ := hd
    go_enter Tryd.func18, Tryd.ntmps18
    go_wp2_with fail
    refine (contains_any la lst lc _ HIL.out h4).mono ?_
    rintro e w' ⟨rfl, rfl⟩
    generalize hq : lst.any noV = q
    have HQ := mkHid hq
    clear hq
    go_wp2
    go_ret
    refine ⟨ret_bool ?_, (Below.refl _ _).alloc (Nat.le_refl _) _⟩
    rw [Bool.eq_iff_iff, HR.out]
    unfold mayP mayK
    rw [HQ.out]
    cases q <;> simp <;> omega
  · by_cases hd1 : dn ≤ 20
    · by_cases hd2 : sn ≤ 20
      · have hd3 : lst.length = 0 := by omega
        clear hd
        go_enter Tryd.func18, Tryd.ntmps18
        go_wp2
        go_ret
        refine ⟨ret_bool ?_, (Below.refl _ _).alloc (Nat.le_refl _) _⟩
        rw [Bool.eq_iff_iff, HR.out]
        unfold mayP mayK
        simp
        omega
      · clear hd
        go_enter Tryd.func18, Tryd.ntmps18
        go_wp2
        go_ret
        refine ⟨ret_bool ?_, (Below.refl _ _).alloc (Nat.le_refl _) _⟩
        rw [Bool.eq_iff_iff, HR.out]
        unfold mayP mayK
        simp
        omega
    · clear hd
      go_enter Tryd.func18, Tryd.ntmps18
      go_wp2
      go_ret
      refine ⟨ret_bool ?_, (Below.refl _ _).alloc (Nat.le_refl _) _⟩
      rw [Bool.eq_iff_iff, HR.out]
      unfold mayP mayK
      simp
      omega
set_option maxRecDepth 10000 in
set_option maxHeartbeats 400000 in
theorem may_x (k : Int) (cs : Array Value) (ver len n : Int) (da sa ta la : Option Addr) (dn dc sn sc tn tc lc : Nat) (lst : List Int) (ph : Bool) (tg : List Value) (w : World)
    (hcs : cs = (hc k ver (.slice da dn dc) (.slice sa sn sc) (.slice ta tn tc) len ph (.slice la lst.length lc) tg).toArray) (h1 : dn ≤ 9223372036854775000) (h2 : sn ≤ 9223372036854775000) (h3 : tn ≤ 9223372036854775000) (h4 : lst.length ≤ 140737488355328) (hil : Il w la lst) (r : Bool) (hr : r = true ↔ mayP k len n dn sn tn lst) (hk : k ≠ 0 ∧ k ≠ 1 ∧ k ≠ 2 ∧ k ≠ 3 ∧ k ≠ 4 ∧ k ≠ 5) :
    Calls Tryd.prog 18 #[.agg cs, .int .i64 n] w fun e w' => e = .returned (.bool r) ∧ Below w.heap.size w w' := by
  have hrow := heap_alloc_new w (.cells cs 26)
  have c0 : (w.alloc (.cells cs 26)).cell? ⟨w.heap.size, 0, none⟩ = some (.int .i64 k) := by unfold World.cell?; rw [hrow, hcs]; rfl
  have c2 : (w.alloc (.cells cs 26)).cell? ⟨w.heap.size, 2, none⟩ = some (.slice da dn dc) := by unfold World.cell?; rw [hrow, hcs]; rfl
  have c3 : (w.alloc (.cells cs 26)).cell? ⟨w.heap.size, 3, none⟩ = some (.slice sa sn sc) := by unfold World.cell?; rw [hrow, hcs]; rfl
  have c4 : (w.alloc (.cells cs 26)).cell? ⟨w.heap.size, 4, none⟩ = some (.slice ta tn tc) := by unfold World.cell?; rw [hrow, hcs]; rfl
  have c5 : (w.alloc (.cells cs 26)).cell? ⟨w.heap.size, 5, none⟩ = some (.int .i64 len) := by unfold World.cell?; rw [hrow, hcs]; rfl
  have c7 : (w.alloc (.cells cs 26)).cell? ⟨w.heap.size, 7, none⟩ = some (.slice la lst.length lc) := by unfold World.cell?; rw [hrow, hcs]; rfl
  have HR := mkHid hr
  have HIL := mkHid (show Il (w.alloc (.cells cs 26)) la lst from fun j hj => by
    obtain ⟨b, off, he, hc⟩ := hil j hj
    exact ⟨b, off, he, (((Below.refl w.heap.size w).alloc (Nat.le_refl _) _).cell (p := ⟨b, off + j, none⟩) (World.block_lt_of_cell? w _ hc)).trans hc⟩)
  clear hrow hcs hr hil
  obtain ⟨k0, k1, k2, k3, k4, k5⟩ := hk
  have q0 : (k == 0) = false := by simp [k0]
  have q1 : (k == 1) = false := by simp [k1]
  have q2 : (k == 2) = false := by simp [k2]
  have q3 : (k == 3) = false := by simp [k3]
  have q4 : (k == 4) = false := by simp [k4]
  have q5 : (k == 5) = false := by simp [k5]
  go_enter Tryd.func18, Tryd.ntmps18
  go_wp2
  all_goals
    go_ret
    refine ⟨ret_bool ?_, (Below.refl _ _).alloc (Nat.le_refl _) _⟩
    rw [Bool.eq_iff_iff, HR.out]
    unfold mayP mayK
    simp
    omega

theorem may_any (k : Int) (cs : Array Value) (ver len n : Int) (da sa ta la : Option Addr) (dn dc sn sc tn tc lc : Nat) (lst : List Int) (ph : Bool) (tg : List Value) (w : World)
    (hcs : cs = (hc k ver (.slice da dn dc) (.slice sa sn sc) (.slice ta tn tc) len ph (.slice la lst.length lc) tg).toArray) (h1 : dn ≤ 9223372036854775000) (h2 : sn ≤ 9223372036854775000) (h3 : tn ≤ 9223372036854775000) (h4 : lst.length ≤ 140737488355328) (hil : Il w la lst) (r : Bool) (hr : r = true ↔ mayP k len n dn sn tn lst) :
    Calls Tryd.prog 18 #[.agg cs, .int .i64 n] w fun e w' => e = .returned (.bool r) ∧ Below w.heap.size w w' := by
  by_cases e0 : k = 0
  · subst e0; exact may_0 cs ver len n da sa ta la dn dc sn sc tn tc lc lst ph tg w hcs h1 h2 h3 h4 hil r hr
  · by_cases e1 : k = 1
    · subst e1; exact may_1 cs ver len n da sa ta la dn dc sn sc tn tc lc lst ph tg w hcs h1 h2 h3 h4 hil r hr
    · by_cases e2 : k = 2
      · subst e2; exact may_2 cs ver len n da sa ta la dn dc sn sc tn tc lc lst ph tg w hcs h1 h2 h3 h4 hil r hr
      · by_cases e3 : k = 3
        · subst e3; exact may_3 cs ver len n da sa ta la dn dc sn sc tn tc lc lst ph tg w hcs h1 h2 h3 h4 hil r hr
        · by_cases e4 : k = 4
          · subst e4; exact may_4 cs ver len n da sa ta la dn dc sn sc tn tc lc lst ph tg w hcs h1 h2 h3 h4 hil r hr
          · by_cases e5 : k = 5
            · subst e5; exact may_5 cs ver len n da sa ta la dn dc sn sc tn tc lc lst ph tg w hcs h1 h2 h3 h4 hil r hr
            · exact may_x k cs ver len n da sa ta la dn dc sn sc tn tc lc lst ph tg w hcs h1 h2 h3 h4 hil r hr ⟨e0, e1, e2, e3, e4, e5⟩
end Go.Proofs.YtlllejgpmdeeiaaDoor
