/- What caravelref02.may answers: contracts. -/
import Derived.Test.YtlllejgpmdeeiaaDoorMayAny
namespace Go.Proofs.YtlllejgpmdeeiaaDoor
open Go.ChangeShapes Go.WideShapes Go.ChangeAt Go.RowKit
set_option linter.unusedVariables false

set_option maxRecDepth 10000 in
set_option maxHeartbeats 1000000 in
theorem rmay_0 (cs : Array Value) (ver len n : Int) (da sa ta la : Option Addr) (dn dc sn sc tn tc lc : Nat) (lst : List Int) (ph : Bool) (tg : List Value) (w : World)
    (hcs : cs = (hc 0 ver (.slice da dn dc) (.slice sa sn sc) (.slice ta tn tc) len ph (.slice la lst.length lc) tg).toArray) (h1 : dn ≤ 9223372036854775000) (h2 : sn ≤ 9223372036854775000) (h3 : tn ≤ 9223372036854775000) (h4 : lst.length ≤ 140737488355328) (hil : Il w la lst) (r : Bool) (hr : r = true ↔ mayP 0 len n dn sn tn lst) :
    Calls Tryd.prog 24 #[.agg cs, .int .i64 n] w fun e w' => e = .returned (.bool r) ∧ Below w.heap.size w w' := by
  have hrow := heap_alloc_new w (.cells cs 33)
  have c0 : (w.alloc (.cells cs 33)).cell? ⟨w.heap.size, 0, none⟩ = some (.int .i64 0) := by unfold World.cell?; rw [hrow, hcs]; rfl
  have c2 : (w.alloc (.cells cs 33)).cell? ⟨w.heap.size, 2, none⟩ = some (.slice da dn dc) := by unfold World.cell?; rw [hrow, hcs]; rfl
  have c3 : (w.alloc (.cells cs 33)).cell? ⟨w.heap.size, 3, none⟩ = some (.slice sa sn sc) := by unfold World.cell?; rw [hrow, hcs]; rfl
  have c4 : (w.alloc (.cells cs 33)).cell? ⟨w.heap.size, 4, none⟩ = some (.slice ta tn tc) := by unfold World.cell?; rw [hrow, hcs]; rfl
  have c5 : (w.alloc (.cells cs 33)).cell? ⟨w.heap.size, 5, none⟩ = some (.int .i64 len) := by unfold World.cell?; rw [hrow, hcs]; rfl
  have c7 : (w.alloc (.cells cs 33)).cell? ⟨w.heap.size, 7, none⟩ = some (.slice la lst.length lc) := by unfold World.cell?; rw [hrow, hcs]; rfl
  have HR := mkHid hr
  have HIL := mkHid (show Il (w.alloc (.cells cs 33)) la lst from fun j hj => by
    obtain ⟨b, off, he, hc⟩ := hil j hj
    exact ⟨b, off, he, (((Below.refl w.heap.size w).alloc (Nat.le_refl _) _).cell (p := ⟨b, off + j, none⟩) (World.block_lt_of_cell? w _ hc)).trans hc⟩)
  clear hrow hcs hr hil
  go_enter Tryd.func24, Tryd.ntmps24
  go_wp2
  all_goals
    go_ret
    refine ⟨ret_bool ?_, (Below.refl _ _).alloc (Nat.le_refl _) _⟩
    rw [Bool.eq_iff_iff, HR.out]
    unfold mayP mayK
    simp
    omega

set_option maxRecDepth 10000 in
set_option maxHeartbeats 1000000 in
theorem rmay_1 (cs : Array Value) (ver len n : Int) (da sa ta la : Option Addr) (dn dc sn sc tn tc lc : Nat) (lst : List Int) (ph : Bool) (tg : List Value) (w : World)
    (hcs : cs = (hc 1 ver (.slice da dn dc) (.slice sa sn sc) (.slice ta tn tc) len ph (.slice la lst.length lc) tg).toArray) (h1 : dn ≤ 9223372036854775000) (h2 : sn ≤ 9223372036854775000) (h3 : tn ≤ 9223372036854775000) (h4 : lst.length ≤ 140737488355328) (hil : Il w la lst) (r : Bool) (hr : r = true ↔ mayP 1 len n dn sn tn lst) :
    Calls Tryd.prog 24 #[.agg cs, .int .i64 n] w fun e w' => e = .returned (.bool r) ∧ Below w.heap.size w w' := by
  have hrow := heap_alloc_new w (.cells cs 33)
  have c0 : (w.alloc (.cells cs 33)).cell? ⟨w.heap.size, 0, none⟩ = some (.int .i64 1) := by unfold World.cell?; rw [hrow, hcs]; rfl
  have c2 : (w.alloc (.cells cs 33)).cell? ⟨w.heap.size, 2, none⟩ = some (.slice da dn dc) := by unfold World.cell?; rw [hrow, hcs]; rfl
  have c3 : (w.alloc (.cells cs 33)).cell? ⟨w.heap.size, 3, none⟩ = some (.slice sa sn sc) := by unfold World.cell?; rw [hrow, hcs]; rfl
  have c4 : (w.alloc (.cells cs 33)).cell? ⟨w.heap.size, 4, none⟩ = some (.slice ta tn tc) := by unfold World.cell?; rw [hrow, hcs]; rfl
  have c5 : (w.alloc (.cells cs 33)).cell? ⟨w.heap.size, 5, none⟩ = some (.int .i64 len) := by unfold World.cell?; rw [hrow, hcs]; rfl
  have c7 : (w.alloc (.cells cs 33)).cell? ⟨w.heap.size, 7, none⟩ = some (.slice la lst.length lc) := by unfold World.cell?; rw [hrow, hcs]; rfl
  have HR := mkHid hr
  have HIL := mkHid (show Il (w.alloc (.cells cs 33)) la lst from fun j hj => by
    obtain ⟨b, off, he, hc⟩ := hil j hj
    exact ⟨b, off, he, (((Below.refl w.heap.size w).alloc (Nat.le_refl _) _).cell (p := ⟨b, off + j, none⟩) (World.block_lt_of_cell? w _ hc)).trans hc⟩)
  clear hrow hcs hr hil
  go_enter Tryd.func24, Tryd.ntmps24
  go_wp2
  all_goals
    go_ret
    refine ⟨ret_bool ?_, (Below.refl _ _).alloc (Nat.le_refl _) _⟩
    rw [Bool.eq_iff_iff, HR.out]
    unfold mayP mayK
    simp
    omega

set_option maxRecDepth 10000 in
set_option maxHeartbeats 1000000 in
theorem rmay_2 (cs : Array Value) (ver len n : Int) (da sa ta la : Option Addr) (dn dc sn sc tn tc lc : Nat) (lst : List Int) (ph : Bool) (tg : List Value) (w : World)
    (hcs : cs = (hc 2 ver (.slice da dn dc) (.slice sa sn sc) (.slice ta tn tc) len ph (.slice la lst.length lc) tg).toArray) (h1 : dn ≤ 9223372036854775000) (h2 : sn ≤ 9223372036854775000) (h3 : tn ≤ 9223372036854775000) (h4 : lst.length ≤ 140737488355328) (hil : Il w la lst) (r : Bool) (hr : r = true ↔ mayP 2 len n dn sn tn lst) :
    Calls Tryd.prog 24 #[.agg cs, .int .i64 n] w fun e w' => e = .returned (.bool r) ∧ Below w.heap.size w w' := by
  have hrow := heap_alloc_new w (.cells cs 33)
  have c0 : (w.alloc (.cells cs 33)).cell? ⟨w.heap.size, 0, none⟩ = some (.int .i64 2) := by unfold World.cell?; rw [hrow, hcs]; rfl
  have c2 : (w.alloc (.cells cs 33)).cell? ⟨w.heap.size, 2, none⟩ = some (.slice da dn dc) := by unfold World.cell?; rw [hrow, hcs]; rfl
  have c3 : (w.alloc (.cells cs 33)).cell? ⟨w.heap.size, 3, none⟩ = some (.slice sa sn sc) := by unfold World.cell?; rw [hrow, hcs]; rfl
  have c4 : (w.alloc (.cells cs 33)).cell? ⟨w.heap.size, 4, none⟩ = some (.slice ta tn tc) := by unfold World.cell?; rw [hrow, hcs]; rfl
  have c5 : (w.alloc (.cells cs 33)).cell? ⟨w.heap.size, 5, none⟩ = some (.int .i64 len) := by unfold World.cell?; rw [hrow, hcs]; rfl
  have c7 : (w.alloc (.cells cs 33)).cell? ⟨w.heap.size, 7, none⟩ = some (.slice la lst.length lc) := by unfold World.cell?; rw [hrow, hcs]; rfl
  have HR := mkHid hr
  have HIL := mkHid (show Il (w.alloc (.cells cs 33)) la lst from fun j hj => by
    obtain ⟨b, off, he, hc⟩ := hil j hj
    exact ⟨b, off, he, (((Below.refl w.heap.size w).alloc (Nat.le_refl _) _).cell (p := ⟨b, off + j, none⟩) (World.block_lt_of_cell? w _ hc)).trans hc⟩)
  clear hrow hcs hr hil
  go_enter Tryd.func24, Tryd.ntmps24
  go_wp2
  all_goals
    go_ret
    refine ⟨ret_bool ?_, (Below.refl _ _).alloc (Nat.le_refl _) _⟩
    rw [Bool.eq_iff_iff, HR.out]
    unfold mayP mayK
    simp
    omega

set_option maxRecDepth 10000 in
set_option maxHeartbeats 1000000 in
theorem rmay_5 (cs : Array Value) (ver len n : Int) (da sa ta la : Option Addr) (dn dc sn sc tn tc lc : Nat) (lst : List Int) (ph : Bool) (tg : List Value) (w : World)
    (hcs : cs = (hc 5 ver (.slice da dn dc) (.slice sa sn sc) (.slice ta tn tc) len ph (.slice la lst.length lc) tg).toArray) (h1 : dn ≤ 9223372036854775000) (h2 : sn ≤ 9223372036854775000) (h3 : tn ≤ 9223372036854775000) (h4 : lst.length ≤ 140737488355328) (hil : Il w la lst) (r : Bool) (hr : r = true ↔ mayP 5 len n dn sn tn lst) :
    Calls Tryd.prog 24 #[.agg cs, .int .i64 n] w fun e w' => e = .returned (.bool r) ∧ Below w.heap.size w w' := by
  have hrow := heap_alloc_new w (.cells cs 33)
  have c0 : (w.alloc (.cells cs 33)).cell? ⟨w.heap.size, 0, none⟩ = some (.int .i64 5) := by unfold World.cell?; rw [hrow, hcs]; rfl
  have c2 : (w.alloc (.cells cs 33)).cell? ⟨w.heap.size, 2, none⟩ = some (.slice da dn dc) := by unfold World.cell?; rw [hrow, hcs]; rfl
  have c3 : (w.alloc (.cells cs 33)).cell? ⟨w.heap.size, 3, none⟩ = some (.slice sa sn sc) := by unfold World.cell?; rw [hrow, hcs]; rfl
  have c4 : (w.alloc (.cells cs 33)).cell? ⟨w.heap.size, 4, none⟩ = some (.slice ta tn tc) := by unfold World.cell?; rw [hrow, hcs]; rfl
  have c5 : (w.alloc (.cells cs 33)).cell? ⟨w.heap.size, 5, none⟩ = some (.int .i64 len) := by unfold World.cell?; rw [hrow, hcs]; rfl
  have c7 : (w.alloc (.cells cs 33)).cell? ⟨w.heap.size, 7, none⟩ = some (.slice la lst.length lc) := by unfold World.cell?; rw [hrow, hcs]; rfl
  have HR := mkHid hr
  have HIL := mkHid (show Il (w.alloc (.cells cs 33)) la lst from fun j hj => by
    obtain ⟨b, off, he, hc⟩ := hil j hj
    exact ⟨b, off, he, (((Below.refl w.heap.size w).alloc (Nat.le_refl _) _).cell (p := ⟨b, off + j, none⟩) (World.block_lt_of_cell? w _ hc)).trans hc⟩)
  clear hrow hcs hr hil
  go_enter Tryd.func24, Tryd.ntmps24
  go_wp2
  all_goals
    go_ret
    refine ⟨ret_bool ?_, (Below.refl _ _).alloc (Nat.le_refl _) _⟩
    rw [Bool.eq_iff_iff, HR.out]
    unfold mayP mayK
    simp
    omega

set_option maxRecDepth 10000 in
set_option maxHeartbeats 1000000 in
theorem rmay_3 (cs : Array Value) (ver len n : Int) (da sa ta la : Option Addr) (dn dc sn sc tn tc lc : Nat) (lst : List Int) (ph : Bool) (tg : List Value) (w : World)
    (hcs : cs = (hc 3 ver (.slice da dn dc) (.slice sa sn sc) (.slice ta tn tc) len ph (.slice la lst.length lc) tg).toArray) (h1 : dn ≤ 9223372036854775000) (h2 : sn ≤ 9223372036854775000) (h3 : tn ≤ 9223372036854775000) (h4 : lst.length ≤ 140737488355328) (hil : Il w la lst) (r : Bool) (hr : r = true ↔ mayP 3 len n dn sn tn lst) :
    Calls Tryd.prog 24 #[.agg cs, .int .i64 n] w fun e w' => e = .returned (.bool r) ∧ Below w.heap.size w w' := by
  have hrow := heap_alloc_new w (.cells cs 33)
  have c0 : (w.alloc (.cells cs 33)).cell? ⟨w.heap.size, 0, none⟩ = some (.int .i64 3) := by unfold World.cell?; rw [hrow, hcs]; rfl
  have c2 : (w.alloc (.cells cs 33)).cell? ⟨w.heap.size, 2, none⟩ = some (.slice da dn dc) := by unfold World.cell?; rw [hrow, hcs]; rfl
  have c3 : (w.alloc (.cells cs 33)).cell? ⟨w.heap.size, 3, none⟩ = some (.slice sa sn sc) := by unfold World.cell?; rw [hrow, hcs]; rfl
  have c4 : (w.alloc (.cells cs 33)).cell? ⟨w.heap.size, 4, none⟩ = some (.slice ta tn tc) := by unfold World.cell?; rw [hrow, hcs]; rfl
  have c5 : (w.alloc (.cells cs 33)).cell? ⟨w.heap.size, 5, none⟩ = some (.int .i64 len) := by unfold World.cell?; rw [hrow, hcs]; rfl
  have c7 : (w.alloc (.cells cs 33)).cell? ⟨w.heap.size, 7, none⟩ = some (.slice la lst.length lc) := by unfold World.cell?; rw [hrow, hcs]; rfl
  have HR := mkHid hr
  have HIL := mkHid (show Il (w.alloc (.cells cs 33)) la lst from fun j hj => by
    obtain ⟨b, off, he, hc⟩ := hil j hj
    exact ⟨b, off, he, (((Below.refl w.heap.size w).alloc (Nat.le_refl _) _).cell (p := ⟨b, off + j, none⟩) (World.block_lt_of_cell? w _ hc)).trans hc⟩)
  clear hrow hcs hr hil
  go_enter Tryd.func24, Tryd.ntmps24
  go_wp2
  all_goals
    go_ret
    refine ⟨ret_bool ?_, (Below.refl _ _).alloc (Nat.le_refl _) _⟩
    rw [Bool.eq_iff_iff, HR.out]
    unfold mayP mayK
    simp
    omega

set_option maxRecDepth 10000 in
set_option maxHeartbeats 1000000 in
theorem rmay_4 (cs : Array Value) (ver len n : Int) (da sa ta la : Option Addr) (dn dc sn sc tn tc lc : Nat) (lst : List Int) (ph : Bool) (tg : List Value) (w : World)
    (hcs : cs = (hc 4 ver (.slice da dn dc) (.slice sa sn sc) (.slice ta tn tc) len ph (.slice la lst.length lc) tg).toArray) (h1 : dn ≤ 9223372036854775000) (h2 : sn ≤ 9223372036854775000) (h3 : tn ≤ 9223372036854775000) (h4 : lst.length ≤ 140737488355328) (hil : Il w la lst) (r : Bool) (hr : r = true ↔ mayP 4 len n dn sn tn lst) :
    Calls Tryd.prog 24 #[.agg cs, .int .i64 n] w fun e w' => e = .returned (.bool r) ∧ Below w.heap.size w w' := by
  have hrow := heap_alloc_new w (.cells cs 33)
  have c0 : (w.alloc (.cells cs 33)).cell? ⟨w.heap.size, 0, none⟩ = some (.int .i64 4) := by unfold World.cell?; rw [hrow, hcs]; rfl
  have c2 : (w.alloc (.cells cs 33)).cell? ⟨w.heap.size, 2, none⟩ = some (.slice da dn dc) := by unfold World.cell?; rw [hrow, hcs]; rfl
  have c3 : (w.alloc (.cells cs 33)).cell? ⟨w.heap.size, 3, none⟩ = some (.slice sa sn sc) := by unfold World.cell?; rw [hrow, hcs]; rfl
  have c4 : (w.alloc (.cells cs 33)).cell? ⟨w.heap.size, 4, none⟩ = some (.slice ta tn tc) := by unfold World.cell?; rw [hrow, hcs]; rfl
  have c5 : (w.alloc (.cells cs 33)).cell? ⟨w.heap.size, 5, none⟩ = some (.int .i64 len) := by unfold World.cell?; rw [hrow, hcs]; rfl
  have c7 : (w.alloc (.cells cs 33)).cell? ⟨w.heap.size, 7, none⟩ = some (.slice la lst.length lc) := by unfold World.cell?; rw [hrow, hcs]; rfl
  have HR := mkHid hr
  have HIL := mkHid (show Il (w.alloc (.cells cs 33)) la lst from fun j hj => by
    obtain ⟨b, off, he, hc⟩ := hil j hj
    exact ⟨b, off, he, (((Below.refl w.heap.size w).alloc (Nat.le_refl _) _).cell (p := ⟨b, off + j, none⟩) (World.block_lt_of_cell? w _ hc)).trans hc⟩)
  clear hrow hcs hr hil
  by_cases hd1 : dn ≤ 20
  · by_cases hd2 : sn ≤ 20
    · go_enter Tryd.func24, Tryd.ntmps24
      go_wp2
      go_loop [5] (fun i => ∃ k : Nat, k ≤ lst.length ∧ i = .int .i64 k ∧ Hid ((lst.take k).any noV = false)) (fun i => lst.length - (intOf i).toNat)
      case atStart => exact ⟨0, by omega, rfl, by simp [Hid]⟩
      case round =>
        obtain ⟨k, hk, rfl, HK⟩ := hrel
        by_cases hlt : k < lst.length
        · obtain ⟨b, off, rfl, hc⟩ := Il_addr HIL.out (by omega)
          have hcell := hc k hlt
          have hst : (lst.take (k + 1)).any noV = ((lst.take k).any noV || noV lst[k]) := by rw [List.take_succ_eq_append_getElem hlt, List.any_append]; simp
          rw [HK.out, Bool.false_or] at hst
          have hall : noV lst[k] = true → lst.any noV = true := fun h => by
            rw [List.any_eq_true]
            exact ⟨lst[k], List.getElem_mem hlt, h⟩
          obtain ⟨x, hx⟩ : ∃ x, lst[k] = x := ⟨_, rfl⟩
          rw [hx] at hcell hst hall
          have HST := mkHid hst
          have HALL := mkHid hall
          clear hst hall hx hc
          by_cases hv1 : x < 1
          · go_wp2
            go_ret
            refine ⟨ret_bool ?_, (Below.refl _ _).alloc (Nat.le_refl _) _⟩
            rw [Bool.eq_iff_iff, HR.out]
            unfold mayP mayK
            rw [HALL.out (by simp [noV, hv1])]
            simp
          · by_cases hv2 : 4294967295 < x
            · go_wp2
              go_ret
              refine ⟨ret_bool ?_, (Below.refl _ _).alloc (Nat.le_refl _) _⟩
              rw [Bool.eq_iff_iff, HR.out]
              unfold mayP mayK
              rw [HALL.out (by simp [noV, hv2])]
              simp
            · have HV : Hid (noV x = false) := by show noV x = false; simp [noV, hv1, hv2]
              go_wp2
              go_round
              case rel => exact ⟨k + 1, by omega, by go_num, HST.out.trans HV.out⟩
              case measure => simp [intOf]; omega
        · obtain rfl : k = lst.length := by omega
          have HF : Hid (lst.any noV = false) := by have := HK.out; rw [List.take_length] at this; exact this
          go_wp2
          all_goals
            go_ret
            refine ⟨ret_bool ?_, (Below.refl _ _).alloc (Nat.le_refl _) _⟩
            rw [Bool.eq_iff_iff, HR.out]
            unfold mayP mayK
            rw [HF.out]
            simp
            omega
    · go_enter Tryd.func24, Tryd.ntmps24
      go_wp2
      all_goals
        go_ret
        refine ⟨ret_bool ?_, (Below.refl _ _).alloc (Nat.le_refl _) _⟩
        rw [Bool.eq_iff_iff, HR.out]
        unfold mayP mayK
        simp
        omega
  · go_enter Tryd.func24, Tryd.ntmps24
    go_wp2
    all_goals
      go_ret
      refine ⟨ret_bool ?_, (Below.refl _ _).alloc (Nat.le_refl _) _⟩
      rw [Bool.eq_iff_iff, HR.out]
      unfold mayP mayK
      simp
      omega

set_option maxRecDepth 10000 in
set_option maxHeartbeats 1000000 in
theorem rmay_x (k : Int) (cs : Array Value) (ver len n : Int) (da sa ta la : Option Addr) (dn dc sn sc tn tc lc : Nat) (lst : List Int) (ph : Bool) (tg : List Value) (w : World)
    (hcs : cs = (hc k ver (.slice da dn dc) (.slice sa sn sc) (.slice ta tn tc) len ph (.slice la lst.length lc) tg).toArray) (h1 : dn ≤ 9223372036854775000) (h2 : sn ≤ 9223372036854775000) (h3 : tn ≤ 9223372036854775000) (h4 : lst.length ≤ 140737488355328) (hil : Il w la lst) (r : Bool) (hr : r = true ↔ mayP k len n dn sn tn lst) (hk : k < 0 ∨ 5 < k) :
    Calls Tryd.prog 24 #[.agg cs, .int .i64 n] w fun e w' => e = .returned (.bool r) ∧ Below w.heap.size w w' := by
  have hrow := heap_alloc_new w (.cells cs 33)
  have c0 : (w.alloc (.cells cs 33)).cell? ⟨w.heap.size, 0, none⟩ = some (.int .i64 k) := by unfold World.cell?; rw [hrow, hcs]; rfl
  have c2 : (w.alloc (.cells cs 33)).cell? ⟨w.heap.size, 2, none⟩ = some (.slice da dn dc) := by unfold World.cell?; rw [hrow, hcs]; rfl
  have c3 : (w.alloc (.cells cs 33)).cell? ⟨w.heap.size, 3, none⟩ = some (.slice sa sn sc) := by unfold World.cell?; rw [hrow, hcs]; rfl
  have c4 : (w.alloc (.cells cs 33)).cell? ⟨w.heap.size, 4, none⟩ = some (.slice ta tn tc) := by unfold World.cell?; rw [hrow, hcs]; rfl
  have c5 : (w.alloc (.cells cs 33)).cell? ⟨w.heap.size, 5, none⟩ = some (.int .i64 len) := by unfold World.cell?; rw [hrow, hcs]; rfl
  have c7 : (w.alloc (.cells cs 33)).cell? ⟨w.heap.size, 7, none⟩ = some (.slice la lst.length lc) := by unfold World.cell?; rw [hrow, hcs]; rfl
  have HR := mkHid hr
  have HIL := mkHid (show Il (w.alloc (.cells cs 33)) la lst from fun j hj => by
    obtain ⟨b, off, he, hc⟩ := hil j hj
    exact ⟨b, off, he, (((Below.refl w.heap.size w).alloc (Nat.le_refl _) _).cell (p := ⟨b, off + j, none⟩) (World.block_lt_of_cell? w _ hc)).trans hc⟩)
  clear hrow hcs hr hil
  by_cases hk0 : k < 0
  · go_enter Tryd.func24, Tryd.ntmps24
    go_wp2
    all_goals
      go_ret
      refine ⟨ret_bool ?_, (Below.refl _ _).alloc (Nat.le_refl _) _⟩
      rw [Bool.eq_iff_iff, HR.out]
      unfold mayP mayK
      simp
      omega
  · have hk5 : 5 < k := by omega
    clear hk
    go_enter Tryd.func24, Tryd.ntmps24
    go_wp2
    all_goals
      go_ret
      refine ⟨ret_bool ?_, (Below.refl _ _).alloc (Nat.le_refl _) _⟩
      rw [Bool.eq_iff_iff, HR.out]
      unfold mayP mayK
      simp
      omega

theorem rmay_any (k : Int) (cs : Array Value) (ver len n : Int) (da sa ta la : Option Addr) (dn dc sn sc tn tc lc : Nat) (lst : List Int) (ph : Bool) (tg : List Value) (w : World)
    (hcs : cs = (hc k ver (.slice da dn dc) (.slice sa sn sc) (.slice ta tn tc) len ph (.slice la lst.length lc) tg).toArray) (h1 : dn ≤ 9223372036854775000) (h2 : sn ≤ 9223372036854775000) (h3 : tn ≤ 9223372036854775000) (h4 : lst.length ≤ 140737488355328) (hil : Il w la lst) (r : Bool) (hr : r = true ↔ mayP k len n dn sn tn lst) :
    Calls Tryd.prog 24 #[.agg cs, .int .i64 n] w fun e w' => e = .returned (.bool r) ∧ Below w.heap.size w w' := by
  by_cases hx : k < 0 ∨ 5 < k
  · exact rmay_x k cs ver len n da sa ta la dn dc sn sc tn tc lc lst ph tg w hcs h1 h2 h3 h4 hil r hr hx
  · have hk : k = 0 ∨ k = 1 ∨ k = 2 ∨ k = 3 ∨ k = 4 ∨ k = 5 := by omega
    rcases hk with rfl | rfl | rfl | rfl | rfl | rfl
    · exact rmay_0 cs ver len n da sa ta la dn dc sn sc tn tc lc lst ph tg w hcs h1 h2 h3 h4 hil r hr
    · exact rmay_1 cs ver len n da sa ta la dn dc sn sc tn tc lc lst ph tg w hcs h1 h2 h3 h4 hil r hr
    · exact rmay_2 cs ver len n da sa ta la dn dc sn sc tn tc lc lst ph tg w hcs h1 h2 h3 h4 hil r hr
    · exact rmay_3 cs ver len n da sa ta la dn dc sn sc tn tc lc lst ph tg w hcs h1 h2 h3 h4 hil r hr
    · exact rmay_4 cs ver len n da sa ta la dn dc sn sc tn tc lc lst ph tg w hcs h1 h2 h3 h4 hil r hr
    · exact rmay_5 cs ver len n da sa ta la dn dc sn sc tn tc lc lst ph tg w hcs h1 h2 h3 h4 hil r hr
end Go.Proofs.YtlllejgpmdeeiaaDoor
