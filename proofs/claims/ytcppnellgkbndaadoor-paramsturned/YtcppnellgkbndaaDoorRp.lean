/- params: the reference's parameters as they lie; Check where a number may not be. -/
import Derived.Test.YtcppnellgkbndaaDoorRo
namespace Go.Proofs.YtcppnellgkbndaaDoor
open Go.ChangeShapes Go.WideShapes Go.ChangeAt Go.RowKit
set_option linter.unusedVariables false
set_option maxRecDepth 100000

/-- The reference's parameters: numbers and texts by their numbers. -/
structure Rq where
  N : Nat → Int
  T : Nat → ByteArray
  ha : Bool
  hr : Bool
def Rq.cells (q : Rq) : List Value := (List.range 33).map (fun k => .int .i64 (q.N k)) ++ ((List.range 33).map (fun k => .string (q.T k)) ++ [.bool q.ha, .bool q.hr])
/-- Cells as they lie. -/
structure Rc (w : World) (Q : Nat) (q : Rq) : Prop where
  n : ∀ k, k < 33 → w.cell? ⟨Q, k, none⟩ = some (.int .i64 (q.N k))
  t : ∀ k, k < 33 → w.cell? ⟨Q, 33 + k, none⟩ = some (.string (q.T k))
  a : w.cell? ⟨Q, 66, none⟩ = some (.bool q.ha)
  r : w.cell? ⟨Q, 67, none⟩ = some (.bool q.hr)
theorem Rc.bel {w X : World} {Q : Nat} {q : Rq} (h : Rc w Q q) (hb : Below w.heap.size w X) : Rc X Q q := ⟨fun k hk => cell_bel (h.n k hk) hb, fun k hk => cell_bel (h.t k hk) hb, cell_bel h.a hb, cell_bel h.r hb⟩
theorem Rc.new (w : World) (q : Rq) : Rc (w.alloc (.cells q.cells.toArray 34)) w.heap.size q := by
  refine ⟨fun k hk => cell_new w _ 34 k _ ?_, fun k hk => cell_new w _ 34 (33 + k) _ ?_, cell_new w _ 34 66 _ ?_, cell_new w _ 34 67 _ ?_⟩
  · rw [List.getElem?_toArray]; unfold Rq.cells; rw [List.getElem?_append_left (by simpa using hk)]; simp [hk]
  · rw [List.getElem?_toArray]; unfold Rq.cells; rw [List.getElem?_append_right (by simp), List.getElem?_append_left (by simpa using hk)]; simp [hk]
  · rw [List.getElem?_toArray]; unfold Rq.cells; rw [List.getElem?_append_right (by simp), List.getElem?_append_right (by simp)]; simp
  · rw [List.getElem?_toArray]; unfold Rq.cells; rw [List.getElem?_append_right (by simp), List.getElem?_append_right (by simp)]; simp
/-- A number that may not be. -/
def Rq.nbad (q : Rq) (k : Int) : Bool := !mayR k (q.N k.toNat)
theorem nums_b : ∀ k ∈ numsL, 0 ≤ k ∧ k < 33 := by decide
set_option maxHeartbeats 1000000 in
theorem rcheck_num (q : Rq) (s : Bool) (w : World) (hb : numsL.any q.nbad = true) : Calls Tryd.prog 12 #[.agg q.cells.toArray, .bool s] w fun e w' => e = .returned (.int .i64 2) ∧ Below w.heap.size w w' := by
  obtain ⟨W1, hW1, hrc, hb1⟩ : ∃ W1, w.alloc (.cells q.cells.toArray 34) = W1 ∧ Rc W1 w.heap.size q ∧ Below w.heap.size w W1 := ⟨_, rfl, Rc.new w q, bel1 w _⟩
  have hn := numbers_c W1
  obtain ⟨W2, hW2, hb2⟩ : ∃ W2, W1.alloc (.cells numsA 3) = W2 ∧ Below W1.heap.size W1 W2 := ⟨_, rfl, bel1 W1 _⟩
  have HC : Aside (∀ k (h : k < numsL.length), W2.cell? ⟨W1.heap.size, k, none⟩ = some (.int .i64 numsL[k])) := by rw [← hW2]; exact nums_cell W1
  rw [hW2] at hn
  have HRC : Aside (Rc W2 w.heap.size q) := hrc.bel hb2
  have HB2 : Aside (Below w.heap.size w W2) := bel_trans hb1 hb2
  have HLN : Aside (numsL.length = 12) := rfl
  have HNB : Aside (∀ k ∈ numsL, 0 ≤ k ∧ k < 33) := nums_b
  have HMY : Aside (∀ k ∈ numsL, ∀ X, Calls Tryd.prog 30 #[.int .i64 k, .int .i64 (q.N k.toNat)] X fun e w' => e = .returned (.bool (!q.nbad k)) ∧ w' = X) := fun k hk X => by
    have := may_c k (q.N k.toNat) hk X
    rw [show mayR k (q.N k.toNat) = !q.nbad k by simp [Rq.nbad]] at this
    exact this
  have HBAD : Aside (numsL.any q.nbad = true) := hb
  clear hrc hb1 hb2 hW2 hb
  generalize numsL = L at *
  generalize q.cells.toArray = cs at *
  obtain ⟨Q, hQ⟩ : ∃ Q, w.heap.size = Q := ⟨_, rfl⟩
  obtain ⟨G, hG⟩ : ∃ G, W1.heap.size = G := ⟨_, rfl⟩
  rw [hG] at hn HC
  have HB2' : Aside (Below w.heap.size w W2) := HB2.out
  rw [hQ] at HRC
  go_enter Tryd.func12, Tryd.ntmps12
  go_wp2_with fail
  refine hn.mono ?_
  rintro e w' ⟨rfl, hw⟩
  subst w'
  clear hn hW1 hG
  go_wp2
  go_loopg [6] 12 (fun kx s6 wr => ∃ k : Nat, s6 = .int .i64 (k : Int) ∧ k ≤ 12 ∧ 12 - k ≤ kx ∧ Aside (Below W2.heap.size W2 wr ∧ (L.take k).any q.nbad = false))
  case atStart => exact ⟨0, rfl, by omega, by omega, Below.refl _ _, rfl⟩
  case round =>
    obtain ⟨k, rfl, hk, hg, HI⟩ := hrel
    have HBW : Aside (Below W2.heap.size W2 wr) := HI.out.1
    have HX : Aside ((L.take k).any q.nbad = false) := HI.out.2
    clear HI
    by_cases hlt : k < 12
    · have hi : k < L.length := by rw [HLN.out]; exact hlt
      have c0 : wr.drew.cell? ⟨G, k, none⟩ = some (.int .i64 L[k]) := cell_bel (HC.out k hi) HBW.out.drew
      have hmem : L[k] ∈ L := List.getElem_mem hi
      have HMY2 : Aside (∀ X, Calls Tryd.prog 30 #[.int .i64 L[k], .int .i64 (q.N L[k].toNat)] X fun e w' => e = .returned (.bool (!q.nbad L[k])) ∧ w' = X) := HMY.out _ hmem
      obtain ⟨n0, n1⟩ := HNB.out _ hmem
      have HT : Aside (L.take (k + 1) = L.take k ++ [L[k]]) := List.take_succ_eq_append_getElem hi
      clear hmem
      generalize L[k] = y at *
      obtain ⟨m, rfl⟩ : ∃ m : Nat, y = (m : Int) := ⟨y.toNat, by omega⟩
      have hm : m < 33 := by omega
      have hm0 : (0 : Int) ≤ (m : Int) := by omega
      have hm1 : (m : Int) < 33 := by omega
      have hm2 : ¬ (m : Int) < 0 := by omega
      rw [Int.toNat_natCast] at HMY2
      have c1 : wr.drew.cell? ⟨Q, m, none⟩ = some (.int .i64 (q.N m)) := cell_bel (HRC.out.n m hm) HBW.out.drew
      have HTB : Aside (q.nbad (m : Int) = false → (L.take (k + 1)).any q.nbad = false) := fun h => by rw [HT.out, List.any_append, HX.out]; simp [h]
      generalize q.N m = v at *
      generalize q.nbad (m : Int) = y at *
      have i1 : (k : Int) < 12 := by omega
      have iw : IntKind.i64.wrap ((k : Int) + 1) = (k : Int) + 1 := wrn _ (by omega) (by omega)
      have HE : Aside (Below w.heap.size w wr.drew) := bel_trans HB2.out HBW.out.drew
      have HW : Aside (Below W2.heap.size W2 wr.drew) := HBW.out.drew
      clear HT hQ n0 n1
      cases y with
      | false =>
        go_wp2_with fail
        go_region_held3 (fun X => X.cell? ⟨G, k, none⟩ = some (.int .i64 m) ∧ X.cell? ⟨Q, m, none⟩ = some (.int .i64 v)) (exact ⟨c0, c1⟩) (first | (go_at_call 30; refine Calls.mono (HMY2.out _) ?_; rintro e w4 ⟨rfl, hw4⟩; subst w4))
        go_wp2
        go_roundg (12 - (k + 1))
        case measure => omega
        case rel => exact ⟨k + 1, rfl, by omega, Nat.le_refl _, HW.out, HTB.out (by trivial)⟩
      | true =>
        go_wp2_with fail
        go_region_held3 (fun X => X.cell? ⟨G, k, none⟩ = some (.int .i64 m) ∧ X.cell? ⟨Q, m, none⟩ = some (.int .i64 v)) (exact ⟨c0, c1⟩) (first | (go_at_call 30; refine Calls.mono (HMY2.out _) ?_; rintro e w4 ⟨rfl, hw4⟩; subst w4))
        go_wp2
        go_ret
        exact ⟨rfl, HE.out⟩
    · exfalso
      obtain rfl : k = 12 := by omega
      have h1 := HX.out
      have h2 := HBAD.out
      rw [← HLN.out, List.take_length] at h1
      rw [h1] at h2
      cases h2
end Go.Proofs.YtcppnellgkbndaaDoor
