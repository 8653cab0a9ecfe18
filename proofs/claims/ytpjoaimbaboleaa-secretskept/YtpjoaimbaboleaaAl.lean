/- vault: heirs.all and its iterator. -/
import Derived.Test.YtpjoaimbaboleaaLk
namespace Go.Proofs.Ytpjoaimbaboleaa
open Go.RowKit Go.Shelf Go.Lib
set_option linter.unusedVariables false

attribute [local go_sem] Oper.semAt_some

set_option maxRecDepth 100000 in
theorem all_c (La Be N : Nat) (o : Int) (w : World) : Calls Try.prog 67 #[.agg #[.slice (some ⟨La, 0, none⟩) N N, .slice (some ⟨Be, 0, none⟩) (2 * N) (2 * N)], .int .i64 o] w fun e w' => e = .returned (.func (.func 70) #[] #[.pointer (some ⟨w.heap.size, 0, none⟩), .pointer (some ⟨w.heap.size + 1, 0, none⟩)]) ∧ w' = (w.alloc (.cells #[.slice (some ⟨La, 0, none⟩) N N, .slice (some ⟨Be, 0, none⟩) (2 * N) (2 * N)] 103)).alloc (.cells #[.int .i64 o] 3) := by
  go_enter Try.func67, Try.ntmps67
  go_wp2
  go_ret
  exact ⟨rfl, rfl⟩
theorem chain_head {B : List Nat} {a : Nat} {C : List Nat} (h : Chain B a C) : a = C.headD 0 := by
  cases C with
  | nil => exact h
  | cons x C => exact h.1
theorem chain_drop {B : List Nat} : ∀ {C : List Nat} {a : Nat} (k : Nat), Chain B a C → ∃ b, Chain B b (C.drop k)
  | C, a, 0, h => ⟨a, h⟩
  | [], a, k + 1, h => ⟨a, h⟩
  | x :: C, a, k + 1, ⟨_, _, y, _, h⟩ => chain_drop k h
set_option maxRecDepth 100000 in
set_option maxHeartbeats 2000000 in
theorem all_it (H2 O lb La Be N o : Nat) (A B C : List Nat) (a : Nat) (J Jx : Nat → World → Prop) (W : World) (hN : N ≤ 1000000) (hlA : A.length = N) (hlB : B.length = 2 * N) (hoa : A[o]? = some a) (hCh : Chain B a C)
    (hF : ∀ k W, J k W → W.cell? ⟨H2, 0, none⟩ = some (.slice (some ⟨La, 0, none⟩) N N) ∧ W.cell? ⟨H2, 1, none⟩ = some (.slice (some ⟨Be, 0, none⟩) (2 * N) (2 * N)) ∧ W.cell? ⟨O, 0, none⟩ = some (.int .i64 (o : Int)) ∧ W.heap[La]? = some (.cells (il A).toArray 3 (0, 0)) ∧ W.heap[Be]? = some (.cells (il B).toArray 3 (0, 0)))
    (hY : ∀ (k l : Nat) W1, C[k]? = some l → J k W1 → YieldAt Fence.wide 0 Try.prog lb #[.int .i64 ((l / 2 : Nat) : Int)] W1 (YQ J Jx k)) (h0 : J 0 W) :
    CallsIn Fence.wide 0 Try.prog 70 #[.func (.yield lb) #[] #[], .pointer (some ⟨H2, 0, none⟩), .pointer (some ⟨O, 0, none⟩)] W (ItP J Jx C.length) := by
  obtain ⟨c0, c1, c2, hA, hB⟩ := hF 0 W h0
  have hol : o < N := by rw [← hlA]; exact (List.getElem?_eq_some_iff.1 hoa).1
  have ca := row_cell hA hoa
  have i0 : (0 : Int) ≤ (o : Int) := by omega
  have i1 : (o : Int) < (N : Int) := by omega
  have HF : Aside _ := hF
  have HY : Aside _ := hY
  have H0 : Aside _ := h0
  have HCh : Aside _ := hCh
  have HLB : Aside _ := hlB
  clear hF hY h0 hA hB hCh hlB c1
  refine callsIn_of_wp Try.func70 rfl trivial ?_ rfl
  simp only [Try.ntmps70, List.size_toArray, List.length_cons, List.length_nil, Nat.reduceAdd, Nat.reduceSub, Array.replicate_succ, Array.replicate_zero, List.push_toArray, List.append_toArray, List.nil_append, List.cons_append]
  gi_wp2
  gi_loopg [4] (C.length + 1) (fun kx s4 wr => ∃ k b : Nat, s4 = .int .i64 (b : Int) ∧ k ≤ C.length ∧ C.length - k ≤ kx ∧ Aside (Chain B b (C.drop k)) ∧ Aside (J k wr))
  case atStart => exact ⟨0, a, rfl, by omega, by omega, HCh.out, H0.out⟩
  case round =>
    obtain ⟨k, b, rfl, hk, hg, HC, HJ⟩ := hrel
    clear c0 c2 ca H0 HCh
    by_cases hlt : k < C.length
    · have hd : C.drop k = C[k] :: C.drop (k + 1) := List.drop_eq_getElem_cons hlt
      have hch := HC.out
      rw [hd] at hch
      obtain ⟨rfl, hne, y, hy, hrest⟩ := hch
      have HRe : Aside _ := hrest
      have hbl : C[k] < 2 * N := by rw [← HLB.out]; exact (List.getElem?_eq_some_iff.1 hy).1
      obtain ⟨fn, tmps, assign, body, hyy, hR'⟩ := HY.out k C[k] wr (by simp [hlt]) HJ.out
      have HYV : Aside _ := hy
      generalize C[k] = b at *
      have n0 : ¬ ((b : Int) = 0) := by omega
      have n1 : ((b : Int) == 0) = false := by simpa using n0
      have q1 : (b : Int).tdiv 2 = ((b / 2 : Nat) : Int) := by rw [Int.tdiv_eq_ediv_of_nonneg (by omega)]; omega
      have q2 : IntKind.i64.wrap ((b / 2 : Nat) : Int) = ((b / 2 : Nat) : Int) := by rw [IntKind.wrap_i64]; omega
      generalize ((b / 2 : Nat) : Int) = bq at *
      clear hrest hy hd HC
      gi_wp2
      refine ⟨rfl, hR'.mono ?_⟩
      rintro e W3 (⟨rfl, hJ3⟩ | ⟨rfl, hJx3⟩)
      · obtain ⟨d0, d1, d2, hA, hB⟩ := HF.out (k + 1) W3 hJ3
        have cb := row_cell hB HYV.out
        have j0 : (0 : Int) ≤ (b : Int) := by omega
        have j1 : (b : Int) < ((2 * N : Nat) : Int) := by omega
        have HJ3 : Aside _ := hJ3
        clear hJ3 hR' hyy hA hB d0 d2
        gi_wp2
        gi_roundg (C.length - (k + 1))
        case measure => omega
        case rel => exact ⟨k + 1, y, rfl, by omega, Nat.le_refl _, HRe.out, HJ3.out⟩
      · have HJx : Aside _ := hJx3
        clear hJx3 hR' hyy
        gi_wp2
        refine bodyPost_ret (results_none rfl _ _ _) rfl ?_
        exact ⟨⟨_, rfl⟩, .inr ⟨k + 1, by omega, HJx.out⟩⟩
    · obtain rfl : k = C.length := by omega
      have hch := HC.out
      rw [List.drop_length] at hch
      have hb0 : b = 0 := hch
      subst hb0
      gi_wp2
      go_end0
      exact ⟨⟨_, rfl⟩, .inl HJ.out⟩
end Go.Proofs.Ytpjoaimbaboleaa
