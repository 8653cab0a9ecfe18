/- Spans: whether they may be acknowledged; the numbers that stand for them. -/
import Derived.Test.YtaeapgkfmofjlaaDoorFd
import Derived.Deep.LoopGhost
namespace Go.Proofs.YtaeapgkfmofjlaaDoor
open Go.ChangeShapes Go.WideShapes Go.ChangeAt Go.RowKit
set_option linter.unusedVariables false
set_option maxRecDepth 100000

theorem wrp (x : Int) (h0 : -9223372036854775808 ≤ x) (h1 : x ≤ 9223372036854775807) : IntKind.i64.wrap x = x := by rw [IntKind.wrap_i64]; omega
/-- Whether spans lie below m, each below the one ahead of it. -/
def okS : Int → List (Int × Int) → Bool
  | _, [] => true
  | m, (a, b) :: t => !(decide (a < 0) || decide (b < a) || decide (m < b)) && okS (a - 2) t
def spB (A : List (Int × Int)) : Bool := decide (1 ≤ A.length) && decide (A.length ≤ 256) && okS 4611686018427387903 A
theorem okS_cons {m a b : Int} {t : List (Int × Int)} (h : okS m ((a, b) :: t) = true) : 0 ≤ a ∧ a ≤ b ∧ b ≤ m ∧ okS (a - 2) t = true := by
  simp only [okS, Bool.and_eq_true, Bool.not_eq_true', Bool.or_eq_false_iff, decide_eq_false_iff_not, Int.not_lt] at h
  obtain ⟨⟨⟨h1, h2⟩, h3⟩, h4⟩ := h
  exact ⟨h1, h2, h3, h4⟩
theorem okS_at : ∀ {A : List (Int × Int)} {m : Int}, okS m A = true → ∀ j (hj : j < A.length), 0 ≤ A[j].1 ∧ A[j].1 ≤ A[j].2 ∧ A[j].2 ≤ m ∧ ∀ (hj' : j + 1 < A.length), A[j + 1].2 ≤ A[j].1 - 2
  | [], _, _, j, hj => absurd hj (by simp)
  | (a, b) :: t, m, h, j, hj => by
    obtain ⟨h1, h2, h3, h4⟩ := okS_cons h
    cases j with
    | zero =>
      refine ⟨h1, h2, h3, fun hj' => ?_⟩
      have hj2 : 0 < t.length := by simpa using hj'
      exact (okS_at h4 0 hj2).2.2.1
    | succ j =>
      have hj2 : j < t.length := by simpa using hj
      obtain ⟨q1, q2, q3, q4⟩ := okS_at h4 j hj2
      refine ⟨q1, q2, by simp only [List.getElem_cons_succ]; omega, fun hj' => ?_⟩
      have hj3 : j + 1 < t.length := by simpa using hj'
      exact q4 hj3
theorem Ss.at0 {w : World} {ao : Option Addr} {l : List (Int × Int)} (h : Ss w ao l) (hl : 0 < l.length) : ∃ b off, ao = some ⟨b, off, none⟩ ∧ ∀ j (hj : j < l.length), w.cell? ⟨b, off + j * 2, none⟩ = some (.int .i64 l[j].1) ∧ w.cell? ⟨b, off + j * 2 + 1, none⟩ = some (.int .i64 l[j].2) := by
  obtain ⟨b, off, he, _⟩ := h 0 hl
  refine ⟨b, off, he, fun j hj => ?_⟩
  obtain ⟨b', off', he', h1, h2⟩ := h j hj
  rw [he] at he'
  injection he' with he'
  injection he' with e1 e2
  subst e1 e2
  exact ⟨h1, h2⟩
set_option maxHeartbeats 1000000 in
theorem spans_c (ao : Option Addr) (A : List (Int × Int)) (c : Nat) (w : World) (hs : Ss w ao A) (hl : A.length ≤ 140737488355328) :
    Calls Tryd.prog 94 #[.slice ao A.length c] w fun e w' => e = .returned (.bool (spB A)) ∧ Below w.heap.size w w' := by
  have HE : Aside (spB A = (decide (1 ≤ A.length) && decide (A.length ≤ 256) && okS 4611686018427387903 A)) := rfl
  generalize spB A = E at *
  by_cases h1 : A.length < 1
  · obtain rfl : E = false := by rw [HE.out, decide_eq_false (by omega)]; rfl
    have h1' : (A.length : Int) < 1 := by omega
    have h1'' : decide ((A.length : Int) < 1) = true := decide_eq_true h1'
    clear HE hs
    generalize (A.length : Int) = n at *
    go_enter Tryd.func94, Tryd.ntmps94
    go_wp2
    go_ret
    exact ⟨rfl, Below.refl _ _⟩
  by_cases h2 : 256 < A.length
  · obtain rfl : E = false := by rw [HE.out, decide_eq_false (show ¬ A.length ≤ 256 by omega), Bool.and_false]; rfl
    have h1' : ¬ (A.length : Int) < 1 := by omega
    have h2' : (256 : Int) < (A.length : Int) := by omega
    clear HE hs
    go_enter Tryd.func94, Tryd.ntmps94
    go_wp2
    go_ret
    exact ⟨rfl, Below.refl _ _⟩
  · obtain rfl : E = okS 4611686018427387903 A := by rw [HE.out, decide_eq_true (by omega), decide_eq_true (by omega)]; rfl
    have h1' : ¬ (A.length : Int) < 1 := by omega
    have h2' : ¬ (256 : Int) < (A.length : Int) := by omega
    obtain ⟨b, off, rfl, hc⟩ := hs.at0 (by omega)
    have HC : Aside (∀ X, Below w.heap.size w X → ∀ j (hj : j < A.length), X.cell? ⟨b, off + j * 2, none⟩ = some (.int .i64 A[j].1) ∧ X.cell? ⟨b, off + j * 2 + 1, none⟩ = some (.int .i64 A[j].2)) := fun X hb j hj => by
      obtain ⟨c1, c2⟩ := hc j hj
      have lb : b < w.heap.size := World.block_lt_of_cell? _ _ c1
      exact ⟨(hb.cell (p := ⟨b, off + j * 2, none⟩) lb).trans c1, (hb.cell (p := ⟨b, off + j * 2 + 1, none⟩) lb).trans c2⟩
    clear HE hs hc h1 h2
    obtain ⟨n, hn⟩ : ∃ n, A.length = n := ⟨_, rfl⟩
    have HN : Aside (A.length = n) := hn
    rw [hn] at h1' h2' hl ⊢
    clear hn
    go_enter Tryd.func94, Tryd.ntmps94
    go_wp2
    go_loopg [3, 16] (n + 1) (fun kx s3 s16 wr => ∃ (i : Nat) (m : Int), s3 = .int .i64 m ∧ s16 = .int .i64 (i : Int) ∧ i ≤ n ∧ n + 1 - i ≤ kx ∧ m ≤ 4611686018427387903 ∧ Aside (okS m (A.drop i) = okS 4611686018427387903 A) ∧ Aside (Below w.heap.size w wr))
    case atStart => exact ⟨0, _, rfl, rfl, by omega, by omega, by omega, rfl, Below.refl _ _⟩
    case round =>
      obtain ⟨i, m, rfl, rfl, hi, hk, hm, HO, HB⟩ := hrel
      by_cases hlt : i < n
      rotate_left
      · obtain rfl : i = n := by omega
        have he : okS 4611686018427387903 A = true := by rw [← HO.out, List.drop_of_length_le (by have := HN.out; omega)]; rfl
        clear hlt HO
        have HE9 : Aside _ := he
        clear he
        go_wp2
        go_ret
        exact ⟨by rw [HE9.out]; rfl, HB.out⟩
      · have hlA : i < A.length := by have := HN.out; omega
        obtain ⟨q0, q1⟩ := HC.out wr HB.out i hlA
        have hd : A.drop i = A[i] :: A.drop (i + 1) := List.drop_eq_getElem_cons hlA
        obtain ⟨x, y⟩ : ∃ xy : Int × Int, A[i] = xy := ⟨_, rfl⟩
        obtain ⟨xa, xb⟩ := x
        rw [y] at hd q0 q1
        rw [hd] at HO
        dsimp only at q0 q1
        have c2 : ¬ (i : Int) = (n : Int) := by omega
        have c3 : (i : Int) < (n : Int) := by omega
        have n7 : IntKind.i64.wrap ((i : Int) + 1) = (i : Int) + 1 := wrp _ (by omega) (by omega)
        have HB1 : Aside (Below w.heap.size w (wr.alloc (.cells #[.int .i64 xa, .int .i64 xb] 47))) := HB.out.alloc HB.out.size _
        clear y hd hlt hlA
        by_cases k1 : xa < 0
        · have he : okS 4611686018427387903 A = false := by rw [← HO.out]; simp [okS, k1]
          have HE9 : Aside _ := he
          clear he HO HB
          go_wp2
          go_ret
          exact ⟨by rw [HE9.out]; rfl, HB1.out⟩
        by_cases k2 : xb < xa
        · have he : okS 4611686018427387903 A = false := by rw [← HO.out]; simp [okS, k2]
          have HE9 : Aside _ := he
          clear he HO HB
          go_wp2
          go_ret
          exact ⟨by rw [HE9.out]; rfl, HB1.out⟩
        by_cases k3 : m < xb
        · have he : okS 4611686018427387903 A = false := by rw [← HO.out]; simp [okS, k3]
          have HE9 : Aside _ := he
          clear he HO HB
          go_wp2
          go_ret
          exact ⟨by rw [HE9.out]; rfl, HB1.out⟩
        · have HO2 : Aside (okS (xa - 2) (A.drop (i + 1)) = okS 4611686018427387903 A) := by
            show _ = _
            rw [← HO.out]
            simp [okS, k1, k2, k3]
          have n8 : IntKind.i64.wrap (xa - 2) = xa - 2 := by rw [IntKind.wrap_i64]; omega
          clear HO HB
          go_wp2
          go_roundg (n + 1 - (i + 1))
          case measure => omega
          case rel => exact ⟨i + 1, xa - 2, rfl, rfl, by omega, Nat.le_refl _, by omega, HO2.out, HB1.out⟩
end Go.Proofs.YtaeapgkfmofjlaaDoor
