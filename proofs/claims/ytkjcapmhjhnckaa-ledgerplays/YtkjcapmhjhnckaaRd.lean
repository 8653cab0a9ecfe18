/- The reference's Due. -/
import Derived.Test.YtkjcapmhjhnckaaRf
namespace Go.Proofs.Ytkjcapmhjhnckaa
open Go.RowKit Go.Maps Go.Shelf
set_option linter.unusedVariables false
set_option maxRecDepth 100000

def isd (g : Int) (x : Pk × Int) : Bool := decide (x.2 = 0) && decide (x.1.n < g)
/-- When the next one is lost. -/
def Rs.due (R : Rs) (late : Int) : Int × Bool := if ¬ (0 ≤ late ∧ late ≤ 1125899906842624) then (0, false) else match R.L.find? (isd R.g) with
  | none => (0, false)
  | some x => (x.1.a + late, true)
def DuR (W : World) (R : Rs) (late : Int) (e : Ending) (w' : World) : Prop := e = .returned (.tuple #[.int .i64 (R.due late).1, .bool (R.due late).2]) ∧ Below W.heap.size W w'
theorem find_at {L : List (Pk × Int)} {q : Pk × Int → Bool} {k : Nat} (h : k < L.length) (h0 : (L.take k).find? q = none) (h1 : q L[k] = true) : L.find? q = some L[k] := by
  have e : L = L.take k ++ L[k] :: L.drop (k + 1) := by rw [← List.drop_eq_getElem_cons h, List.take_append_drop]
  generalize hx : L[k] = x at *
  rw [e, List.find?_append, h0]
  simp [h1]
set_option maxHeartbeats 1000000 in
theorem rdue_c {W : World} {A : Ra} {R : Rs} (h : Rl W A R) (hl : R.L.length ≤ 4000000000000) (hok : ∀ x ∈ R.L, x.1.ok) (late : Int) : Calls Try.prog 23 #[.pointer (some ⟨A.b, 0, none⟩), .int .i64 late] W (DuR W R late) := by
  have hti := rtime_c late W
  have HD : Aside (R.due late = if ¬ (0 ≤ late ∧ late ≤ 1125899906842624) then (0, false) else match R.L.find? (isd R.g) with
  | none => (0, false)
  | some x => (x.1.a + late, true)) := rfl
  have HR : Aside (∀ (a : Int) (b : Bool) w', R.due late = (a, b) → Below W.heap.size W w' → DuR W R late (.returned (.tuple #[.int .i64 a, .bool b])) w') := fun a b w' h h2 => ⟨by rw [h], h2⟩
  generalize DuR W R late = RR at *
  by_cases ht : 0 ≤ late ∧ late ≤ 1125899906842624
  · rw [decide_eq_true ht] at hti
    have HRL : Aside _ := h
    have HOK : Aside _ := hok
    obtain ⟨N, hN⟩ : ∃ N, R.L.length = N := ⟨_, rfl⟩
    have HN : Aside _ := hN
    rw [hN] at hl
    have HD2 : Aside (R.due late = match R.L.find? (isd R.g) with
      | none => (0, false)
      | some x => (x.1.a + late, true)) := by
      show R.due late = _
      rw [HD.out, if_neg (by simpa using ht)]
    obtain ⟨t0, t1⟩ := ht
    clear h hok hN HD
    go_enter Try.func23, Try.ntmps23
    go_wp2_with fail
    refine hti.mono ?_
    rintro e u ⟨rfl, hu⟩
    subst u
    clear hti
    go_wp2_with fail
    go_loopg [6] N (fun kx s6 wr => ∃ (k : Nat), s6 = .int .i64 (k : Int) ∧ k ≤ N ∧ N - k ≤ kx ∧ Aside (Below W.heap.size W wr ∧ (R.L.take k).find? (isd R.g) = none))
    case atStart => exact ⟨0, rfl, by omega, by omega, Below.refl _ _, rfl⟩
    case round =>
      obtain ⟨k, rfl, hk, hg, HI⟩ := hrel
      have hRl := HRL.out.bel HI.out.1
      have c0 := hRl.c0
      have c1 := hRl.c1
      rw [HN.out] at c0
      by_cases hlt : k < N
      · have hi : k < R.L.length := by rw [HN.out]; exact hlt
        obtain ⟨g, off, ho, q0, q1, -, -, q4, -⟩ := hRl.row.cells hi
        have pk := HOK.out _ (List.getElem_mem hi)
        have z0 := pk.a0
        have z1 := pk.a1
        have HY : Aside (isd R.g R.L[k] = true → R.due late = (R.L[k].1.a + late, true)) := fun hq => by rw [HD2.out, find_at hi HI.out.2 hq]
        have HNX : Aside (isd R.g R.L[k] = false → (R.L.take (k + 1)).find? (isd R.g) = none) := fun hq => by
          rw [List.take_succ_eq_append_getElem hi, List.find?_append, HI.out.2]; simp [hq]
        have HBW : Aside _ := HI.out.1
        have hx : isd R.g R.L[k] = (decide (R.L[k].2 = 0) && decide (R.L[k].1.n < R.g)) := rfl
        rw [hx] at HY HNX
        clear hx hRl HI pk
        generalize R.L[k] = x at *
        obtain ⟨⟨xn, xa, xz, xe⟩, st⟩ := x
        simp only at q0 q1 q4 z0 z1 HY HNX
        clear hi
        generalize A.o = oo at *
        generalize R.g = gg at *
        subst ho
        have i1 : (k : Int) < N := by omega
        have iw : IntKind.i64.wrap ((k : Int) + 1) = (k : Int) + 1 := wrp _ (by omega) (by omega)
        have im : IntKind.i64.wrap (xa + late) = xa + late := wrp _ (by omega) (by omega)

        by_cases p1 : st = 0
        · by_cases p2 : xn < gg
          · skip
            have HF : Aside _ := HR.out _ _ wr.drew (HY.out (by rw [decide_eq_true p1, decide_eq_true p2]; rfl)) HBW.out.drew
            go_wp2_with fail
            refine wp_region_held_drew (S := fun X => X.cell? ⟨A.b, 0, none⟩ = some (.slice (some ⟨g, off, none⟩) N A.c) ∧ X.cell? ⟨g, off + k * 5, none⟩ = some (.int .i64 xn) ∧ X.cell? ⟨g, off + k * 5 + 4, none⟩ = some (.int .i64 st) ∧ X.cell? ⟨A.b, 1, none⟩ = some (.int .i64 gg)) (by kernel_rfl) ⟨c0, q0, q4, c1⟩ (fun hHeld => ?_)
            refine wpAnyH_take (i := 0) (v := .pointer (some ⟨A.b, 0, none⟩)) rfl (by kernel_rfl) (by kernel_rfl) (by kernel_rfl) (fun _ _ _ h => h) (Or.inl ⟨by rfl, by intro w hs; go_simp⟩) hHeld ?_
            refine norm_any' (fun K hK => ?_)
            go_simp
            refine hK _ _ ?_
            clear hK K
            refine wpAnyH_take (i := 1) (v := .pointer (some ⟨A.b, 0, none⟩)) rfl (by kernel_rfl) (by kernel_rfl) (by kernel_rfl) (fun _ _ _ h => h) (Or.inl ⟨by rfl, by intro w hs; go_simp⟩) hHeld ?_
            refine norm_any' (fun K hK => ?_)
            go_simp
            refine hK _ _ ?_
            clear hK K
            refine wpAnyH_take (i := 2) (v := .pointer (some ⟨A.b, 0, none⟩)) rfl (by kernel_rfl) (by kernel_rfl) (by kernel_rfl) (fun _ _ _ h => h) (Or.inl ⟨by rfl, by intro w hs; go_simp⟩) hHeld ?_
            refine norm_any' (fun K hK => ?_)
            go_simp
            refine hK _ _ ?_
            clear hK K
            refine wpAnyH_take (i := 3) (v := .slice (some ⟨g, off, none⟩) N A.c) rfl (by kernel_rfl) (by kernel_rfl) (by kernel_rfl) (fun _ _ _ h => h) (Or.inl ⟨by rfl, by rintro w ⟨s0, s1, s2, s3⟩; go_simp⟩) hHeld ?_
            refine norm_any' (fun K hK => ?_)
            go_simp
            refine hK _ _ ?_
            clear hK K
            refine wpAnyH_take (i := 4) (v := .int .i64 (k : Int)) rfl (by kernel_rfl) (by kernel_rfl) (by kernel_rfl) (fun _ _ _ h => h) (Or.inl ⟨by rfl, by intro w hs; go_simp⟩) hHeld ?_
            refine norm_any' (fun K hK => ?_)
            go_simp
            refine hK _ _ ?_
            clear hK K
            refine wpAnyH_take (i := 5) (v := .pointer (some ⟨g, off + k * 5, none⟩)) rfl (by kernel_rfl) (by kernel_rfl) (by kernel_rfl) (fun _ _ _ h => h) (Or.inl ⟨by rfl, by intro w hs; go_simp⟩) hHeld ?_
            refine norm_any' (fun K hK => ?_)
            go_simp
            refine hK _ _ ?_
            clear hK K
            refine wpAnyH_take (i := 6) (v := .pointer (some ⟨g, off + k * 5 + 4, none⟩)) rfl (by kernel_rfl) (by kernel_rfl) (by kernel_rfl) (fun _ _ _ h => h) (Or.inl ⟨by rfl, by intro w hs; go_simp⟩) hHeld ?_
            refine norm_any' (fun K hK => ?_)
            go_simp
            refine hK _ _ ?_
            clear hK K
            refine wpAnyH_take (i := 7) (v := .int .i64 st) rfl (by kernel_rfl) (by kernel_rfl) (by kernel_rfl) (fun _ _ _ h => h) (Or.inl ⟨by rfl, by rintro w ⟨s0, s1, s2, s3⟩; go_simp⟩) hHeld ?_
            refine norm_any' (fun K hK => ?_)
            go_simp
            refine hK _ _ ?_
            clear hK K
            refine wpAnyH_take (i := 8) (v := .bool true) rfl (by kernel_rfl) (by kernel_rfl) (by kernel_rfl) (fun _ _ _ h => h) (Or.inl ⟨by rfl, by intro w hs; go_simp⟩) hHeld ?_
            refine norm_any' (fun K hK => ?_)
            go_simp
            refine hK _ _ ?_
            clear hK K
            refine wpAnyH_take (i := 9) (v := .bool true) rfl (by kernel_rfl) (by kernel_rfl) (by kernel_rfl) (fun _ _ _ h => h) (Or.inl ⟨by rfl, by intro w hs; go_simp⟩) hHeld ?_
            refine norm_any' (fun K hK => ?_)
            go_simp
            refine hK _ _ ?_
            clear hK K
            refine wpAnyH_take (i := 10) (v := .pointer (some ⟨A.b, 0, none⟩)) rfl (by kernel_rfl) (by kernel_rfl) (by kernel_rfl) (fun _ _ _ h => h) (Or.inl ⟨by rfl, by intro w hs; go_simp⟩) hHeld ?_
            refine norm_any' (fun K hK => ?_)
            go_simp
            refine hK _ _ ?_
            clear hK K
            refine wpAnyH_take (i := 11) (v := .pointer (some ⟨A.b, 0, none⟩)) rfl (by kernel_rfl) (by kernel_rfl) (by kernel_rfl) (fun _ _ _ h => h) (Or.inl ⟨by rfl, by intro w hs; go_simp⟩) hHeld ?_
            refine norm_any' (fun K hK => ?_)
            go_simp
            refine hK _ _ ?_
            clear hK K
            refine wpAnyH_take (i := 12) (v := .pointer (some ⟨A.b, 0, none⟩)) rfl (by kernel_rfl) (by kernel_rfl) (by kernel_rfl) (fun _ _ _ h => h) (Or.inl ⟨by rfl, by intro w hs; go_simp⟩) hHeld ?_
            refine norm_any' (fun K hK => ?_)
            go_simp
            refine hK _ _ ?_
            clear hK K
            refine wpAnyH_take (i := 13) (v := .slice (some ⟨g, off, none⟩) N A.c) rfl (by kernel_rfl) (by kernel_rfl) (by kernel_rfl) (fun _ _ _ h => h) (Or.inl ⟨by rfl, by rintro w ⟨s0, s1, s2, s3⟩; go_simp⟩) hHeld ?_
            refine norm_any' (fun K hK => ?_)
            go_simp
            refine hK _ _ ?_
            clear hK K
            refine wpAnyH_take (i := 14) (v := .int .i64 (k : Int)) rfl (by kernel_rfl) (by kernel_rfl) (by kernel_rfl) (fun _ _ _ h => h) (Or.inl ⟨by rfl, by intro w hs; go_simp⟩) hHeld ?_
            refine norm_any' (fun K hK => ?_)
            go_simp
            refine hK _ _ ?_
            clear hK K
            refine wpAnyH_take (i := 15) (v := .pointer (some ⟨g, off + k * 5, none⟩)) rfl (by kernel_rfl) (by kernel_rfl) (by kernel_rfl) (fun _ _ _ h => h) (Or.inl ⟨by rfl, by intro w hs; go_simp⟩) hHeld ?_
            refine norm_any' (fun K hK => ?_)
            go_simp
            refine hK _ _ ?_
            clear hK K
            refine wpAnyH_take (i := 16) (v := .pointer (some ⟨g, off + k * 5, none⟩)) rfl (by kernel_rfl) (by kernel_rfl) (by kernel_rfl) (fun _ _ _ h => h) (Or.inl ⟨by rfl, by intro w hs; go_simp⟩) hHeld ?_
            refine norm_any' (fun K hK => ?_)
            go_simp
            refine hK _ _ ?_
            clear hK K
            refine wpAnyH_take (i := 17) (v := .int .i64 xn) rfl (by kernel_rfl) (by kernel_rfl) (by kernel_rfl) (fun _ _ _ h => h) (Or.inl ⟨by rfl, by rintro w ⟨s0, s1, s2, s3⟩; go_simp⟩) hHeld ?_
            refine norm_any' (fun K hK => ?_)
            go_simp
            refine hK _ _ ?_
            clear hK K
            refine wpAnyH_take (i := 18) (v := .pointer (some ⟨A.b, 0, none⟩)) rfl (by kernel_rfl) (by kernel_rfl) (by kernel_rfl) (fun _ _ _ h => h) (Or.inl ⟨by rfl, by intro w hs; go_simp⟩) hHeld ?_
            refine norm_any' (fun K hK => ?_)
            go_simp
            refine hK _ _ ?_
            clear hK K
            refine wpAnyH_take (i := 19) (v := .pointer (some ⟨A.b, 0, none⟩)) rfl (by kernel_rfl) (by kernel_rfl) (by kernel_rfl) (fun _ _ _ h => h) (Or.inl ⟨by rfl, by intro w hs; go_simp⟩) hHeld ?_
            refine norm_any' (fun K hK => ?_)
            go_simp
            refine hK _ _ ?_
            clear hK K
            refine wpAnyH_take (i := 20) (v := .pointer (some ⟨A.b, 1, none⟩)) rfl (by kernel_rfl) (by kernel_rfl) (by kernel_rfl) (fun _ _ _ h => h) (Or.inl ⟨by rfl, by intro w hs; go_simp⟩) hHeld ?_
            refine norm_any' (fun K hK => ?_)
            go_simp
            refine hK _ _ ?_
            clear hK K
            refine wpAnyH_take (i := 21) (v := .int .i64 gg) rfl (by kernel_rfl) (by kernel_rfl) (by kernel_rfl) (fun _ _ _ h => h) (Or.inl ⟨by rfl, by rintro w ⟨s0, s1, s2, s3⟩; go_simp⟩) hHeld ?_
            refine norm_any' (fun K hK => ?_)
            go_simp
            refine hK _ _ ?_
            clear hK K
            refine wpAnyH_take (i := 22) (v := .bool true) rfl (by kernel_rfl) (by kernel_rfl) (by kernel_rfl) (fun _ _ _ h => h) (Or.inl ⟨by rfl, by intro w hs; go_simp⟩) hHeld ?_
            refine norm_any' (fun K hK => ?_)
            go_simp
            refine hK _ _ ?_
            clear hK K
            refine wpAnyH_take (i := 23) (v := .bool true) rfl (by kernel_rfl) (by kernel_rfl) (by kernel_rfl) (fun _ _ _ h => h) (Or.inl ⟨by rfl, by intro w hs; go_simp⟩) hHeld ?_
            refine norm_any' (fun K hK => ?_)
            go_simp
            refine hK _ _ ?_
            clear hK K
            refine wpAnyH_done (by kernel_rfl) ?_ _
            clear hHeld
            go_wp2
            first | exact HF.out | (refine bodyPost_ret (results_2 (fn := Try.f23) (a := 4) (b := 5) rfl _ _) rfl ?_; exact HF.out) | (trace_state; fail)
          · skip
            have HNX2 : Aside _ := HNX.out (by rw [decide_eq_false p2, Bool.and_false])
            go_wp2_with fail
            refine wp_region_held_drew (S := fun X => X.cell? ⟨A.b, 0, none⟩ = some (.slice (some ⟨g, off, none⟩) N A.c) ∧ X.cell? ⟨g, off + k * 5, none⟩ = some (.int .i64 xn) ∧ X.cell? ⟨g, off + k * 5 + 4, none⟩ = some (.int .i64 st) ∧ X.cell? ⟨A.b, 1, none⟩ = some (.int .i64 gg)) (by kernel_rfl) ⟨c0, q0, q4, c1⟩ (fun hHeld => ?_)
            refine wpAnyH_take (i := 0) (v := .pointer (some ⟨A.b, 0, none⟩)) rfl (by kernel_rfl) (by kernel_rfl) (by kernel_rfl) (fun _ _ _ h => h) (Or.inl ⟨by rfl, by intro w hs; go_simp⟩) hHeld ?_
            refine norm_any' (fun K hK => ?_)
            go_simp
            refine hK _ _ ?_
            clear hK K
            refine wpAnyH_take (i := 1) (v := .pointer (some ⟨A.b, 0, none⟩)) rfl (by kernel_rfl) (by kernel_rfl) (by kernel_rfl) (fun _ _ _ h => h) (Or.inl ⟨by rfl, by intro w hs; go_simp⟩) hHeld ?_
            refine norm_any' (fun K hK => ?_)
            go_simp
            refine hK _ _ ?_
            clear hK K
            refine wpAnyH_take (i := 2) (v := .pointer (some ⟨A.b, 0, none⟩)) rfl (by kernel_rfl) (by kernel_rfl) (by kernel_rfl) (fun _ _ _ h => h) (Or.inl ⟨by rfl, by intro w hs; go_simp⟩) hHeld ?_
            refine norm_any' (fun K hK => ?_)
            go_simp
            refine hK _ _ ?_
            clear hK K
            refine wpAnyH_take (i := 3) (v := .slice (some ⟨g, off, none⟩) N A.c) rfl (by kernel_rfl) (by kernel_rfl) (by kernel_rfl) (fun _ _ _ h => h) (Or.inl ⟨by rfl, by rintro w ⟨s0, s1, s2, s3⟩; go_simp⟩) hHeld ?_
            refine norm_any' (fun K hK => ?_)
            go_simp
            refine hK _ _ ?_
            clear hK K
            refine wpAnyH_take (i := 4) (v := .int .i64 (k : Int)) rfl (by kernel_rfl) (by kernel_rfl) (by kernel_rfl) (fun _ _ _ h => h) (Or.inl ⟨by rfl, by intro w hs; go_simp⟩) hHeld ?_
            refine norm_any' (fun K hK => ?_)
            go_simp
            refine hK _ _ ?_
            clear hK K
            refine wpAnyH_take (i := 5) (v := .pointer (some ⟨g, off + k * 5, none⟩)) rfl (by kernel_rfl) (by kernel_rfl) (by kernel_rfl) (fun _ _ _ h => h) (Or.inl ⟨by rfl, by intro w hs; go_simp⟩) hHeld ?_
            refine norm_any' (fun K hK => ?_)
            go_simp
            refine hK _ _ ?_
            clear hK K
            refine wpAnyH_take (i := 6) (v := .pointer (some ⟨g, off + k * 5 + 4, none⟩)) rfl (by kernel_rfl) (by kernel_rfl) (by kernel_rfl) (fun _ _ _ h => h) (Or.inl ⟨by rfl, by intro w hs; go_simp⟩) hHeld ?_
            refine norm_any' (fun K hK => ?_)
            go_simp
            refine hK _ _ ?_
            clear hK K
            refine wpAnyH_take (i := 7) (v := .int .i64 st) rfl (by kernel_rfl) (by kernel_rfl) (by kernel_rfl) (fun _ _ _ h => h) (Or.inl ⟨by rfl, by rintro w ⟨s0, s1, s2, s3⟩; go_simp⟩) hHeld ?_
            refine norm_any' (fun K hK => ?_)
            go_simp
            refine hK _ _ ?_
            clear hK K
            refine wpAnyH_take (i := 8) (v := .bool true) rfl (by kernel_rfl) (by kernel_rfl) (by kernel_rfl) (fun _ _ _ h => h) (Or.inl ⟨by rfl, by intro w hs; go_simp⟩) hHeld ?_
            refine norm_any' (fun K hK => ?_)
            go_simp
            refine hK _ _ ?_
            clear hK K
            refine wpAnyH_take (i := 9) (v := .bool true) rfl (by kernel_rfl) (by kernel_rfl) (by kernel_rfl) (fun _ _ _ h => h) (Or.inl ⟨by rfl, by intro w hs; go_simp⟩) hHeld ?_
            refine norm_any' (fun K hK => ?_)
            go_simp
            refine hK _ _ ?_
            clear hK K
            refine wpAnyH_take (i := 10) (v := .pointer (some ⟨A.b, 0, none⟩)) rfl (by kernel_rfl) (by kernel_rfl) (by kernel_rfl) (fun _ _ _ h => h) (Or.inl ⟨by rfl, by intro w hs; go_simp⟩) hHeld ?_
            refine norm_any' (fun K hK => ?_)
            go_simp
            refine hK _ _ ?_
            clear hK K
            refine wpAnyH_take (i := 11) (v := .pointer (some ⟨A.b, 0, none⟩)) rfl (by kernel_rfl) (by kernel_rfl) (by kernel_rfl) (fun _ _ _ h => h) (Or.inl ⟨by rfl, by intro w hs; go_simp⟩) hHeld ?_
            refine norm_any' (fun K hK => ?_)
            go_simp
            refine hK _ _ ?_
            clear hK K
            refine wpAnyH_take (i := 12) (v := .pointer (some ⟨A.b, 0, none⟩)) rfl (by kernel_rfl) (by kernel_rfl) (by kernel_rfl) (fun _ _ _ h => h) (Or.inl ⟨by rfl, by intro w hs; go_simp⟩) hHeld ?_
            refine norm_any' (fun K hK => ?_)
            go_simp
            refine hK _ _ ?_
            clear hK K
            refine wpAnyH_take (i := 13) (v := .slice (some ⟨g, off, none⟩) N A.c) rfl (by kernel_rfl) (by kernel_rfl) (by kernel_rfl) (fun _ _ _ h => h) (Or.inl ⟨by rfl, by rintro w ⟨s0, s1, s2, s3⟩; go_simp⟩) hHeld ?_
            refine norm_any' (fun K hK => ?_)
            go_simp
            refine hK _ _ ?_
            clear hK K
            refine wpAnyH_take (i := 14) (v := .int .i64 (k : Int)) rfl (by kernel_rfl) (by kernel_rfl) (by kernel_rfl) (fun _ _ _ h => h) (Or.inl ⟨by rfl, by intro w hs; go_simp⟩) hHeld ?_
            refine norm_any' (fun K hK => ?_)
            go_simp
            refine hK _ _ ?_
            clear hK K
            refine wpAnyH_take (i := 15) (v := .pointer (some ⟨g, off + k * 5, none⟩)) rfl (by kernel_rfl) (by kernel_rfl) (by kernel_rfl) (fun _ _ _ h => h) (Or.inl ⟨by rfl, by intro w hs; go_simp⟩) hHeld ?_
            refine norm_any' (fun K hK => ?_)
            go_simp
            refine hK _ _ ?_
            clear hK K
            refine wpAnyH_take (i := 16) (v := .pointer (some ⟨g, off + k * 5, none⟩)) rfl (by kernel_rfl) (by kernel_rfl) (by kernel_rfl) (fun _ _ _ h => h) (Or.inl ⟨by rfl, by intro w hs; go_simp⟩) hHeld ?_
            refine norm_any' (fun K hK => ?_)
            go_simp
            refine hK _ _ ?_
            clear hK K
            refine wpAnyH_take (i := 17) (v := .int .i64 xn) rfl (by kernel_rfl) (by kernel_rfl) (by kernel_rfl) (fun _ _ _ h => h) (Or.inl ⟨by rfl, by rintro w ⟨s0, s1, s2, s3⟩; go_simp⟩) hHeld ?_
            refine norm_any' (fun K hK => ?_)
            go_simp
            refine hK _ _ ?_
            clear hK K
            refine wpAnyH_take (i := 18) (v := .pointer (some ⟨A.b, 0, none⟩)) rfl (by kernel_rfl) (by kernel_rfl) (by kernel_rfl) (fun _ _ _ h => h) (Or.inl ⟨by rfl, by intro w hs; go_simp⟩) hHeld ?_
            refine norm_any' (fun K hK => ?_)
            go_simp
            refine hK _ _ ?_
            clear hK K
            refine wpAnyH_take (i := 19) (v := .pointer (some ⟨A.b, 0, none⟩)) rfl (by kernel_rfl) (by kernel_rfl) (by kernel_rfl) (fun _ _ _ h => h) (Or.inl ⟨by rfl, by intro w hs; go_simp⟩) hHeld ?_
            refine norm_any' (fun K hK => ?_)
            go_simp
            refine hK _ _ ?_
            clear hK K
            refine wpAnyH_take (i := 20) (v := .pointer (some ⟨A.b, 1, none⟩)) rfl (by kernel_rfl) (by kernel_rfl) (by kernel_rfl) (fun _ _ _ h => h) (Or.inl ⟨by rfl, by intro w hs; go_simp⟩) hHeld ?_
            refine norm_any' (fun K hK => ?_)
            go_simp
            refine hK _ _ ?_
            clear hK K
            refine wpAnyH_take (i := 21) (v := .int .i64 gg) rfl (by kernel_rfl) (by kernel_rfl) (by kernel_rfl) (fun _ _ _ h => h) (Or.inl ⟨by rfl, by rintro w ⟨s0, s1, s2, s3⟩; go_simp⟩) hHeld ?_
            refine norm_any' (fun K hK => ?_)
            go_simp
            refine hK _ _ ?_
            clear hK K
            refine wpAnyH_take (i := 22) (v := .bool false) rfl (by kernel_rfl) (by kernel_rfl) (by kernel_rfl) (fun _ _ _ h => h) (Or.inl ⟨by rfl, by intro w hs; go_simp⟩) hHeld ?_
            refine norm_any' (fun K hK => ?_)
            go_simp
            refine hK _ _ ?_
            clear hK K
            refine wpAnyH_take (i := 23) (v := .bool false) rfl (by kernel_rfl) (by kernel_rfl) (by kernel_rfl) (fun _ _ _ h => h) (Or.inl ⟨by rfl, by intro w hs; go_simp⟩) hHeld ?_
            refine norm_any' (fun K hK => ?_)
            go_simp
            refine hK _ _ ?_
            clear hK K
            refine wpAnyH_done (by kernel_rfl) ?_ _
            clear hHeld
            go_wp2
            go_roundg (N - (k + 1))
            case measure => omega
            case rel => exact ⟨k + 1, rfl, by omega, Nat.le_refl _, HBW.out.drew, HNX2.out⟩
        · skip
          have HNX2 : Aside _ := HNX.out (by rw [decide_eq_false p1]; rfl)
          go_wp2_with fail
          refine wp_region_held_drew (S := fun X => X.cell? ⟨A.b, 0, none⟩ = some (.slice (some ⟨g, off, none⟩) N A.c) ∧ X.cell? ⟨g, off + k * 5, none⟩ = some (.int .i64 xn) ∧ X.cell? ⟨g, off + k * 5 + 4, none⟩ = some (.int .i64 st) ∧ X.cell? ⟨A.b, 1, none⟩ = some (.int .i64 gg)) (by kernel_rfl) ⟨c0, q0, q4, c1⟩ (fun hHeld => ?_)
          refine wpAnyH_take (i := 0) (v := .pointer (some ⟨A.b, 0, none⟩)) rfl (by kernel_rfl) (by kernel_rfl) (by kernel_rfl) (fun _ _ _ h => h) (Or.inl ⟨by rfl, by intro w hs; go_simp⟩) hHeld ?_
          refine norm_any' (fun K hK => ?_)
          go_simp
          refine hK _ _ ?_
          clear hK K
          refine wpAnyH_take (i := 1) (v := .pointer (some ⟨A.b, 0, none⟩)) rfl (by kernel_rfl) (by kernel_rfl) (by kernel_rfl) (fun _ _ _ h => h) (Or.inl ⟨by rfl, by intro w hs; go_simp⟩) hHeld ?_
          refine norm_any' (fun K hK => ?_)
          go_simp
          refine hK _ _ ?_
          clear hK K
          refine wpAnyH_take (i := 2) (v := .pointer (some ⟨A.b, 0, none⟩)) rfl (by kernel_rfl) (by kernel_rfl) (by kernel_rfl) (fun _ _ _ h => h) (Or.inl ⟨by rfl, by intro w hs; go_simp⟩) hHeld ?_
          refine norm_any' (fun K hK => ?_)
          go_simp
          refine hK _ _ ?_
          clear hK K
          refine wpAnyH_take (i := 3) (v := .slice (some ⟨g, off, none⟩) N A.c) rfl (by kernel_rfl) (by kernel_rfl) (by kernel_rfl) (fun _ _ _ h => h) (Or.inl ⟨by rfl, by rintro w ⟨s0, s1, s2, s3⟩; go_simp⟩) hHeld ?_
          refine norm_any' (fun K hK => ?_)
          go_simp
          refine hK _ _ ?_
          clear hK K
          refine wpAnyH_take (i := 4) (v := .int .i64 (k : Int)) rfl (by kernel_rfl) (by kernel_rfl) (by kernel_rfl) (fun _ _ _ h => h) (Or.inl ⟨by rfl, by intro w hs; go_simp⟩) hHeld ?_
          refine norm_any' (fun K hK => ?_)
          go_simp
          refine hK _ _ ?_
          clear hK K
          refine wpAnyH_take (i := 5) (v := .pointer (some ⟨g, off + k * 5, none⟩)) rfl (by kernel_rfl) (by kernel_rfl) (by kernel_rfl) (fun _ _ _ h => h) (Or.inl ⟨by rfl, by intro w hs; go_simp⟩) hHeld ?_
          refine norm_any' (fun K hK => ?_)
          go_simp
          refine hK _ _ ?_
          clear hK K
          refine wpAnyH_take (i := 6) (v := .pointer (some ⟨g, off + k * 5 + 4, none⟩)) rfl (by kernel_rfl) (by kernel_rfl) (by kernel_rfl) (fun _ _ _ h => h) (Or.inl ⟨by rfl, by intro w hs; go_simp⟩) hHeld ?_
          refine norm_any' (fun K hK => ?_)
          go_simp
          refine hK _ _ ?_
          clear hK K
          refine wpAnyH_take (i := 7) (v := .int .i64 st) rfl (by kernel_rfl) (by kernel_rfl) (by kernel_rfl) (fun _ _ _ h => h) (Or.inl ⟨by rfl, by rintro w ⟨s0, s1, s2, s3⟩; go_simp⟩) hHeld ?_
          refine norm_any' (fun K hK => ?_)
          go_simp
          refine hK _ _ ?_
          clear hK K
          refine wpAnyH_take (i := 8) (v := .bool false) rfl (by kernel_rfl) (by kernel_rfl) (by kernel_rfl) (fun _ _ _ h => h) (Or.inl ⟨by rfl, by intro w hs; go_simp⟩) hHeld ?_
          refine norm_any' (fun K hK => ?_)
          go_simp
          refine hK _ _ ?_
          clear hK K
          refine wpAnyH_take (i := 9) (v := .bool false) rfl (by kernel_rfl) (by kernel_rfl) (by kernel_rfl) (fun _ _ _ h => h) (Or.inl ⟨by rfl, by intro w hs; go_simp⟩) hHeld ?_
          refine norm_any' (fun K hK => ?_)
          go_simp
          refine hK _ _ ?_
          clear hK K
          refine wpAnyH_take (i := 10) (v := undef) rfl (by kernel_rfl) (by kernel_rfl) (by kernel_rfl) (fun _ _ _ h => h) (Or.inr ⟨by rfl, rfl⟩) hHeld ?_
          refine norm_any' (fun K hK => ?_)
          go_simp
          refine hK _ _ ?_
          clear hK K
          refine wpAnyH_take (i := 11) (v := undef) rfl (by kernel_rfl) (by kernel_rfl) (by kernel_rfl) (fun _ _ _ h => h) (Or.inr ⟨by rfl, rfl⟩) hHeld ?_
          refine norm_any' (fun K hK => ?_)
          go_simp
          refine hK _ _ ?_
          clear hK K
          refine wpAnyH_take (i := 12) (v := undef) rfl (by kernel_rfl) (by kernel_rfl) (by kernel_rfl) (fun _ _ _ h => h) (Or.inr ⟨by rfl, rfl⟩) hHeld ?_
          refine norm_any' (fun K hK => ?_)
          go_simp
          refine hK _ _ ?_
          clear hK K
          refine wpAnyH_take (i := 13) (v := undef) rfl (by kernel_rfl) (by kernel_rfl) (by kernel_rfl) (fun _ _ _ h => h) (Or.inr ⟨by rfl, rfl⟩) hHeld ?_
          refine norm_any' (fun K hK => ?_)
          go_simp
          refine hK _ _ ?_
          clear hK K
          refine wpAnyH_take (i := 14) (v := undef) rfl (by kernel_rfl) (by kernel_rfl) (by kernel_rfl) (fun _ _ _ h => h) (Or.inr ⟨by rfl, rfl⟩) hHeld ?_
          refine norm_any' (fun K hK => ?_)
          go_simp
          refine hK _ _ ?_
          clear hK K
          refine wpAnyH_take (i := 15) (v := undef) rfl (by kernel_rfl) (by kernel_rfl) (by kernel_rfl) (fun _ _ _ h => h) (Or.inr ⟨by rfl, rfl⟩) hHeld ?_
          refine norm_any' (fun K hK => ?_)
          go_simp
          refine hK _ _ ?_
          clear hK K
          refine wpAnyH_take (i := 16) (v := undef) rfl (by kernel_rfl) (by kernel_rfl) (by kernel_rfl) (fun _ _ _ h => h) (Or.inr ⟨by rfl, rfl⟩) hHeld ?_
          refine norm_any' (fun K hK => ?_)
          go_simp
          refine hK _ _ ?_
          clear hK K
          refine wpAnyH_take (i := 17) (v := undef) rfl (by kernel_rfl) (by kernel_rfl) (by kernel_rfl) (fun _ _ _ h => h) (Or.inr ⟨by rfl, rfl⟩) hHeld ?_
          refine norm_any' (fun K hK => ?_)
          go_simp
          refine hK _ _ ?_
          clear hK K
          refine wpAnyH_take (i := 18) (v := undef) rfl (by kernel_rfl) (by kernel_rfl) (by kernel_rfl) (fun _ _ _ h => h) (Or.inr ⟨by rfl, rfl⟩) hHeld ?_
          refine norm_any' (fun K hK => ?_)
          go_simp
          refine hK _ _ ?_
          clear hK K
          refine wpAnyH_take (i := 19) (v := undef) rfl (by kernel_rfl) (by kernel_rfl) (by kernel_rfl) (fun _ _ _ h => h) (Or.inr ⟨by rfl, rfl⟩) hHeld ?_
          refine norm_any' (fun K hK => ?_)
          go_simp
          refine hK _ _ ?_
          clear hK K
          refine wpAnyH_take (i := 20) (v := undef) rfl (by kernel_rfl) (by kernel_rfl) (by kernel_rfl) (fun _ _ _ h => h) (Or.inr ⟨by rfl, rfl⟩) hHeld ?_
          refine norm_any' (fun K hK => ?_)
          go_simp
          refine hK _ _ ?_
          clear hK K
          refine wpAnyH_take (i := 21) (v := undef) rfl (by kernel_rfl) (by kernel_rfl) (by kernel_rfl) (fun _ _ _ h => h) (Or.inr ⟨by rfl, rfl⟩) hHeld ?_
          refine norm_any' (fun K hK => ?_)
          go_simp
          refine hK _ _ ?_
          clear hK K
          refine wpAnyH_take (i := 22) (v := undef) rfl (by kernel_rfl) (by kernel_rfl) (by kernel_rfl) (fun _ _ _ h => h) (Or.inr ⟨by rfl, rfl⟩) hHeld ?_
          refine norm_any' (fun K hK => ?_)
          go_simp
          refine hK _ _ ?_
          clear hK K
          refine wpAnyH_take (i := 23) (v := .bool false) rfl (by kernel_rfl) (by kernel_rfl) (by kernel_rfl) (fun _ _ _ h => h) (Or.inl ⟨by rfl, by intro w hs; go_simp⟩) hHeld ?_
          refine norm_any' (fun K hK => ?_)
          go_simp
          refine hK _ _ ?_
          clear hK K
          refine wpAnyH_done (by kernel_rfl) ?_ _
          clear hHeld
          go_wp2
          go_roundg (N - (k + 1))
          case measure => omega
          case rel => exact ⟨k + 1, rfl, by omega, Nat.le_refl _, HBW.out.drew, HNX2.out⟩
      · obtain rfl : k = N := by omega
        have i1 : ¬ (k : Int) < k := by omega
        have HF : Aside (RR (.returned (.tuple #[.int .i64 0, .bool false])) wr) := HR.out _ _ wr (by
          have := HI.out.2
          rw [show R.L.take k = R.L by rw [← HN.out, List.take_length]] at this
          rw [HD2.out, this]) HI.out.1
        clear HR HI
        go_wp2
        first | exact HF.out | (refine bodyPost_ret (results_2 (fn := Try.f23) (a := 4) (b := 5) rfl _ _) rfl ?_; exact HF.out) | (trace_state; fail)
  · rw [decide_eq_false ht] at hti
    have HF : Aside (RR (.returned (.tuple #[.int .i64 0, .bool false])) W) := HR.out _ _ W (by rw [HD.out, if_pos ht]) (Below.refl _ _)
    clear h hok HD HR ht
    go_enter Try.func23, Try.ntmps23
    go_wp2_with fail
    refine hti.mono ?_
    rintro e u ⟨rfl, hu⟩
    subst u
    clear hti
    go_wp2
    first | exact HF.out | (refine bodyPost_ret (results_2 (fn := Try.f23) (a := 4) (b := 5) rfl _ _) rfl ?_; exact HF.out) | (trace_state; fail)
end Go.Proofs.Ytkjcapmhjhnckaa
