/- The reference's Acked: the walk. -/
import Derived.Test.YtkjcapmhjhnckaaRz
import Derived.Test.YtkjcapmhjhnckaaSa
import Derived.Test.YtkjcapmhjhnckaaJp
import Derived.Test.YtkjcapmhjhnckaaFi
import Derived.Deep.CutBlock
namespace Go.Proofs.Ytkjcapmhjhnckaa
open Go.RowKit Go.Maps Go.Shelf
set_option linter.unusedVariables false
set_option maxRecDepth 100000

/-- The reference's ledger behind an acknowledgement. -/
def Rs.arr (R : Rs) (S : List (Int × Int)) (now : Int) : Rs := { L := ram S R.L, g := rg R.g (ram S R.L), t := now }
def Rs.smp (R : Rs) (S : List (Int × Int)) (now : Int) : Int := if ((rat S R.L).any fun x => x.1.e) = true then tks (hi S) now ((rat S R.L).map fun x => x.1) else -1
theorem hvQ_snoc (S : List (Int × Int)) (s : Int × Int) (Q : List (Pk × Int)) : hvQ (S ++ [s]) Q = (hvQ S Q && decide ((cnt s.1 s.2 Q : Int) = s.2 - s.1 + 1)) := by simp [hvQ]
theorem rg_bound {g : Int} {Q : List (Pk × Int)} (h0 : -1 ≤ g) (h1 : g ≤ 4611686018427387903) (h : ∀ x ∈ Q, x.1.ok) : -1 ≤ rg g Q ∧ rg g Q ≤ 4611686018427387903 := by
  unfold rg
  induction Q generalizing g with
  | nil => exact ⟨h0, h1⟩
  | cons x t ih =>
    rw [List.foldl_cons]
    have hx := h x (by simp)
    have := hx.n0
    have := hx.n1
    refine ih ?_ ?_ fun y hy => h y (by simp [hy])
    · split <;> omega
    · split <;> omega
/-- Behind those that arrived: the result lies in B. -/
structure Dq (W : World) (A : Ra) (R : Rs) (B : Nat) (P : List (Pk × Int)) (o : Option Addr) (c : Nat) (sa : Int) (X : World) : Prop where
  lg : Rl X A R
  st : Chg (fun j => A.own j ∨ j = B) W X
  rb : X.heap[B]? = some (.cells (rrv o P.length c none 0 0 sa 0) 45 (0, 0))
  pr : Qr X o c P
  new : ∀ j, Blk o j → W.heap.size ≤ j
theorem Dq.samp {W X : World} {A : Ra} {R : Rs} {B : Nat} {P : List (Pk × Int)} {o : Option Addr} {c : Nat} {sa : Int} (h : Dq W A R B P o c sa X) (hBW : B < W.heap.size) (hBA : ¬ A.own B) (v : Int) : Dq W A R B P o c v (X.setCell ⟨B, 2, none⟩ (.int .i64 v)) := by
  have c4 : Chg (fun j => j = B) X (X.setCell ⟨B, 2, none⟩ (.int .i64 v)) := by
    rw [setCell_eq_setRow X B 2 _ 45 (0, 0) _ h.rb]
    exact Chg.setRow _ _ rfl
  refine ⟨h.lg.chg c4 fun j hj e => hBA (e ▸ hj), h.st.trans (c4.mono fun j _ hj => .inr hj), ?_, Rw.chg h.pr c4 fun j hj e => ?_, h.new⟩
  · rw [setCell_eq_setRow X B 2 _ 45 (0, 0) _ h.rb, setRow_heap X B _ _ 45 (0, 0) h.rb]
    simp [rrv]
  · have := h.new j hj
    omega
theorem Dq.great {W X : World} {A : Ra} {R : Rs} {B : Nat} {P : List (Pk × Int)} {o : Option Addr} {c : Nat} {sa : Int} (h : Dq W A R B P o c sa X) (hlt : ∀ j, A.own j → j < W.heap.size) (hBA : ¬ A.own B) (v : Int) : Dq W A { R with g := v } B P o c sa (X.setCell ⟨A.b, 1, none⟩ (.int .i64 v)) := by
  obtain ⟨h2, s2⟩ := h.lg.set (R' := { R with g := v }) 1 (.int .i64 v) (by simp) rfl
  refine ⟨h2, h.st.trans (s2.chg.mono fun j _ hj => .inl hj), s2.chg.blk h.rb hBA, Rw.chg h.pr s2.chg fun j hj hA => ?_, h.new⟩
  have := h.new j hj
  have := hlt j hA
  omega
set_option maxHeartbeats 8000000 in
theorem racked_c {W : World} {A : Ra} {R : Rs} (h : Rl W A R) (hl : R.L.length ≤ 3000000000000) (hok : ∀ x ∈ R.L, x.1.ok) (g0 : -1 ≤ R.g) (g1 : R.g ≤ 4611686018427387903) (la : Option Addr) (cap : Nat) (S : List (Int × Int)) (hS : ∀ X, Chg A.own W X → Sr X la S) (hSl : S.length ≤ 9000000000000000000) (hin : ∀ x ∈ S, -9223372036854775808 ≤ x.1) (now late : Int) :
    Calls Try.prog 13 #[.pointer (some ⟨A.b, 0, none⟩), .slice la S.length cap, .int .i64 now, .int .i64 late] W fun e w' => (rwa R S now late ≠ 0 → RNo1 W A R (rwa R S now late) e w') ∧ (rwa R S now late = 0 → RYes1 W A (rat S R.L) (rlt (R.arr S now).g (now - late) (R.arr S now).L) (R.smp S now) (rsp (rlm (R.arr S now).g (now - late) (R.arr S now).L) ((rlt (R.arr S now).g (now - late) (R.arr S now).L).map fun x => x.1) 0) { R.arr S now with L := rlm (R.arr S now).g (now - late) (R.arr S now).L } e w') := by
  have hb0 := bel1 W (.cells #[.slice none 0 0, .slice none 0 0, .int .i64 0, .int .i64 0] 45)
  have hx0 := heap_alloc_new W (.cells #[.slice none 0 0, .slice none 0 0, .int .i64 0, .int .i64 0] 45)
  have hlt : ∀ j, A.own j → j < W.heap.size := fun j hj => h.lt hj
  obtain ⟨W0, hW0⟩ : ∃ W0, W.alloc (.cells #[.slice none 0 0, .slice none 0 0, .int .i64 0, .int .i64 0] 45) = W0 := ⟨_, rfl⟩
  rw [hW0] at hb0 hx0
  have h1 := h.bel hb0
  have htn := rtime_c now W0
  have htl := rtime_c late W0
  have HSR : Aside (∀ X, Chg A.own W X → Sr X la S) := hS
  have hfi := rfits_c la cap S (hS W0 ((Chg.refl _ _).below hb0)) hSl hin
  have HE : Aside (rwa R S now late = if ¬ (0 ≤ now ∧ now ≤ 1125899906842624) ∨ ¬ (0 ≤ late ∧ late ≤ 1125899906842624) ∨ aa S = false then 2 else if now < R.t then 42 else if hvQ S R.L = false then 11 else 0) := rfl
  have HNO : Aside (∀ (x : Int) Y, Below W0.heap.size W0 Y → RNo1 W A R x (.returned (.tuple #[.agg (rv none 0 0 none 0 0 0 0), .int .i64 x])) Y) := fun x Y hY => ⟨rfl, h1.bel hY, Rp.of_below (bel_trans hb0 hY)⟩
  obtain ⟨N, hN⟩ : ∃ N, S.length = N := ⟨_, rfl⟩
  have HNN : Aside (S.length = N) := hN
  rw [hN] at hfi hSl ⊢
  have HAA : Aside (aa S = aa S) := rfl
  obtain ⟨EE, hEE⟩ : ∃ EE, rwa R S now late = EE := ⟨_, rfl⟩
  rw [hEE] at HE ⊢
  clear hS hN
  by_cases q1 : 0 ≤ now ∧ now ≤ 1125899906842624
  rotate_left
  · have hv : EE = 2 := by rw [HE.out, if_pos (.inl q1)]
    rw [decide_eq_false q1] at htn

    subst hv
    generalize RNo1 W A R = RR at *
    clear h h1 hb0 hlt hok HE hEE HSR
    go_enter Try.func13, Try.ntmps13
    go_wp2_with fail
    refine htn.mono ?_
    rintro e u ⟨rfl, hu⟩
    subst u
    go_wp2_with (refine wpList_store_row rfl 45 _ _ rfl W.heap.size (rv none 0 0 none 0 0 0 0) rfl rfl 45 _ hx0 (by kernel_rfl) rfl (rv_one _ _ _ _ _ _ _ _) ?_)
    refine bodyPost_ret (results_ct (fn := Try.f13) (p := 8) (u := 9) rfl _ _ W.heap.size 45 _ (0, 0) _ rfl (setRow_heap _ W.heap.size _ #[.slice none 0 0, .slice none 0 0, .int .i64 0, .int .i64 0] 45 (0, 0) hx0) Try.underlying45 rfl (by kernel_rfl)) rfl ?_
    refine ⟨fun _ => ?_, fun h => absurd h (by decide)⟩
    rw [show rv none 0 0 none 0 0 0 0 = #[.slice none 0 0, .slice none 0 0, .int .i64 0, .int .i64 0] from rfl, setRow_self _ W.heap.size _ 45 (0, 0) hx0]
    exact HNO.out 2 W0 (Below.refl _ _)
  rw [decide_eq_true q1] at htn
  by_cases q2 : 0 ≤ late ∧ late ≤ 1125899906842624
  rotate_left
  · have hv : EE = 2 := by rw [HE.out, if_pos (.inr (.inl q2))]
    rw [decide_eq_false q2] at htl
    subst hv
    generalize RNo1 W A R = RR at *
    clear h h1 hb0 hlt hok HE hEE HSR
    go_enter Try.func13, Try.ntmps13
    go_wp2_with fail
    refine htn.mono ?_
    rintro e u ⟨rfl, hu⟩
    subst u
    go_wp2_with fail
    refine htl.mono ?_
    rintro e u ⟨rfl, hu⟩
    subst u
    go_wp2_with (refine wpList_store_row rfl 45 _ _ rfl W.heap.size (rv none 0 0 none 0 0 0 0) rfl rfl 45 _ hx0 (by kernel_rfl) rfl (rv_one _ _ _ _ _ _ _ _) ?_)
    refine bodyPost_ret (results_ct (fn := Try.f13) (p := 8) (u := 9) rfl _ _ W.heap.size 45 _ (0, 0) _ rfl (setRow_heap _ W.heap.size _ #[.slice none 0 0, .slice none 0 0, .int .i64 0, .int .i64 0] 45 (0, 0) hx0) Try.underlying45 rfl (by kernel_rfl)) rfl ?_
    refine ⟨fun _ => ?_, fun h => absurd h (by decide)⟩
    rw [show rv none 0 0 none 0 0 0 0 = #[.slice none 0 0, .slice none 0 0, .int .i64 0, .int .i64 0] from rfl, setRow_self _ W.heap.size _ 45 (0, 0) hx0]
    exact HNO.out 2 W0 (Below.refl _ _)
  rw [decide_eq_true q2] at htl
  unfold FiR at hfi
  cases haa : aa S with
  | false =>
    have hv : EE = 2 := by rw [HE.out, if_pos (.inr (.inr haa))]
    rw [haa] at hfi
    subst hv
    generalize RNo1 W A R = RR at *
    clear h h1 hb0 hlt hok HE hEE HSR
    go_enter Try.func13, Try.ntmps13
    go_wp2_with fail
    refine htn.mono ?_
    rintro e u ⟨rfl, hu⟩
    subst u
    go_wp2_with fail
    refine htl.mono ?_
    rintro e u ⟨rfl, hu⟩
    subst u
    go_wp2_with fail
    refine hfi.mono ?_
    rintro e W9 ⟨rfl, hb9⟩
    have hx9 := (hb9.block _ (Array.getElem?_eq_some_iff.1 hx0).1).trans hx0
    have HNO9 : Aside _ := HNO.out 2 W9 hb9
    clear hb9
    go_wp2_with (refine wpList_store_row rfl 45 _ _ rfl W.heap.size (rv none 0 0 none 0 0 0 0) rfl rfl 45 _ hx9 (by kernel_rfl) rfl (rv_one _ _ _ _ _ _ _ _) ?_)
    refine bodyPost_ret (results_ct (fn := Try.f13) (p := 8) (u := 9) rfl _ _ W.heap.size 45 _ (0, 0) _ rfl (setRow_heap _ W.heap.size _ #[.slice none 0 0, .slice none 0 0, .int .i64 0, .int .i64 0] 45 (0, 0) hx9) Try.underlying45 rfl (by kernel_rfl)) rfl ?_
    refine ⟨fun _ => ?_, fun h => absurd h (by decide)⟩
    rw [show rv none 0 0 none 0 0 0 0 = #[.slice none 0 0, .slice none 0 0, .int .i64 0, .int .i64 0] from rfl, setRow_self _ W.heap.size _ 45 (0, 0) hx9]
    exact HNO9.out
  | true =>
  rw [haa] at hfi
  have c2 := h1.c2
  by_cases q3 : now < R.t
  · have hv : EE = 42 := by rw [HE.out, if_neg (by rintro (hq | hq | hq) <;> simp_all), if_pos q3]
    have HRl : Aside (Rl W0 A R) := h1
    subst hv
    generalize RNo1 W A R = RR at *
    clear h h1 hb0 hlt hok HE hEE HSR
    go_enter Try.func13, Try.ntmps13
    go_wp2_with fail
    refine htn.mono ?_
    rintro e u ⟨rfl, hu⟩
    subst u
    go_wp2_with fail
    refine htl.mono ?_
    rintro e u ⟨rfl, hu⟩
    subst u
    go_wp2_with fail
    refine hfi.mono ?_
    rintro e W9 ⟨rfl, hb9⟩
    have hx9 := (hb9.block _ (Array.getElem?_eq_some_iff.1 hx0).1).trans hx0
    have HNO9 : Aside _ := HNO.out 42 W9 hb9
    have c29 := (Rl.bel HRl.out hb9).c2
    clear hb9 c2
    go_wp2_with (refine wpList_store_row rfl 45 _ _ rfl W.heap.size (rv none 0 0 none 0 0 0 0) rfl rfl 45 _ hx9 (by kernel_rfl) rfl (rv_one _ _ _ _ _ _ _ _) ?_)
    refine bodyPost_ret (results_ct (fn := Try.f13) (p := 8) (u := 9) rfl _ _ W.heap.size 45 _ (0, 0) _ rfl (setRow_heap _ W.heap.size _ #[.slice none 0 0, .slice none 0 0, .int .i64 0, .int .i64 0] 45 (0, 0) hx9) Try.underlying45 rfl (by kernel_rfl)) rfl ?_
    refine ⟨fun _ => ?_, fun h => absurd h (by decide)⟩
    rw [show rv none 0 0 none 0 0 0 0 = #[.slice none 0 0, .slice none 0 0, .int .i64 0, .int .i64 0] from rfl, setRow_self _ W.heap.size _ 45 (0, 0) hx9]
    exact HNO9.out
  have HE2 : Aside (EE = if hvQ S R.L = false then 11 else 0) := by show EE = _; rw [HE.out, if_neg (by rintro (hq | hq | hq) <;> simp_all), if_neg q3]
  have HRl : Aside (Rl W0 A R) := h1
  have HB0 : Aside (Below W.heap.size W W0) := hb0
  have HX0 : Aside (W0.heap[W.heap.size]? = some (.cells #[.slice none 0 0, .slice none 0 0, .int .i64 0, .int .i64 0] 45 (0, 0))) := hx0
  have HLT : Aside (∀ j, A.own j → j < W.heap.size) := hlt
  have HOK : Aside (∀ x ∈ R.L, x.1.ok) := hok
  have HSB : Aside (∀ s ∈ S, s.1 ≤ s.2 ∧ s.2 ≤ 4611686018427387903 ∧ 0 ≤ s.1) := aa_all haa
  have HN1 : Aside (1 ≤ N) := by
    show 1 ≤ N
    have := haa
    simp only [aa, Bool.and_eq_true, decide_eq_true_eq] at this
    rw [← HNN.out]
    exact this.1.1
  have HL4 : Aside (R.L.length ≤ 4000000000000) := by show _ ≤ _; omega
  have HRR : Aside (∀ e w', RYes1 W A (rat S R.L) (rlt (rg R.g (ram S R.L)) (now - late) (ram S R.L)) (R.smp S now) (rsp (rlm (rg R.g (ram S R.L)) (now - late) (ram S R.L)) ((rlt (rg R.g (ram S R.L)) (now - late) (ram S R.L)).map fun x => x.1) 0) { L := rlm (rg R.g (ram S R.L)) (now - late) (ram S R.L), g := rg R.g (ram S R.L), t := now } e w' → RYes1 W A (rat S R.L) (rlt (R.arr S now).g (now - late) (R.arr S now).L) (R.smp S now) (rsp (rlm (R.arr S now).g (now - late) (R.arr S now).L) ((rlt (R.arr S now).g (now - late) (R.arr S now).L).map fun x => x.1) 0) { R.arr S now with L := rlm (R.arr S now).g (now - late) (R.arr S now).L } e w') := fun _ _ h => h
  generalize RYes1 W A (rat S R.L) (rlt (R.arr S now).g (now - late) (R.arr S now).L) (R.smp S now) (rsp (rlm (R.arr S now).g (now - late) (R.arr S now).L) ((rlt (R.arr S now).g (now - late) (R.arr S now).L).map fun x => x.1) 0) { R.arr S now with L := rlm (R.arr S now).g (now - late) (R.arr S now).L } = RR at HRR ⊢
  clear h h1 hb0 hx0 hlt hok hEE hin HE HAA haa c2
  generalize hP0 : W.heap.size = P0 at *
  go_enter Try.func13, Try.ntmps13
  go_wp2_with fail
  refine htn.mono ?_
  rintro e u ⟨rfl, hu⟩
  subst u
  go_wp2_with fail
  refine htl.mono ?_
  rintro e u ⟨rfl, hu⟩
  subst u
  go_wp2_with fail
  refine hfi.mono ?_
  rintro e X0 ⟨rfl, hb9⟩
  have c29 := (Rl.bel HRl.out hb9).c2
  have HB9 : Aside (Below W0.heap.size W0 X0) := hb9
  clear htn htl hfi hb9
  go_upto_block 0 with fail
  go_cut [] from 19 (fun wx => Aside (Below W0.heap.size W0 wx ∧ hvQ S R.L = true))
  case first =>
    go_wp2_with fail
    go_loopg [10] N (fun kx s10 wr => ∃ (i : Nat), s10 = .int .i64 (i : Int) ∧ i ≤ N ∧ N - i ≤ kx ∧ Aside (Below W0.heap.size W0 wr ∧ hvQ (S.take i) R.L = true))
    case atStart => exact ⟨0, rfl, by omega, by omega, HB9.out, rfl⟩
    case round =>
      clear HB9 c29
      obtain ⟨i, rfl, hi, hgi, HI⟩ := hrel
      by_cases hlt : i < N
      rotate_left
      · obtain rfl : i = N := by omega
        have i1 : ¬ (i : Int) < i := by omega
        go_wp2
        go_meet
        case rel =>
          refine ⟨HI.out.1, ?_⟩
          have := HI.out.2
          rw [← HNN.out, List.take_length] at this
          exact this
      · have i1 : (i : Int) < N := by omega
        have iw : IntKind.i64.wrap ((i : Int) + 1) = (i : Int) + 1 := wrp _ (by omega) (by omega)
        have hiS : i < S.length := by rw [HNN.out]; exact hlt
        have hWw : Below P0 W wr := HB0.out.trans (HI.out.1.mono (by rw [← hP0]; have := HB0.out.size; omega))
        obtain ⟨bs, offs, hla, x0, x1⟩ := HSR.out wr ((Chg.refl _ _).below (by rw [hP0]; exact hWw)) i hiS
        have hsb := HSB.out _ (List.getElem_mem hiS)
        have HNX : Aside (hvQ (S.take (i + 1)) R.L = decide ((cnt S[i].1 S[i].2 R.L : Int) = S[i].2 - S[i].1 + 1)) := by
          show hvQ _ _ = _
          rw [List.take_succ_eq_append_getElem hiS, hvQ_snoc, HI.out.2, Bool.true_and]
        have HNE : Aside ((cnt S[i].1 S[i].2 R.L : Int) ≠ S[i].2 - S[i].1 + 1 → hvQ S R.L = false) := fun hq => by
          cases hv : hvQ S R.L with
          | false => rfl
          | true =>
            exfalso
            apply hq
            have := List.all_eq_true.1 hv S[i] (List.getElem_mem hiS)
            simpa using this
        have hRl := HRl.out.bel HI.out.1
        have hcn := rcount_c (hRl.bel (Below.refl _ wr).drew) HL4.out S[i].1 S[i].2
        unfold CnR at hcn
        have HBW : Aside (Below W0.heap.size W0 wr.drew) := HI.out.1.drew
        clear hRl HI hWw
        generalize S[i] = s at *
        clear hiS
        obtain ⟨f, l⟩ := s
        simp only at x0 x1 hsb HNX HNE hcn
        have il1 : IntKind.i64.wrap (l - f) = l - f := wrp _ (by omega) (by omega)
        have il2 : IntKind.i64.wrap (l - f + 1) = l - f + 1 := wrp _ (by omega) (by omega)
        generalize cnt f l R.L = C at *
        subst hla
        have y0 : wr.drew.cell? ⟨bs, offs + i * 2, none⟩ = some (.int .i64 f) := x0
        have y1 : wr.drew.cell? ⟨bs, offs + i * 2 + 1, none⟩ = some (.int .i64 l) := x1
        by_cases hcnt : (C : Int) = l - f + 1
        · go_wp2_with fail
          go_region_held3 (fun w' => w'.cell? ⟨bs, offs + i * 2, none⟩ = some (.int .i64 f) ∧ w'.cell? ⟨bs, offs + i * 2 + 1, none⟩ = some (.int .i64 l)) (first | exact ⟨cell_bel y0 HC4.out, cell_bel y1 HC4.out⟩ | exact ⟨y0, y1⟩) (first | (go_at_call 37; refine Calls.mono hcn ?_; rintro e w4 ⟨rfl, hb4⟩; have HC4 : Aside (Below wr.drew.heap.size wr.drew w4) := hb4; clear hb4))
          have HV : Aside (hvQ (S.take (i + 1)) R.L = true) := by show _ = _; rw [HNX.out, decide_eq_true hcnt]
          have HB4 : Aside (Below W0.heap.size W0 w4) := bel_trans HBW.out HC4.out
          go_wp2
          go_roundg (N - (i + 1))
          case measure => omega
          case rel => exact ⟨i + 1, rfl, by omega, Nat.le_refl _, HB4.out, HV.out⟩
        · have HEE : Aside (EE = 11) := by show _ = _; rw [HE2.out, if_pos (HNE.out hcnt)]
          go_wp2_with fail
          go_region_held3 (fun w' => w'.cell? ⟨bs, offs + i * 2, none⟩ = some (.int .i64 f) ∧ w'.cell? ⟨bs, offs + i * 2 + 1, none⟩ = some (.int .i64 l)) (first | exact ⟨cell_bel y0 HC4.out, cell_bel y1 HC4.out⟩ | exact ⟨y0, y1⟩) (first | (go_at_call 37; refine Calls.mono hcn ?_; rintro e w4 ⟨rfl, hb4⟩; have HC4 : Aside (Below wr.drew.heap.size wr.drew w4) := hb4; clear hb4))
          have hB4 : Below W0.heap.size W0 w4 := bel_trans HBW.out HC4.out
          have hx4 : w4.heap[P0]? = some (.cells #[.slice none 0 0, .slice none 0 0, .int .i64 0, .int .i64 0] 45 (0, 0)) := (hB4.block _ (Array.getElem?_eq_some_iff.1 HX0.out).1).trans HX0.out
          have HNO4 : Aside (RNo1 W A R 11 (.returned (.tuple #[.agg (rv none 0 0 none 0 0 0 0), .int .i64 11])) w4) := HNO.out 11 w4 hB4
          clear hB4
          go_wp2_with (refine wpList_store_row rfl 45 _ _ rfl P0 (rv none 0 0 none 0 0 0 0) rfl rfl 45 _ hx4 (by kernel_rfl) rfl (rv_one _ _ _ _ _ _ _ _) ?_)
          refine bodyPost_ret (results_ct (fn := Try.f13) (p := 8) (u := 9) rfl _ _ P0 45 _ (0, 0) _ rfl (setRow_heap _ P0 _ #[.slice none 0 0, .slice none 0 0, .int .i64 0, .int .i64 0] 45 (0, 0) hx4) Try.underlying45 rfl (by kernel_rfl)) rfl ?_
          rw [HEE.out]
          refine ⟨fun _ => ?_, fun h => absurd h (by decide)⟩
          rw [show rv none 0 0 none 0 0 0 0 = #[.slice none 0 0, .slice none 0 0, .int .i64 0, .int .i64 0] from rfl, setRow_self _ P0 _ 45 (0, 0) hx4]
          exact HNO4.out
  case rest =>
    obtain ⟨hBc, hvq⟩ := hcut.out
    have hEE0 : EE = 0 := by rw [HE2.out, if_neg (by rw [hvq]; simp)]
    subst hEE0
    obtain ⟨h2, s2⟩ := (HRl.out.bel hBc).set (R' := { R with t := now }) 2 (.int .i64 now) (by simp) rfl
    have f2 := (HRl.out.bel hBc).fz 2
    have e2 := (HRl.out.bel hBc).c2
    have hxc : wc.heap[P0]? = some (.cells #[.slice none 0 0, .slice none 0 0, .int .i64 0, .int .i64 0] 45 (0, 0)) := (hBc.block _ (Array.getElem?_eq_some_iff.1 HX0.out).1).trans HX0.out
    obtain ⟨W1, hW1⟩ : ∃ W1, wc.setCell ⟨A.b, 2, none⟩ (.int .i64 now) = W1 := ⟨_, rfl⟩
    rw [hW1] at h2 s2
    have hno : ¬ A.own P0 := fun hq => by have := HLT.out _ hq; omega
    have hx1 := s2.chg.blk hxc hno
    have hb2 := bel1 W1 (.cells #[.slice none 0 0, .slice none 0 0, .int .i64 (-1), .int .i64 0] 45)
    have hx2 := heap_alloc_new W1 (.cells #[.slice none 0 0, .slice none 0 0, .int .i64 (-1), .int .i64 0] 45)
    obtain ⟨W2, hW2⟩ : ∃ W2, W1.alloc (.cells #[.slice none 0 0, .slice none 0 0, .int .i64 (-1), .int .i64 0] 45) = W2 := ⟨_, rfl⟩
    rw [hW2] at hb2 hx2
    have hs1 : P0 < W1.heap.size := (Array.getElem?_eq_some_iff.1 hx1).1
    have hRp : Rp A A W W2 := ((Rp.of_below (bel_trans (by rw [hP0]; exact HB0.out) hBc)).trans s2).below hb2
    have HX2 : Aside (W2.heap[P0]? = some (.cells #[.slice none 0 0, .slice none 0 0, .int .i64 0, .int .i64 0] 45 (0, 0))) := (hb2.block _ hs1).trans hx1
    have HRP : Aside (Rp A A W W2) := hRp
    have HXB : Aside (W2.heap[W1.heap.size]? = some (.cells #[.slice none 0 0, .slice none 0 0, .int .i64 (-1), .int .i64 0] 45 (0, 0))) := hx2
    have HI0 : Aside (QaI W2 A { R with t := now } S W1.heap.size 0 none 0 W2) := ⟨by simpa [amid, ram] using h2.bel hb2, Chg.refl _ _, by simpa [rat, rrv] using hx2, Qr.nil _, fun j hj => hj.no.elim⟩
    have HBW : Aside (W1.heap.size < W2.heap.size) := (Array.getElem?_eq_some_iff.1 hx2).1
    have HBA : Aside (¬ A.own W1.heap.size) := fun hq => by have := HLT.out _ hq; omega
    have HLT2 : Aside (∀ j, A.own j → j < W2.heap.size) := fun j hj => by have := HLT.out j hj; have := HBW.out; omega
    have HS2 : Aside (∀ X, Chg (fun j => A.own j ∨ j = W1.heap.size) W2 X → Sr X la S) := fun X hX => HSR.out X (hRp.chg.andThen hX fun j hj h => h.elim id fun e => by omega)
    have HW2 : Aside (W1.alloc (.cells #[.slice none 0 0, .slice none 0 0, .int .i64 (-1), .int .i64 0] 45) = W2) := hW2
    obtain ⟨M, hM⟩ : ∃ M, R.L.length = M := ⟨_, rfl⟩
    have HM : Aside (R.L.length = M) := hM
    have HP01 : Aside (P0 < W1.heap.size) := hs1
    have hl' : M ≤ 3000000000000 := by rw [← hM]; exact hl
    have HL3 : Aside (R.L.length ≤ 3000000000000) := hl
    clear hcut hBc hvq h2 s2 hx1 hxc hb2 hx2 hRp hW2 hno hM hl HB9 c29 HNO HE2
    generalize hP1 : W1.heap.size = P1 at *
    go_upto_region 12 with fail
    rw [HW2.out]
    go_upto_block 2 with fail
    clear hW1 f2 e2 HW2
    go_cut [12, 13] from 19 (fun s12 s13 wx => ∃ o c, s12 = .bool ((rat S R.L).any fun x => x.1.e) ∧ s13 = .int .i64 (tks (hi S) now ((rat S R.L).map fun x => x.1)) ∧ Aside (QaI W2 A { R with t := now } S P1 M o c wx))
    case first =>
      go_wp2_with fail
      go_loopg [12, 13, 14] M (fun kx s12 s13 s14 wr => ∃ (k : Nat) (o : Option Addr) (c : Nat) (el : Bool) (tk : Int), s12 = .bool el ∧ s13 = .int .i64 tk ∧ s14 = .int .i64 (k : Int) ∧ k ≤ M ∧ M - k ≤ kx ∧ Aside (QaI W2 A { R with t := now } S P1 k o c wr ∧ el = ((rat S (R.L.take k)).any fun x => x.1.e) ∧ tk = tks (hi S) now ((rat S (R.L.take k)).map fun x => x.1)))
      case atStart => exact ⟨0, none, 0, false, -1, rfl, rfl, rfl, by omega, by omega, HI0.out, rfl, rfl⟩
      case round =>
        clear HI0
        obtain ⟨k, o, c, el, tk, rfl, rfl, rfl, hk, hgk, HI⟩ := hrel
        have c0 : wr.cell? ⟨A.b, 0, none⟩ = some (.slice A.o M A.c) := by
          have := HI.out.1.lg.c0
          rw [show ({ ({ R with t := now } : Rs) with L := amid S R.L k } : Rs).L.length = M by show (amid S R.L k).length = M; rw [amid_len, HM.out]] at this
          exact this
        by_cases hlt : k < M
        rotate_left
        · obtain rfl : k = M := by omega
          have i1 : ¬ (k : Int) < k := by omega
          go_wp2
          go_meet
          case rel =>
            obtain ⟨z1, z2, z3⟩ := HI.out
            rw [show R.L.take k = R.L by rw [← HM.out, List.take_length]] at z2 z3
            exact ⟨o, c, by rw [z2], by rw [z3], z1⟩
        · have i1 : (k : Int) < M := by omega
          have hi' : k < R.L.length := by rw [HM.out]; exact hlt
          have hm : k < ({ ({ R with t := now } : Rs) with L := amid S R.L k } : Rs).L.length := by show k < (amid S R.L k).length; rw [amid_len]; exact hi'
          obtain ⟨g, off, ho, q0, q1, q2, q3, q4, -⟩ := HI.out.1.lg.row.cells hm
          have hat : ({ ({ R with t := now } : Rs) with L := amid S R.L k } : Rs).L[k] = R.L[k] := amid_at hi' _
          rw [hat] at q0 q1 q2 q3 q4
          have iw : IntKind.i64.wrap ((k : Int) + 1) = (k : Int) + 1 := wrp _ (by omega) (by omega)
          have HSK : Aside (ra S R.L[k] = false → ∀ Y, Below wr.heap.size wr Y → QaI W2 A { R with t := now } S P1 (k + 1) o c Y ∧ el = ((rat S (R.L.take (k + 1))).any fun x => x.1.e) ∧ tk = tks (hi S) now ((rat S (R.L.take (k + 1))).map fun x => x.1)) := fun h0 Y hY => by
            have e5 : rat S (R.L.take (k + 1)) = rat S (R.L.take k) := by rw [List.take_succ_eq_append_getElem hi', rat_no _ h0]
            rw [e5]
            exact ⟨(HI.out.1.skip hi' h0).bel hY, HI.out.2⟩
          have HYS : Aside (ra S R.L[k] = true → (el || R.L[k].1.e) = ((rat S (R.L.take (k + 1))).any fun x => x.1.e) ∧ (if R.L[k].1.n = hi S then now - R.L[k].1.a else tk) = tks (hi S) now ((rat S (R.L.take (k + 1))).map fun x => x.1)) := fun h0 => by
            have e5 : rat S (R.L.take (k + 1)) = rat S (R.L.take k) ++ [R.L[k]] := by rw [List.take_succ_eq_append_getElem hi', rat_yes _ h0]
            rw [e5, List.map_append, List.map_cons, List.map_nil, tks_snoc, ← HI.out.2.2, HI.out.2.1]
            exact ⟨by simp, rfl⟩
          have hb1 := bel1 wr (.cells #[.int .i64 R.L[k].1.n, .int .i64 R.L[k].1.a, .int .i64 R.L[k].1.s, .bool R.L[k].1.e, .int .i64 R.L[k].2] 37)
          have hx1 := heap_alloc_new wr (.cells #[.int .i64 R.L[k].1.n, .int .i64 R.L[k].1.a, .int .i64 R.L[k].1.s, .bool R.L[k].1.e, .int .i64 R.L[k].2] 37)
          have hnb : ¬ A.own wr.heap.size := fun hq => by have := HI.out.1.lg.lt hq; omega
          obtain ⟨W3, hW3⟩ : ∃ W3, wr.alloc (.cells #[.int .i64 R.L[k].1.n, .int .i64 R.L[k].1.a, .int .i64 R.L[k].1.s, .bool R.L[k].1.e, .int .i64 R.L[k].2] 37) = W3 := ⟨_, rfl⟩
          rw [hW3] at hb1 hx1
          have HPU : Aside (∀ Y, Below W3.heap.size W3 Y → ra S R.L[k] = true → _) := fun Y hY h0 => ((HI.out.1.bel hb1).bel hY).push HLT2.out HBW.out HBA.out hi' HL3.out h0 ho
          have HX3 : Aside (∀ Y, Below W3.heap.size W3 Y → Y.heap[wr.heap.size]? = some (.cells #[.int .i64 R.L[k].1.n, .int .i64 R.L[k].1.a, .int .i64 R.L[k].1.s, .bool R.L[k].1.e, .int .i64 R.L[k].2] 37 (0, 0))) := fun Y hY => (hY.block _ (Array.getElem?_eq_some_iff.1 hx1).1).trans hx1
          have HB3 : Aside (Below wr.heap.size wr W3) := hb1
          have hob : ¬ Blk o wr.heap.size := fun hq => by have := Rw.lt HI.out.1.pr hq; omega
          have hnP : wr.heap.size ≠ P1 := by have := HBW.out; have := HI.out.1.st.2.2.2.1; omega
          have HS3 : Aside (∀ Y, Below W3.heap.size W3 Y → Sr Y la S) := fun Y hY => HS2.out Y ((HI.out.1.st.below hb1).below hY)
          have HIL : Aside (ra S R.L[k] = (decide (R.L[k].2 = 0) && inS S R.L[k].1)) := rfl
          have hxok := HOK.out _ (List.getElem_mem hi')
          obtain ⟨z0, z1, z2, z3, -, -⟩ := hxok
          clear HI hb1 hx1 hm hat
          generalize hRA : ra S R.L[k] = RA at HSK HPU HYS HIL
          generalize R.L[k] = x at *
          clear hi' hRA
          have HIN : Aside (inS S x.1 = S.any fun s => decide (s.1 ≤ x.1.n) && decide (x.1.n ≤ s.2)) := rfl
          obtain ⟨⟨xn, xa, xz, xe⟩, st⟩ := x
          simp only at q0 q1 q2 q3 q4 z0 z1 z2 z3 HIL hW3 HIN
          generalize hB9 : wr.heap.size = B9 at *
          generalize inS S (⟨xn, xa, xz, xe⟩ : Pk) = IN at HIL HIN
          generalize A.o = oo at *
          subst ho
          go_upto_block 4 with fail
          go_cut [16] from 71 to 149 (fun s16 wx => s16 = .bool IN ∧ Aside (Below W3.heap.size W3 wx))
          case first =>
            clear HSK HPU HYS
            go_wp2_with fail
            go_loopg [16, 17] N (fun kx s16 s17 wr => ∃ (m : Nat) (bb : Bool), s16 = .bool bb ∧ s17 = .int .i64 (m : Int) ∧ m ≤ N ∧ N - m ≤ kx ∧ Aside (Below W3.heap.size W3 wr ∧ bb = (S.take m).any fun s => decide (s.1 ≤ xn) && decide (xn ≤ s.2)))
            case atStart => exact ⟨0, false, rfl, rfl, by omega, by omega, Below.refl _ _, rfl⟩
            case round =>
              obtain ⟨m, bb, rfl, rfl, hm, hgm, HJ⟩ := hrel
              by_cases hmN : m < N
              rotate_left
              · obtain rfl : m = N := by omega
                have i2 : ¬ (m : Int) < m := by omega
                go_wp2
                go_meet
                case rel =>
                  obtain ⟨y1, y2⟩ := HJ.out
                  rw [← HNN.out, List.take_length, ← HIN.out] at y2
                  exact ⟨by rw [y2], y1⟩
              · have i2 : (m : Int) < N := by omega
                have iwm : IntKind.i64.wrap ((m : Int) + 1) = (m : Int) + 1 := wrp _ (by omega) (by omega)
                have hmS : m < S.length := by rw [HNN.out]; exact hmN
                obtain ⟨bs, offs, hla, x0, x1⟩ := HS3.out wr HJ.out.1 m hmS
                have HNX : Aside (((S.take (m + 1)).any fun s => decide (s.1 ≤ xn) && decide (xn ≤ s.2)) = (bb || (decide (S[m].1 ≤ xn) && decide (xn ≤ S[m].2)))) := by
                  show List.any _ _ = _
                  rw [List.take_succ_eq_append_getElem hmS, any_snoc, ← HJ.out.2]
                have HBJ : Aside (Below W3.heap.size W3 wr.drew) := HJ.out.1.drew
                have r0 : wr.drew.cell? ⟨B9, 0, none⟩ = some (.int .i64 xn) := by simp only [World.cell?]; rw [HX3.out wr.drew HJ.out.1.drew]; rfl
                have r1 : wr.drew.cell? ⟨bs, offs + m * 2, none⟩ = some (.int .i64 S[m].1) := x0
                have r2 : wr.drew.cell? ⟨bs, offs + m * 2 + 1, none⟩ = some (.int .i64 S[m].2) := x1
                clear HJ x0 x1
                generalize S[m] = sm at *
                clear hmS
                obtain ⟨sf, sl⟩ := sm
                simp only at r1 r2 HNX
                subst hla
                cases bb with
                | true =>
                  have HV : Aside (((S.take (m + 1)).any fun s => decide (s.1 ≤ xn) && decide (xn ≤ s.2)) = true) := by show List.any _ _ = _; rw [HNX.out]; simp
                  go_wp2_with fail
                  refine wp_region_held_drew (S := fun X => X.cell? ⟨B9, 0, none⟩ = some (.int .i64 xn) ∧ X.cell? ⟨bs, offs + m * 2, none⟩ = some (.int .i64 sf) ∧ X.cell? ⟨bs, offs + m * 2 + 1, none⟩ = some (.int .i64 sl)) (by kernel_rfl) ⟨r0, r1, r2⟩ (fun hHeld => ?_)
                  refine wpAnyH_take (i := 0) (v := .bool true) rfl (by kernel_rfl) (by kernel_rfl) (by kernel_rfl) (fun _ _ _ h => h) (Or.inl ⟨by rfl, by intro w hs; go_simp⟩) hHeld ?_
                  refine norm_any' (fun K hK => ?_)
                  go_simp
                  refine hK _ _ ?_
                  clear hK K
                  refine wpAnyH_take (i := 1) (v := .bool true) rfl (by kernel_rfl) (by kernel_rfl) (by kernel_rfl) (fun _ _ _ h => h) (Or.inl ⟨by rfl, by intro w hs; go_simp⟩) hHeld ?_
                  refine norm_any' (fun K hK => ?_)
                  go_simp
                  refine hK _ _ ?_
                  clear hK K
                  refine wpAnyH_take (i := 2) (v := undef) rfl (by kernel_rfl) (by kernel_rfl) (by kernel_rfl) (fun _ _ _ h => h) (Or.inr ⟨by rfl, rfl⟩) hHeld ?_
                  refine norm_any' (fun K hK => ?_)
                  go_simp
                  refine hK _ _ ?_
                  clear hK K
                  refine wpAnyH_take (i := 3) (v := undef) rfl (by kernel_rfl) (by kernel_rfl) (by kernel_rfl) (fun _ _ _ h => h) (Or.inr ⟨by rfl, rfl⟩) hHeld ?_
                  refine norm_any' (fun K hK => ?_)
                  go_simp
                  refine hK _ _ ?_
                  clear hK K
                  refine wpAnyH_take (i := 4) (v := undef) rfl (by kernel_rfl) (by kernel_rfl) (by kernel_rfl) (fun _ _ _ h => h) (Or.inr ⟨by rfl, rfl⟩) hHeld ?_
                  refine norm_any' (fun K hK => ?_)
                  go_simp
                  refine hK _ _ ?_
                  clear hK K
                  refine wpAnyH_take (i := 5) (v := undef) rfl (by kernel_rfl) (by kernel_rfl) (by kernel_rfl) (fun _ _ _ h => h) (Or.inr ⟨by rfl, rfl⟩) hHeld ?_
                  refine norm_any' (fun K hK => ?_)
                  go_simp
                  refine hK _ _ ?_
                  clear hK K
                  refine wpAnyH_take (i := 6) (v := undef) rfl (by kernel_rfl) (by kernel_rfl) (by kernel_rfl) (fun _ _ _ h => h) (Or.inr ⟨by rfl, rfl⟩) hHeld ?_
                  refine norm_any' (fun K hK => ?_)
                  go_simp
                  refine hK _ _ ?_
                  clear hK K
                  refine wpAnyH_take (i := 7) (v := undef) rfl (by kernel_rfl) (by kernel_rfl) (by kernel_rfl) (fun _ _ _ h => h) (Or.inr ⟨by rfl, rfl⟩) hHeld ?_
                  refine norm_any' (fun K hK => ?_)
                  go_simp
                  refine hK _ _ ?_
                  clear hK K
                  refine wpAnyH_take (i := 8) (v := undef) rfl (by kernel_rfl) (by kernel_rfl) (by kernel_rfl) (fun _ _ _ h => h) (Or.inr ⟨by rfl, rfl⟩) hHeld ?_
                  refine norm_any' (fun K hK => ?_)
                  go_simp
                  refine hK _ _ ?_
                  clear hK K
                  refine wpAnyH_take (i := 9) (v := undef) rfl (by kernel_rfl) (by kernel_rfl) (by kernel_rfl) (fun _ _ _ h => h) (Or.inr ⟨by rfl, rfl⟩) hHeld ?_
                  refine norm_any' (fun K hK => ?_)
                  go_simp
                  refine hK _ _ ?_
                  clear hK K
                  refine wpAnyH_take (i := 10) (v := undef) rfl (by kernel_rfl) (by kernel_rfl) (by kernel_rfl) (fun _ _ _ h => h) (Or.inr ⟨by rfl, rfl⟩) hHeld ?_
                  refine norm_any' (fun K hK => ?_)
                  go_simp
                  refine hK _ _ ?_
                  clear hK K
                  refine wpAnyH_take (i := 11) (v := undef) rfl (by kernel_rfl) (by kernel_rfl) (by kernel_rfl) (fun _ _ _ h => h) (Or.inr ⟨by rfl, rfl⟩) hHeld ?_
                  refine norm_any' (fun K hK => ?_)
                  go_simp
                  refine hK _ _ ?_
                  clear hK K
                  refine wpAnyH_take (i := 12) (v := undef) rfl (by kernel_rfl) (by kernel_rfl) (by kernel_rfl) (fun _ _ _ h => h) (Or.inr ⟨by rfl, rfl⟩) hHeld ?_
                  refine norm_any' (fun K hK => ?_)
                  go_simp
                  refine hK _ _ ?_
                  clear hK K
                  refine wpAnyH_take (i := 13) (v := undef) rfl (by kernel_rfl) (by kernel_rfl) (by kernel_rfl) (fun _ _ _ h => h) (Or.inr ⟨by rfl, rfl⟩) hHeld ?_
                  refine norm_any' (fun K hK => ?_)
                  go_simp
                  refine hK _ _ ?_
                  clear hK K
                  refine wpAnyH_take (i := 14) (v := undef) rfl (by kernel_rfl) (by kernel_rfl) (by kernel_rfl) (fun _ _ _ h => h) (Or.inr ⟨by rfl, rfl⟩) hHeld ?_
                  refine norm_any' (fun K hK => ?_)
                  go_simp
                  refine hK _ _ ?_
                  clear hK K
                  refine wpAnyH_take (i := 15) (v := undef) rfl (by kernel_rfl) (by kernel_rfl) (by kernel_rfl) (fun _ _ _ h => h) (Or.inr ⟨by rfl, rfl⟩) hHeld ?_
                  refine norm_any' (fun K hK => ?_)
                  go_simp
                  refine hK _ _ ?_
                  clear hK K
                  refine wpAnyH_take (i := 16) (v := undef) rfl (by kernel_rfl) (by kernel_rfl) (by kernel_rfl) (fun _ _ _ h => h) (Or.inr ⟨by rfl, rfl⟩) hHeld ?_
                  refine norm_any' (fun K hK => ?_)
                  go_simp
                  refine hK _ _ ?_
                  clear hK K
                  refine wpAnyH_take (i := 17) (v := undef) rfl (by kernel_rfl) (by kernel_rfl) (by kernel_rfl) (fun _ _ _ h => h) (Or.inr ⟨by rfl, rfl⟩) hHeld ?_
                  refine norm_any' (fun K hK => ?_)
                  go_simp
                  refine hK _ _ ?_
                  clear hK K
                  refine wpAnyH_take (i := 18) (v := undef) rfl (by kernel_rfl) (by kernel_rfl) (by kernel_rfl) (fun _ _ _ h => h) (Or.inr ⟨by rfl, rfl⟩) hHeld ?_
                  refine norm_any' (fun K hK => ?_)
                  go_simp
                  refine hK _ _ ?_
                  clear hK K
                  refine wpAnyH_take (i := 19) (v := undef) rfl (by kernel_rfl) (by kernel_rfl) (by kernel_rfl) (fun _ _ _ h => h) (Or.inr ⟨by rfl, rfl⟩) hHeld ?_
                  refine norm_any' (fun K hK => ?_)
                  go_simp
                  refine hK _ _ ?_
                  clear hK K
                  refine wpAnyH_take (i := 20) (v := .bool true) rfl (by kernel_rfl) (by kernel_rfl) (by kernel_rfl) (fun _ _ _ h => h) (Or.inl ⟨by rfl, by intro w hs; go_simp⟩) hHeld ?_
                  refine norm_any' (fun K hK => ?_)
                  go_simp
                  refine hK _ _ ?_
                  clear hK K
                  refine wpAnyH_take (i := 21) (v := .bool true) rfl (by kernel_rfl) (by kernel_rfl) (by kernel_rfl) (fun _ _ _ h => h) (Or.inl ⟨by rfl, by intro w hs; go_simp⟩) hHeld ?_
                  refine norm_any' (fun K hK => ?_)
                  go_simp
                  refine hK _ _ ?_
                  clear hK K
                  refine wpAnyH_done (by kernel_rfl) ?_ _
                  clear hHeld
                  go_wp2
                  go_roundg (N - (m + 1))
                  case measure => omega
                  case rel => exact ⟨m + 1, true, rfl, rfl, by omega, Nat.le_refl _, HBJ.out, HV.out.symm⟩
                | false =>
                  by_cases p1 : sf ≤ xn
                  rotate_left
                  · skip
                    have HV : Aside (((S.take (m + 1)).any fun s => decide (s.1 ≤ xn) && decide (xn ≤ s.2)) = false) := by show List.any _ _ = _; rw [HNX.out]; simp [p1]
                    go_wp2_with fail
                    refine wp_region_held_drew (S := fun X => X.cell? ⟨B9, 0, none⟩ = some (.int .i64 xn) ∧ X.cell? ⟨bs, offs + m * 2, none⟩ = some (.int .i64 sf) ∧ X.cell? ⟨bs, offs + m * 2 + 1, none⟩ = some (.int .i64 sl)) (by kernel_rfl) ⟨r0, r1, r2⟩ (fun hHeld => ?_)
                    refine wpAnyH_take (i := 0) (v := .bool false) rfl (by kernel_rfl) (by kernel_rfl) (by kernel_rfl) (fun _ _ _ h => h) (Or.inl ⟨by rfl, by intro w hs; go_simp⟩) hHeld ?_
                    refine norm_any' (fun K hK => ?_)
                    go_simp
                    refine hK _ _ ?_
                    clear hK K
                    refine wpAnyH_take (i := 1) (v := .bool false) rfl (by kernel_rfl) (by kernel_rfl) (by kernel_rfl) (fun _ _ _ h => h) (Or.inl ⟨by rfl, by intro w hs; go_simp⟩) hHeld ?_
                    refine norm_any' (fun K hK => ?_)
                    go_simp
                    refine hK _ _ ?_
                    clear hK K
                    refine wpAnyH_take (i := 2) (v := .pointer (some ⟨B9, 0, none⟩)) rfl (by kernel_rfl) (by kernel_rfl) (by kernel_rfl) (fun _ _ _ h => h) (Or.inl ⟨by rfl, by intro w hs; go_simp⟩) hHeld ?_
                    refine norm_any' (fun K hK => ?_)
                    go_simp
                    refine hK _ _ ?_
                    clear hK K
                    refine wpAnyH_take (i := 3) (v := .int .i64 xn) rfl (by kernel_rfl) (by kernel_rfl) (by kernel_rfl) (fun _ _ _ h => h) (Or.inl ⟨by rfl, by rintro w ⟨s0, s1, s2⟩; go_simp⟩) hHeld ?_
                    refine norm_any' (fun K hK => ?_)
                    go_simp
                    refine hK _ _ ?_
                    clear hK K
                    refine wpAnyH_take (i := 4) (v := .slice (some ⟨bs, offs, none⟩) N cap) rfl (by kernel_rfl) (by kernel_rfl) (by kernel_rfl) (fun _ _ _ h => h) (Or.inl ⟨by rfl, by intro w hs; go_simp⟩) hHeld ?_
                    refine norm_any' (fun K hK => ?_)
                    go_simp
                    refine hK _ _ ?_
                    clear hK K
                    refine wpAnyH_take (i := 5) (v := .int .i64 (m : Int)) rfl (by kernel_rfl) (by kernel_rfl) (by kernel_rfl) (fun _ _ _ h => h) (Or.inl ⟨by rfl, by intro w hs; go_simp⟩) hHeld ?_
                    refine norm_any' (fun K hK => ?_)
                    go_simp
                    refine hK _ _ ?_
                    clear hK K
                    refine wpAnyH_take (i := 6) (v := .pointer (some ⟨bs, offs + m * 2, none⟩)) rfl (by kernel_rfl) (by kernel_rfl) (by kernel_rfl) (fun _ _ _ h => h) (Or.inl ⟨by rfl, by intro w hs; go_simp⟩) hHeld ?_
                    refine norm_any' (fun K hK => ?_)
                    go_simp
                    refine hK _ _ ?_
                    clear hK K
                    refine wpAnyH_take (i := 7) (v := .pointer (some ⟨bs, offs + m * 2, none⟩)) rfl (by kernel_rfl) (by kernel_rfl) (by kernel_rfl) (fun _ _ _ h => h) (Or.inl ⟨by rfl, by intro w hs; go_simp⟩) hHeld ?_
                    refine norm_any' (fun K hK => ?_)
                    go_simp
                    refine hK _ _ ?_
                    clear hK K
                    refine wpAnyH_take (i := 8) (v := .int .i64 sf) rfl (by kernel_rfl) (by kernel_rfl) (by kernel_rfl) (fun _ _ _ h => h) (Or.inl ⟨by rfl, by rintro w ⟨s0, s1, s2⟩; go_simp⟩) hHeld ?_
                    refine norm_any' (fun K hK => ?_)
                    go_simp
                    refine hK _ _ ?_
                    clear hK K
                    refine wpAnyH_take (i := 9) (v := .bool false) rfl (by kernel_rfl) (by kernel_rfl) (by kernel_rfl) (fun _ _ _ h => h) (Or.inl ⟨by rfl, by intro w hs; go_simp⟩) hHeld ?_
                    refine norm_any' (fun K hK => ?_)
                    go_simp
                    refine hK _ _ ?_
                    clear hK K
                    refine wpAnyH_take (i := 10) (v := .bool false) rfl (by kernel_rfl) (by kernel_rfl) (by kernel_rfl) (fun _ _ _ h => h) (Or.inl ⟨by rfl, by intro w hs; go_simp⟩) hHeld ?_
                    refine norm_any' (fun K hK => ?_)
                    go_simp
                    refine hK _ _ ?_
                    clear hK K
                    refine wpAnyH_take (i := 11) (v := undef) rfl (by kernel_rfl) (by kernel_rfl) (by kernel_rfl) (fun _ _ _ h => h) (Or.inr ⟨by rfl, rfl⟩) hHeld ?_
                    refine norm_any' (fun K hK => ?_)
                    go_simp
                    refine hK _ _ ?_
                    clear hK K
                    refine wpAnyH_take (i := 12) (v := undef) rfl (by kernel_rfl) (by kernel_rfl) (by kernel_rfl) (fun _ _ _ h => h) (Or.inr ⟨by rfl, rfl⟩) hHeld ?_
                    refine norm_any' (fun K hK => ?_)
                    go_simp
                    refine hK _ _ ?_
                    clear hK K
                    refine wpAnyH_take (i := 13) (v := undef) rfl (by kernel_rfl) (by kernel_rfl) (by kernel_rfl) (fun _ _ _ h => h) (Or.inr ⟨by rfl, rfl⟩) hHeld ?_
                    refine norm_any' (fun K hK => ?_)
                    go_simp
                    refine hK _ _ ?_
                    clear hK K
                    refine wpAnyH_take (i := 14) (v := undef) rfl (by kernel_rfl) (by kernel_rfl) (by kernel_rfl) (fun _ _ _ h => h) (Or.inr ⟨by rfl, rfl⟩) hHeld ?_
                    refine norm_any' (fun K hK => ?_)
                    go_simp
                    refine hK _ _ ?_
                    clear hK K
                    refine wpAnyH_take (i := 15) (v := undef) rfl (by kernel_rfl) (by kernel_rfl) (by kernel_rfl) (fun _ _ _ h => h) (Or.inr ⟨by rfl, rfl⟩) hHeld ?_
                    refine norm_any' (fun K hK => ?_)
                    go_simp
                    refine hK _ _ ?_
                    clear hK K
                    refine wpAnyH_take (i := 16) (v := undef) rfl (by kernel_rfl) (by kernel_rfl) (by kernel_rfl) (fun _ _ _ h => h) (Or.inr ⟨by rfl, rfl⟩) hHeld ?_
                    refine norm_any' (fun K hK => ?_)
                    go_simp
                    refine hK _ _ ?_
                    clear hK K
                    refine wpAnyH_take (i := 17) (v := undef) rfl (by kernel_rfl) (by kernel_rfl) (by kernel_rfl) (fun _ _ _ h => h) (Or.inr ⟨by rfl, rfl⟩) hHeld ?_
                    refine norm_any' (fun K hK => ?_)
                    go_simp
                    refine hK _ _ ?_
                    clear hK K
                    refine wpAnyH_take (i := 18) (v := undef) rfl (by kernel_rfl) (by kernel_rfl) (by kernel_rfl) (fun _ _ _ h => h) (Or.inr ⟨by rfl, rfl⟩) hHeld ?_
                    refine norm_any' (fun K hK => ?_)
                    go_simp
                    refine hK _ _ ?_
                    clear hK K
                    refine wpAnyH_take (i := 19) (v := .bool false) rfl (by kernel_rfl) (by kernel_rfl) (by kernel_rfl) (fun _ _ _ h => h) (Or.inl ⟨by rfl, by intro w hs; go_simp⟩) hHeld ?_
                    refine norm_any' (fun K hK => ?_)
                    go_simp
                    refine hK _ _ ?_
                    clear hK K
                    refine wpAnyH_take (i := 20) (v := .bool false) rfl (by kernel_rfl) (by kernel_rfl) (by kernel_rfl) (fun _ _ _ h => h) (Or.inl ⟨by rfl, by intro w hs; go_simp⟩) hHeld ?_
                    refine norm_any' (fun K hK => ?_)
                    go_simp
                    refine hK _ _ ?_
                    clear hK K
                    refine wpAnyH_take (i := 21) (v := .bool false) rfl (by kernel_rfl) (by kernel_rfl) (by kernel_rfl) (fun _ _ _ h => h) (Or.inl ⟨by rfl, by intro w hs; go_simp⟩) hHeld ?_
                    refine norm_any' (fun K hK => ?_)
                    go_simp
                    refine hK _ _ ?_
                    clear hK K
                    refine wpAnyH_done (by kernel_rfl) ?_ _
                    clear hHeld
                    go_wp2
                    go_roundg (N - (m + 1))
                    case measure => omega
                    case rel => exact ⟨m + 1, false, rfl, rfl, by omega, Nat.le_refl _, HBJ.out, HV.out.symm⟩
                  by_cases p2 : xn ≤ sl
                  · skip
                    have HV : Aside (((S.take (m + 1)).any fun s => decide (s.1 ≤ xn) && decide (xn ≤ s.2)) = true) := by show List.any _ _ = _; rw [HNX.out]; simp [p1, p2]
                    go_wp2_with fail
                    refine wp_region_held_drew (S := fun X => X.cell? ⟨B9, 0, none⟩ = some (.int .i64 xn) ∧ X.cell? ⟨bs, offs + m * 2, none⟩ = some (.int .i64 sf) ∧ X.cell? ⟨bs, offs + m * 2 + 1, none⟩ = some (.int .i64 sl)) (by kernel_rfl) ⟨r0, r1, r2⟩ (fun hHeld => ?_)
                    refine wpAnyH_take (i := 0) (v := .bool false) rfl (by kernel_rfl) (by kernel_rfl) (by kernel_rfl) (fun _ _ _ h => h) (Or.inl ⟨by rfl, by intro w hs; go_simp⟩) hHeld ?_
                    refine norm_any' (fun K hK => ?_)
                    go_simp
                    refine hK _ _ ?_
                    clear hK K
                    refine wpAnyH_take (i := 1) (v := .bool false) rfl (by kernel_rfl) (by kernel_rfl) (by kernel_rfl) (fun _ _ _ h => h) (Or.inl ⟨by rfl, by intro w hs; go_simp⟩) hHeld ?_
                    refine norm_any' (fun K hK => ?_)
                    go_simp
                    refine hK _ _ ?_
                    clear hK K
                    refine wpAnyH_take (i := 2) (v := .pointer (some ⟨B9, 0, none⟩)) rfl (by kernel_rfl) (by kernel_rfl) (by kernel_rfl) (fun _ _ _ h => h) (Or.inl ⟨by rfl, by intro w hs; go_simp⟩) hHeld ?_
                    refine norm_any' (fun K hK => ?_)
                    go_simp
                    refine hK _ _ ?_
                    clear hK K
                    refine wpAnyH_take (i := 3) (v := .int .i64 xn) rfl (by kernel_rfl) (by kernel_rfl) (by kernel_rfl) (fun _ _ _ h => h) (Or.inl ⟨by rfl, by rintro w ⟨s0, s1, s2⟩; go_simp⟩) hHeld ?_
                    refine norm_any' (fun K hK => ?_)
                    go_simp
                    refine hK _ _ ?_
                    clear hK K
                    refine wpAnyH_take (i := 4) (v := .slice (some ⟨bs, offs, none⟩) N cap) rfl (by kernel_rfl) (by kernel_rfl) (by kernel_rfl) (fun _ _ _ h => h) (Or.inl ⟨by rfl, by intro w hs; go_simp⟩) hHeld ?_
                    refine norm_any' (fun K hK => ?_)
                    go_simp
                    refine hK _ _ ?_
                    clear hK K
                    refine wpAnyH_take (i := 5) (v := .int .i64 (m : Int)) rfl (by kernel_rfl) (by kernel_rfl) (by kernel_rfl) (fun _ _ _ h => h) (Or.inl ⟨by rfl, by intro w hs; go_simp⟩) hHeld ?_
                    refine norm_any' (fun K hK => ?_)
                    go_simp
                    refine hK _ _ ?_
                    clear hK K
                    refine wpAnyH_take (i := 6) (v := .pointer (some ⟨bs, offs + m * 2, none⟩)) rfl (by kernel_rfl) (by kernel_rfl) (by kernel_rfl) (fun _ _ _ h => h) (Or.inl ⟨by rfl, by intro w hs; go_simp⟩) hHeld ?_
                    refine norm_any' (fun K hK => ?_)
                    go_simp
                    refine hK _ _ ?_
                    clear hK K
                    refine wpAnyH_take (i := 7) (v := .pointer (some ⟨bs, offs + m * 2, none⟩)) rfl (by kernel_rfl) (by kernel_rfl) (by kernel_rfl) (fun _ _ _ h => h) (Or.inl ⟨by rfl, by intro w hs; go_simp⟩) hHeld ?_
                    refine norm_any' (fun K hK => ?_)
                    go_simp
                    refine hK _ _ ?_
                    clear hK K
                    refine wpAnyH_take (i := 8) (v := .int .i64 sf) rfl (by kernel_rfl) (by kernel_rfl) (by kernel_rfl) (fun _ _ _ h => h) (Or.inl ⟨by rfl, by rintro w ⟨s0, s1, s2⟩; go_simp⟩) hHeld ?_
                    refine norm_any' (fun K hK => ?_)
                    go_simp
                    refine hK _ _ ?_
                    clear hK K
                    refine wpAnyH_take (i := 9) (v := .bool true) rfl (by kernel_rfl) (by kernel_rfl) (by kernel_rfl) (fun _ _ _ h => h) (Or.inl ⟨by rfl, by intro w hs; go_simp⟩) hHeld ?_
                    refine norm_any' (fun K hK => ?_)
                    go_simp
                    refine hK _ _ ?_
                    clear hK K
                    refine wpAnyH_take (i := 10) (v := .bool true) rfl (by kernel_rfl) (by kernel_rfl) (by kernel_rfl) (fun _ _ _ h => h) (Or.inl ⟨by rfl, by intro w hs; go_simp⟩) hHeld ?_
                    refine norm_any' (fun K hK => ?_)
                    go_simp
                    refine hK _ _ ?_
                    clear hK K
                    refine wpAnyH_take (i := 11) (v := .pointer (some ⟨B9, 0, none⟩)) rfl (by kernel_rfl) (by kernel_rfl) (by kernel_rfl) (fun _ _ _ h => h) (Or.inl ⟨by rfl, by intro w hs; go_simp⟩) hHeld ?_
                    refine norm_any' (fun K hK => ?_)
                    go_simp
                    refine hK _ _ ?_
                    clear hK K
                    refine wpAnyH_take (i := 12) (v := .int .i64 xn) rfl (by kernel_rfl) (by kernel_rfl) (by kernel_rfl) (fun _ _ _ h => h) (Or.inl ⟨by rfl, by rintro w ⟨s0, s1, s2⟩; go_simp⟩) hHeld ?_
                    refine norm_any' (fun K hK => ?_)
                    go_simp
                    refine hK _ _ ?_
                    clear hK K
                    refine wpAnyH_take (i := 13) (v := .slice (some ⟨bs, offs, none⟩) N cap) rfl (by kernel_rfl) (by kernel_rfl) (by kernel_rfl) (fun _ _ _ h => h) (Or.inl ⟨by rfl, by intro w hs; go_simp⟩) hHeld ?_
                    refine norm_any' (fun K hK => ?_)
                    go_simp
                    refine hK _ _ ?_
                    clear hK K
                    refine wpAnyH_take (i := 14) (v := .int .i64 (m : Int)) rfl (by kernel_rfl) (by kernel_rfl) (by kernel_rfl) (fun _ _ _ h => h) (Or.inl ⟨by rfl, by intro w hs; go_simp⟩) hHeld ?_
                    refine norm_any' (fun K hK => ?_)
                    go_simp
                    refine hK _ _ ?_
                    clear hK K
                    refine wpAnyH_take (i := 15) (v := .pointer (some ⟨bs, offs + m * 2, none⟩)) rfl (by kernel_rfl) (by kernel_rfl) (by kernel_rfl) (fun _ _ _ h => h) (Or.inl ⟨by rfl, by intro w hs; go_simp⟩) hHeld ?_
                    refine norm_any' (fun K hK => ?_)
                    go_simp
                    refine hK _ _ ?_
                    clear hK K
                    refine wpAnyH_take (i := 16) (v := .pointer (some ⟨bs, offs + m * 2 + 1, none⟩)) rfl (by kernel_rfl) (by kernel_rfl) (by kernel_rfl) (fun _ _ _ h => h) (Or.inl ⟨by rfl, by intro w hs; go_simp⟩) hHeld ?_
                    refine norm_any' (fun K hK => ?_)
                    go_simp
                    refine hK _ _ ?_
                    clear hK K
                    refine wpAnyH_take (i := 17) (v := .int .i64 sl) rfl (by kernel_rfl) (by kernel_rfl) (by kernel_rfl) (fun _ _ _ h => h) (Or.inl ⟨by rfl, by rintro w ⟨s0, s1, s2⟩; go_simp⟩) hHeld ?_
                    refine norm_any' (fun K hK => ?_)
                    go_simp
                    refine hK _ _ ?_
                    clear hK K
                    refine wpAnyH_take (i := 18) (v := .bool true) rfl (by kernel_rfl) (by kernel_rfl) (by kernel_rfl) (fun _ _ _ h => h) (Or.inl ⟨by rfl, by intro w hs; go_simp⟩) hHeld ?_
                    refine norm_any' (fun K hK => ?_)
                    go_simp
                    refine hK _ _ ?_
                    clear hK K
                    refine wpAnyH_take (i := 19) (v := .bool true) rfl (by kernel_rfl) (by kernel_rfl) (by kernel_rfl) (fun _ _ _ h => h) (Or.inl ⟨by rfl, by intro w hs; go_simp⟩) hHeld ?_
                    refine norm_any' (fun K hK => ?_)
                    go_simp
                    refine hK _ _ ?_
                    clear hK K
                    refine wpAnyH_take (i := 20) (v := .bool true) rfl (by kernel_rfl) (by kernel_rfl) (by kernel_rfl) (fun _ _ _ h => h) (Or.inl ⟨by rfl, by intro w hs; go_simp⟩) hHeld ?_
                    refine norm_any' (fun K hK => ?_)
                    go_simp
                    refine hK _ _ ?_
                    clear hK K
                    refine wpAnyH_take (i := 21) (v := .bool true) rfl (by kernel_rfl) (by kernel_rfl) (by kernel_rfl) (fun _ _ _ h => h) (Or.inl ⟨by rfl, by intro w hs; go_simp⟩) hHeld ?_
                    refine norm_any' (fun K hK => ?_)
                    go_simp
                    refine hK _ _ ?_
                    clear hK K
                    refine wpAnyH_done (by kernel_rfl) ?_ _
                    clear hHeld
                    go_wp2
                    go_roundg (N - (m + 1))
                    case measure => omega
                    case rel => exact ⟨m + 1, true, rfl, rfl, by omega, Nat.le_refl _, HBJ.out, HV.out.symm⟩
                  · skip
                    have HV : Aside (((S.take (m + 1)).any fun s => decide (s.1 ≤ xn) && decide (xn ≤ s.2)) = false) := by show List.any _ _ = _; rw [HNX.out]; simp [p1, p2]
                    go_wp2_with fail
                    refine wp_region_held_drew (S := fun X => X.cell? ⟨B9, 0, none⟩ = some (.int .i64 xn) ∧ X.cell? ⟨bs, offs + m * 2, none⟩ = some (.int .i64 sf) ∧ X.cell? ⟨bs, offs + m * 2 + 1, none⟩ = some (.int .i64 sl)) (by kernel_rfl) ⟨r0, r1, r2⟩ (fun hHeld => ?_)
                    refine wpAnyH_take (i := 0) (v := .bool false) rfl (by kernel_rfl) (by kernel_rfl) (by kernel_rfl) (fun _ _ _ h => h) (Or.inl ⟨by rfl, by intro w hs; go_simp⟩) hHeld ?_
                    refine norm_any' (fun K hK => ?_)
                    go_simp
                    refine hK _ _ ?_
                    clear hK K
                    refine wpAnyH_take (i := 1) (v := .bool false) rfl (by kernel_rfl) (by kernel_rfl) (by kernel_rfl) (fun _ _ _ h => h) (Or.inl ⟨by rfl, by intro w hs; go_simp⟩) hHeld ?_
                    refine norm_any' (fun K hK => ?_)
                    go_simp
                    refine hK _ _ ?_
                    clear hK K
                    refine wpAnyH_take (i := 2) (v := .pointer (some ⟨B9, 0, none⟩)) rfl (by kernel_rfl) (by kernel_rfl) (by kernel_rfl) (fun _ _ _ h => h) (Or.inl ⟨by rfl, by intro w hs; go_simp⟩) hHeld ?_
                    refine norm_any' (fun K hK => ?_)
                    go_simp
                    refine hK _ _ ?_
                    clear hK K
                    refine wpAnyH_take (i := 3) (v := .int .i64 xn) rfl (by kernel_rfl) (by kernel_rfl) (by kernel_rfl) (fun _ _ _ h => h) (Or.inl ⟨by rfl, by rintro w ⟨s0, s1, s2⟩; go_simp⟩) hHeld ?_
                    refine norm_any' (fun K hK => ?_)
                    go_simp
                    refine hK _ _ ?_
                    clear hK K
                    refine wpAnyH_take (i := 4) (v := .slice (some ⟨bs, offs, none⟩) N cap) rfl (by kernel_rfl) (by kernel_rfl) (by kernel_rfl) (fun _ _ _ h => h) (Or.inl ⟨by rfl, by intro w hs; go_simp⟩) hHeld ?_
                    refine norm_any' (fun K hK => ?_)
                    go_simp
                    refine hK _ _ ?_
                    clear hK K
                    refine wpAnyH_take (i := 5) (v := .int .i64 (m : Int)) rfl (by kernel_rfl) (by kernel_rfl) (by kernel_rfl) (fun _ _ _ h => h) (Or.inl ⟨by rfl, by intro w hs; go_simp⟩) hHeld ?_
                    refine norm_any' (fun K hK => ?_)
                    go_simp
                    refine hK _ _ ?_
                    clear hK K
                    refine wpAnyH_take (i := 6) (v := .pointer (some ⟨bs, offs + m * 2, none⟩)) rfl (by kernel_rfl) (by kernel_rfl) (by kernel_rfl) (fun _ _ _ h => h) (Or.inl ⟨by rfl, by intro w hs; go_simp⟩) hHeld ?_
                    refine norm_any' (fun K hK => ?_)
                    go_simp
                    refine hK _ _ ?_
                    clear hK K
                    refine wpAnyH_take (i := 7) (v := .pointer (some ⟨bs, offs + m * 2, none⟩)) rfl (by kernel_rfl) (by kernel_rfl) (by kernel_rfl) (fun _ _ _ h => h) (Or.inl ⟨by rfl, by intro w hs; go_simp⟩) hHeld ?_
                    refine norm_any' (fun K hK => ?_)
                    go_simp
                    refine hK _ _ ?_
                    clear hK K
                    refine wpAnyH_take (i := 8) (v := .int .i64 sf) rfl (by kernel_rfl) (by kernel_rfl) (by kernel_rfl) (fun _ _ _ h => h) (Or.inl ⟨by rfl, by rintro w ⟨s0, s1, s2⟩; go_simp⟩) hHeld ?_
                    refine norm_any' (fun K hK => ?_)
                    go_simp
                    refine hK _ _ ?_
                    clear hK K
                    refine wpAnyH_take (i := 9) (v := .bool true) rfl (by kernel_rfl) (by kernel_rfl) (by kernel_rfl) (fun _ _ _ h => h) (Or.inl ⟨by rfl, by intro w hs; go_simp⟩) hHeld ?_
                    refine norm_any' (fun K hK => ?_)
                    go_simp
                    refine hK _ _ ?_
                    clear hK K
                    refine wpAnyH_take (i := 10) (v := .bool true) rfl (by kernel_rfl) (by kernel_rfl) (by kernel_rfl) (fun _ _ _ h => h) (Or.inl ⟨by rfl, by intro w hs; go_simp⟩) hHeld ?_
                    refine norm_any' (fun K hK => ?_)
                    go_simp
                    refine hK _ _ ?_
                    clear hK K
                    refine wpAnyH_take (i := 11) (v := .pointer (some ⟨B9, 0, none⟩)) rfl (by kernel_rfl) (by kernel_rfl) (by kernel_rfl) (fun _ _ _ h => h) (Or.inl ⟨by rfl, by intro w hs; go_simp⟩) hHeld ?_
                    refine norm_any' (fun K hK => ?_)
                    go_simp
                    refine hK _ _ ?_
                    clear hK K
                    refine wpAnyH_take (i := 12) (v := .int .i64 xn) rfl (by kernel_rfl) (by kernel_rfl) (by kernel_rfl) (fun _ _ _ h => h) (Or.inl ⟨by rfl, by rintro w ⟨s0, s1, s2⟩; go_simp⟩) hHeld ?_
                    refine norm_any' (fun K hK => ?_)
                    go_simp
                    refine hK _ _ ?_
                    clear hK K
                    refine wpAnyH_take (i := 13) (v := .slice (some ⟨bs, offs, none⟩) N cap) rfl (by kernel_rfl) (by kernel_rfl) (by kernel_rfl) (fun _ _ _ h => h) (Or.inl ⟨by rfl, by intro w hs; go_simp⟩) hHeld ?_
                    refine norm_any' (fun K hK => ?_)
                    go_simp
                    refine hK _ _ ?_
                    clear hK K
                    refine wpAnyH_take (i := 14) (v := .int .i64 (m : Int)) rfl (by kernel_rfl) (by kernel_rfl) (by kernel_rfl) (fun _ _ _ h => h) (Or.inl ⟨by rfl, by intro w hs; go_simp⟩) hHeld ?_
                    refine norm_any' (fun K hK => ?_)
                    go_simp
                    refine hK _ _ ?_
                    clear hK K
                    refine wpAnyH_take (i := 15) (v := .pointer (some ⟨bs, offs + m * 2, none⟩)) rfl (by kernel_rfl) (by kernel_rfl) (by kernel_rfl) (fun _ _ _ h => h) (Or.inl ⟨by rfl, by intro w hs; go_simp⟩) hHeld ?_
                    refine norm_any' (fun K hK => ?_)
                    go_simp
                    refine hK _ _ ?_
                    clear hK K
                    refine wpAnyH_take (i := 16) (v := .pointer (some ⟨bs, offs + m * 2 + 1, none⟩)) rfl (by kernel_rfl) (by kernel_rfl) (by kernel_rfl) (fun _ _ _ h => h) (Or.inl ⟨by rfl, by intro w hs; go_simp⟩) hHeld ?_
                    refine norm_any' (fun K hK => ?_)
                    go_simp
                    refine hK _ _ ?_
                    clear hK K
                    refine wpAnyH_take (i := 17) (v := .int .i64 sl) rfl (by kernel_rfl) (by kernel_rfl) (by kernel_rfl) (fun _ _ _ h => h) (Or.inl ⟨by rfl, by rintro w ⟨s0, s1, s2⟩; go_simp⟩) hHeld ?_
                    refine norm_any' (fun K hK => ?_)
                    go_simp
                    refine hK _ _ ?_
                    clear hK K
                    refine wpAnyH_take (i := 18) (v := .bool false) rfl (by kernel_rfl) (by kernel_rfl) (by kernel_rfl) (fun _ _ _ h => h) (Or.inl ⟨by rfl, by intro w hs; go_simp⟩) hHeld ?_
                    refine norm_any' (fun K hK => ?_)
                    go_simp
                    refine hK _ _ ?_
                    clear hK K
                    refine wpAnyH_take (i := 19) (v := .bool false) rfl (by kernel_rfl) (by kernel_rfl) (by kernel_rfl) (fun _ _ _ h => h) (Or.inl ⟨by rfl, by intro w hs; go_simp⟩) hHeld ?_
                    refine norm_any' (fun K hK => ?_)
                    go_simp
                    refine hK _ _ ?_
                    clear hK K
                    refine wpAnyH_take (i := 20) (v := .bool false) rfl (by kernel_rfl) (by kernel_rfl) (by kernel_rfl) (fun _ _ _ h => h) (Or.inl ⟨by rfl, by intro w hs; go_simp⟩) hHeld ?_
                    refine norm_any' (fun K hK => ?_)
                    go_simp
                    refine hK _ _ ?_
                    clear hK K
                    refine wpAnyH_take (i := 21) (v := .bool false) rfl (by kernel_rfl) (by kernel_rfl) (by kernel_rfl) (fun _ _ _ h => h) (Or.inl ⟨by rfl, by intro w hs; go_simp⟩) hHeld ?_
                    refine norm_any' (fun K hK => ?_)
                    go_simp
                    refine hK _ _ ?_
                    clear hK K
                    refine wpAnyH_done (by kernel_rfl) ?_ _
                    clear hHeld
                    go_wp2
                    go_roundg (N - (m + 1))
                    case measure => omega
                    case rel => exact ⟨m + 1, false, rfl, rfl, by omega, Nat.le_refl _, HBJ.out, HV.out.symm⟩
          case rest =>
            obtain ⟨rfl, hcw⟩ := hcut
            have HWC : Aside (Below W3.heap.size W3 wc) := hcw.out
            have hBwc : Below B9 wr wc := HB3.out.trans (HWC.out.mono (by have := HB3.out.size; omega))
            have r4 : wc.cell? ⟨B9, 4, none⟩ = some (.int .i64 st) := by simp only [World.cell?]; rw [HX3.out wc HWC.out]; rfl
            cases IN with
            | false =>
              have HI3 : Aside _ := HSK.out (by rw [HIL.out]; simp) wc hBwc
              clear HSK HPU HYS hBwc
              go_wp2
              go_roundg (M - (k + 1))
              case measure => omega
              case rel => exact ⟨k + 1, o, c, el, tk, rfl, rfl, rfl, by omega, Nat.le_refl _, HI3.out⟩
            | true =>
              by_cases pst : st = 0
              rotate_left
              · have HI3 : Aside _ := HSK.out (by rw [HIL.out]; simp [pst]) wc hBwc
                clear HSK HPU HYS hBwc
                go_wp2
                go_roundg (M - (k + 1))
                case measure => omega
                case rel => exact ⟨k + 1, o, c, el, tk, rfl, rfl, rfl, by omega, Nat.le_refl _, HI3.out⟩
              · have hra : RA = true := by rw [HIL.out]; simp [pst]
                obtain ⟨g', off', c', w3, e0, ⟨e1v, e1⟩, e2, e3, hkp, hap, ⟨e4v, e4⟩, e5, hI3, hk5⟩ := HPU.out wc HWC.out hra
                obtain ⟨hy1, hy2⟩ := HYS.out hra
                have e0' : wc.cell? ⟨A.b, 0, none⟩ = some (.slice (some ⟨g, off, none⟩) M A.c) := by rw [show ({ R with t := now } : Rs).L.length = M from HM.out] at e0; exact e0
                have HX4 : Aside _ := hkp B9 _ (HX3.out wc HWC.out) hnb
                have HX5 : Aside _ := hk5 B9 _ (HX3.out wc HWC.out) hnb hob hnP
                have HI3 : Aside (QaI W2 A { R with t := now } S P1 (k + 1) (some ⟨g', off', none⟩) c' _) := hI3
                have HHAP : Aside _ := hap 43
                obtain ⟨nn, hnn⟩ : ∃ nn, (rat S (({ R with t := now } : Rs).L.take k)).length = nn := ⟨_, rfl⟩
                rw [hnn] at e3 HHAP HI3 HX5
                obtain ⟨W4, hW4⟩ : ∃ W4, wc.setCell ⟨g, off + k * 5 + 4, none⟩ (.int .i64 1) = W4 := ⟨_, rfl⟩
                rw [hW4] at e3 HHAP HX4
                simp only at HHAP HX4 HX5
                have HAP : Aside ((Builtin.append_ #[43, 43] 43 #[.slice o nn c, .slice (some ⟨W4.heap.size, 0, none⟩) 1 1]).run Try.prog (W4.alloc (.cells #[.int .i64 xn, .int .i64 xa, .int .i64 xz, .bool xe, .int .i64 st] 37)) = .ok (.slice (some ⟨g', off', none⟩) (nn + 1) c') w3) := HHAP.out
                have h0 : W4.cell? ⟨B9, 0, none⟩ = some (.int .i64 xn) := by simp only [World.cell?]; rw [HX4.out]; rfl
                have h1 : W4.cell? ⟨B9, 1, none⟩ = some (.int .i64 xa) := by simp only [World.cell?]; rw [HX4.out]; rfl
                have h2 : W4.cell? ⟨B9, 2, none⟩ = some (.int .i64 xz) := by simp only [World.cell?]; rw [HX4.out]; rfl
                have h3 : W4.cell? ⟨B9, 3, none⟩ = some (.bool xe) := by simp only [World.cell?]; rw [HX4.out]; rfl
                have h4 : W4.cell? ⟨B9, 4, none⟩ = some (.int .i64 st) := by simp only [World.cell?]; rw [HX4.out]; rfl
                have hSr := HS2.out _ HI3.out.st
                obtain ⟨W5, hW5⟩ : ∃ W5, w3.setCell ⟨P1, 0, none⟩ (.slice (some ⟨g', off', none⟩) (nn + 1) c') = W5 := ⟨_, rfl⟩
                rw [hW5] at HX5 HI3 hSr
                have hS0 : 0 < S.length := by rw [HNN.out]; exact HN1.out
                obtain ⟨bs, offs, hla, x0, x1⟩ := hSr 0 hS0
                have hhi : hi S = (S[0]'hS0).2 := by
                  unfold hi
                  rw [List.head?_eq_getElem?, List.getElem?_eq_getElem hS0]
                  rfl
                have v0 : W5.cell? ⟨B9, 0, none⟩ = some (.int .i64 xn) := by simp only [World.cell?]; rw [HX5.out]; rfl
                have v1 : W5.cell? ⟨B9, 1, none⟩ = some (.int .i64 xa) := by simp only [World.cell?]; rw [HX5.out]; rfl
                have v3 : W5.cell? ⟨B9, 3, none⟩ = some (.bool xe) := by simp only [World.cell?]; rw [HX5.out]; rfl
                have v5 : W5.cell? ⟨bs, offs + 1, none⟩ = some (.int .i64 (hi S)) := by rw [hhi]; simpa using x1
                have HY1 : Aside _ := hy1
                have HY2 : Aside _ := hy2
                simp only at HY1 HY2
                have ia : IntKind.i64.wrap (now - xa) = now - xa := wrp _ (by omega) (by omega)
                have iN : (0 : Int) < N := by have := HN1.out; omega
                have iN2 : 0 < N := HN1.out
                clear hap hI3 hkp hk5 HSK HPU HHAP hnn hy1 hy2 hSr x0 x1 hhi hS0 HYS q0 q1 q2 q3 q4 c0 hW3 HX3 HX4 HX5 HS3 hBwc e0
                subst hla
                subst pst
                go_wp2_with (refine appr rfl _ _ 43 43 rfl _ _ rfl rfl HAP.out (Hid.out ?_))
                refine mkHid ?_
                clear h0 h1 h2 h3 h4
                have HEND : Aside (∀ (e' : Bool) (t' : Int) Y, e' = (el || xe) → t' = (if xn = hi S then now - xa else tk) → Below W5.heap.size W5 Y → QaI W2 A { R with t := now } S P1 (k + 1) (some ⟨g', off', none⟩) c' Y ∧ e' = ((rat S (R.L.take (k + 1))).any fun x => x.1.e) ∧ t' = tks (hi S) now ((rat S (R.L.take (k + 1))).map fun x => x.1)) := fun e' t' Y he ht hY => ⟨HI3.out.bel hY, he.trans HY1.out, ht.trans HY2.out⟩
                clear HY1 HY2 HI3
                generalize hi S = HS at *
                have w0 : W5.drew.cell? ⟨B9, 0, none⟩ = some (.int .i64 xn) := v0
                have w5 : W5.drew.cell? ⟨bs, offs + 1, none⟩ = some (.int .i64 HS) := v5
                have w1 : W5.drew.cell? ⟨B9, 1, none⟩ = some (.int .i64 xa) := v1
                by_cases pn : xn = HS
                · have pnb : (xn == HS) = true := by simp [pn]
                  have PN : Aside (xn = HS) := pn
                  clear pn
                  cases el with
                  | true =>
                    go_wp2_with fail
                    go_region_held3 (fun w' => w'.cell? ⟨B9, 0, none⟩ = some (.int .i64 xn) ∧ w'.cell? ⟨bs, offs + 1, none⟩ = some (.int .i64 HS)) (exact ⟨w0, w5⟩) (fail)
                    go_wp2
                    go_roundg (M - (k + 1))
                    case measure => omega
                    case rel => exact ⟨k + 1, _, c', _, _, rfl, rfl, rfl, by omega, Nat.le_refl _, HEND.out _ _ _ rfl (by rw [if_pos PN.out]) (Below.refl _ _).drew⟩
                  | false =>
                    go_wp2_with fail
                    go_region_held3 (fun w' => w'.cell? ⟨B9, 0, none⟩ = some (.int .i64 xn) ∧ w'.cell? ⟨bs, offs + 1, none⟩ = some (.int .i64 HS)) (exact ⟨w0, w5⟩) (fail)
                    go_wp2
                    go_roundg (M - (k + 1))
                    case measure => omega
                    case rel => exact ⟨k + 1, _, c', _, _, rfl, rfl, rfl, by omega, Nat.le_refl _, HEND.out _ _ _ rfl (by rw [if_pos PN.out]) (Below.refl _ _).drew⟩
                · have pnb : (xn == HS) = false := by simp [pn]
                  have PN : Aside (¬ xn = HS) := pn
                  clear pn
                  cases el with
                  | true =>
                    go_wp2_with fail
                    go_region_held3 (fun w' => w'.cell? ⟨B9, 0, none⟩ = some (.int .i64 xn) ∧ w'.cell? ⟨bs, offs + 1, none⟩ = some (.int .i64 HS)) (exact ⟨w0, w5⟩) (fail)
                    go_wp2
                    go_roundg (M - (k + 1))
                    case measure => omega
                    case rel => exact ⟨k + 1, _, c', _, _, rfl, rfl, rfl, by omega, Nat.le_refl _, HEND.out _ _ _ rfl (by rw [if_neg PN.out]) (Below.refl _ _).drew⟩
                  | false =>
                    go_wp2_with fail
                    go_region_held3 (fun w' => w'.cell? ⟨B9, 0, none⟩ = some (.int .i64 xn) ∧ w'.cell? ⟨bs, offs + 1, none⟩ = some (.int .i64 HS)) (exact ⟨w0, w5⟩) (fail)
                    go_wp2
                    go_roundg (M - (k + 1))
                    case measure => omega
                    case rel => exact ⟨k + 1, _, c', _, _, rfl, rfl, rfl, by omega, Nat.le_refl _, HEND.out _ _ _ rfl (by rw [if_neg PN.out]) (Below.refl _ _).drew⟩
    case rest =>
      obtain ⟨o, c, rfl, rfl, HQ⟩ := hcut
      have e1 : R.L.take M = R.L := by rw [← HM.out, List.take_length]
      have HD0 : Aside (Dq W2 A { R with t := now, L := ram S R.L } P1 (rat S R.L) o c (-1) wc) := by
        obtain ⟨k1, k2, k3, k4, k5⟩ := HQ.out
        have e2 : amid S R.L M = ram S R.L := by unfold amid; rw [e1, ← HM.out, List.drop_length, List.append_nil]
        simp only at k1 k3 k4
        rw [e2] at k1
        rw [e1] at k3 k4
        exact ⟨k1, k2, k3, k4, k5⟩
      have HSM : Aside (R.smp S now = if ((rat S R.L).any fun x => x.1.e) = true then tks (hi S) now ((rat S R.L).map fun x => x.1) else -1) := rfl
      have b2 : wc.cell? ⟨P1, 2, none⟩ = some (.int .i64 (-1)) := by simp [World.cell?, HD0.out.rb, rrv]
      have bf2 : wc.frozen? ⟨P1, 2, none⟩ = false := by simp [World.frozen?, HD0.out.rb]
      have HOK2 : Aside (∀ x ∈ ram S R.L, x.1.ok) := by
        intro x hx
        obtain ⟨y, hy, e⟩ := List.mem_map.1 hx
        have : x.1 = y.1 := by rw [← e]; split <;> rfl
        rw [this]
        exact HOK.out y hy
      have HQL : Aside ((ram S R.L).length = M) := by show _ = M; rw [ram_len, HM.out]
      have HGB : Aside (-1 ≤ rg R.g (ram S R.L) ∧ rg R.g (ram S R.L) ≤ 4611686018427387903) := rg_bound g0 g1 HOK2.out
      clear HQ e1 HI0 HOK HSB HS2 HSR HL4 HRl HX0 HB0
      generalize ((rat S R.L).any fun x => x.1.e) = EL at *
      generalize tks (hi S) now ((rat S R.L).map fun x => x.1) = TK at *
      go_upto_if 150 with fail
      go_cut [] from 19 (fun wx => Aside (Dq W2 A { R with t := now, L := ram S R.L } P1 (rat S R.L) o c (R.smp S now) wx))
      case first =>
        cases EL with
        | true =>
          have HD1 : Aside _ := HD0.out.samp HBW.out HBA.out TK
          go_wp2
          go_meet
          case rel =>
            rw [HSM.out]
            exact HD1.out
        | false =>
          go_wp2
          go_meet
          case rel =>
            rw [HSM.out]
            exact HD0.out
      case rest =>
        have HD1 : Aside (Dq W2 A { R with t := now, L := ram S R.L } P1 (rat S R.L) o c (R.smp S now) wc) := hcut.out
        clear hcut HD0 b2 bf2 HSM
        generalize R.smp S now = SA at *
        generalize rat S R.L = PP at *
        generalize hQQ : ram S R.L = QQ at *
        clear hQQ
        go_wp2_with fail
        go_loopg [18] M (fun kx s18 wr => ∃ (k : Nat), s18 = .int .i64 (k : Int) ∧ k ≤ M ∧ M - k ≤ kx ∧ Aside (Dq W2 A { R with t := now, L := QQ, g := rg R.g (QQ.take k) } P1 PP o c SA wr))
        case atStart => exact ⟨0, rfl, by omega, by omega, HD1.out⟩
        case round =>
          clear HD1
          obtain ⟨k, rfl, hk, hgk, HI⟩ := hrel
          have c0 : wr.cell? ⟨A.b, 0, none⟩ = some (.slice A.o M A.c) := by
            have := HI.out.lg.c0
            simp only at this
            rw [HQL.out] at this
            exact this
          have c1' : wr.cell? ⟨A.b, 1, none⟩ = some (.int .i64 (rg R.g (QQ.take k))) := HI.out.lg.c1
          have cf1 := HI.out.lg.fz 1
          by_cases hlt : k < M
          · have i1 : (k : Int) < M := by omega
            have iw : IntKind.i64.wrap ((k : Int) + 1) = (k : Int) + 1 := wrp _ (by omega) (by omega)
            have hkQ : k < QQ.length := by rw [HQL.out]; exact hlt
            obtain ⟨g, off, ho, q0, -, -, -, q4, -⟩ := HI.out.lg.row.cells (i := k) (by simp only; exact hkQ)
            simp only at q0 q4
            have HST : Aside (rg R.g (QQ.take (k + 1)) = if QQ[k].2 = 1 then QQ[k].1.n else rg R.g (QQ.take k)) := by
              show rg _ _ = _
              rw [List.take_succ_eq_append_getElem hkQ, rg_snoc]
            have HGR : Aside (QQ[k].2 = 1 → Dq W2 A { R with t := now, L := QQ, g := rg R.g (QQ.take (k + 1)) } P1 PP o c SA (wr.setCell ⟨A.b, 1, none⟩ (.int .i64 QQ[k].1.n))) := fun hq => by
              rw [HST.out, if_pos hq]
              exact HI.out.great HLT2.out HBA.out QQ[k].1.n
            have HSA : Aside (QQ[k].2 ≠ 1 → Dq W2 A { R with t := now, L := QQ, g := rg R.g (QQ.take (k + 1)) } P1 PP o c SA wr) := fun hq => by
              rw [HST.out, if_neg hq]
              exact HI.out
            clear HI HST
            generalize QQ[k] = x at *
            clear hkQ
            obtain ⟨⟨xn, xa, xz, xe⟩, st⟩ := x
            simp only at q0 q4 HGR HSA
            generalize A.o = oo at *
            subst ho
            by_cases pst : st = 1
            · have HF : Aside _ := HGR.out pst
              clear HGR HSA
              go_wp2
              go_roundg (M - (k + 1))
              case measure => omega
              case rel => exact ⟨k + 1, rfl, by omega, Nat.le_refl _, HF.out⟩
            · have HF : Aside _ := HSA.out pst
              clear HGR HSA
              go_wp2
              go_roundg (M - (k + 1))
              case measure => omega
              case rel => exact ⟨k + 1, rfl, by omega, Nat.le_refl _, HF.out⟩
          · obtain rfl : k = M := by omega
            have i1 : ¬ (k : Int) < k := by omega
            have hD : Dq W2 A { R with t := now, L := QQ, g := rg R.g QQ } P1 PP o c SA wr := by
              have := HI.out
              rw [List.take_of_length_le (by rw [HQL.out]; exact Nat.le_refl _)] at this
              exact this
            have hlo := rlose_c hD.lg (by simp only; rw [HQL.out]; exact hl') HOK2.out HGB.out.1 HGB.out.2 hD.rb HBA.out now late q1.1 q1.2 q2.1 q2.2
            have hno : ¬ A.own P0 := fun hq => by have := HLT.out _ hq; omega
            have hxw := hD.st.blk HX2.out (fun h => h.elim hno fun e => by have := HP01.out; omega)
            have hRw : Rp A A W wr := ⟨rfl, HRP.out.chg.andThen hD.st (fun j hj h => h.elim id fun e => by have := HP01.out; omega), fun j hj => .inl hj⟩
            have hn01 : P0 ≠ P1 := by have := HP01.out; omega
            have HYY : Aside (∀ w3 o' c', LpI wr A { L := rlm (rg R.g QQ) (now - late) QQ, g := rg R.g QQ, t := now } P1 o PP.length c SA (rlt (rg R.g QQ) (now - late) QQ) o' c' (rsp (rlm (rg R.g QQ) (now - late) QQ) ((rlt (rg R.g QQ) (now - late) QQ).map fun x => x.1) 0) w3 → w3.heap[P0]? = some (.cells #[.slice none 0 0, .slice none 0 0, .int .i64 0, .int .i64 0] 45 (0, 0)) ∧ RR (.returned (.tuple #[.agg (rv o PP.length c o' (rlt (rg R.g QQ) (now - late) QQ).length c' SA (rsp (rlm (rg R.g QQ) (now - late) QQ) ((rlt (rg R.g QQ) (now - late) QQ).map fun x => x.1) 0)), .int .i64 0])) (w3.setRow P0 (rv o PP.length c o' (rlt (rg R.g QQ) (now - late) QQ).length c' SA (rsp (rlm (rg R.g QQ) (now - late) QQ) ((rlt (rg R.g QQ) (now - late) QQ).map fun x => x.1) 0)))) := fun w3 o' c' hJ => by
              have := ryes (R := R) (W := W) (B0 := P0) (by rw [hP0]; exact HLT.out) (by rw [hP0]; exact Nat.le_refl _) (by rw [hP0]; have := HP01.out; omega) hRw hxw hn01 ⟨_, hD.rb⟩ hJ hD.pr (fun j hj => Nat.le_trans HRP.out.chg.2.2.2.1 (hD.new j hj))
              exact ⟨this.1, HRR.out _ _ this.2⟩
            clear hD HI HRR hno hxw hRw HX2 HXB HRP c1' cf1
            unfold RloR at hlo
            simp only at hlo
            go_wp2_with fail
            refine hlo.mono ?_
            rintro e w3 ⟨rfl, o', c', hJ⟩
            obtain ⟨hx3, hY⟩ := HYY.out w3 o' c' hJ
            have HY : Aside _ := hY
            have hrb := hJ.rb
            have b0 : w3.cell? ⟨P1, 0, none⟩ = some (.slice o PP.length c) := by simp [World.cell?, hrb, rrv]
            have b1 : w3.cell? ⟨P1, 1, none⟩ = some (.slice o' (rlt (rg R.g QQ) (now - late) QQ).length c') := by simp [World.cell?, hrb, rrv]
            have b2 : w3.cell? ⟨P1, 2, none⟩ = some (.int .i64 SA) := by simp [World.cell?, hrb, rrv]
            have b3 : w3.cell? ⟨P1, 3, none⟩ = some (.int .i64 (rsp (rlm (rg R.g QQ) (now - late) QQ) ((rlt (rg R.g QQ) (now - late) QQ).map fun x => x.1) 0)) := by simp [World.cell?, hrb, rrv]
            clear hJ hY HYY hlo hrb
            generalize (rsp (rlm (rg R.g QQ) (now - late) QQ) ((rlt (rg R.g QQ) (now - late) QQ).map fun x => x.1) 0) = sd at *
            generalize (rlt (rg R.g QQ) (now - late) QQ).length = nl at *
            generalize PP.length = np at *
            go_wp2_with (refine wpList_store_row rfl 45 _ _ rfl P0 (rv o np c o' nl c' SA sd) rfl rfl 45 _ hx3 (by kernel_rfl) rfl (rv_one _ _ _ _ _ _ _ _) ?_)
            refine bodyPost_ret (results_ct (fn := Try.f13) (p := 8) (u := 9) rfl _ _ P0 45 _ (0, 0) _ rfl (setRow_heap _ P0 _ (rv o np c o' nl c' SA sd) 45 (0, 0) hx3) Try.underlying45 rfl (by kernel_rfl)) rfl ?_
            first | exact HY.out | exact ⟨fun h => absurd rfl h, fun _ => HY.out⟩

end Go.Proofs.Ytkjcapmhjhnckaa
