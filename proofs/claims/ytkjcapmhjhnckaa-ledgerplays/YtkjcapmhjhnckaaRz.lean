/- The reference's Passed. -/
import Derived.Test.YtkjcapmhjhnckaaRy
namespace Go.Proofs.Ytkjcapmhjhnckaa
open Go.RowKit Go.Maps Go.Shelf
set_option linter.unusedVariables false
set_option maxRecDepth 100000

theorem rrv_rv (o1 : Option Addr) (n1 c1 : Nat) (o : Option Addr) (n c : Nat) (sa sd : Int) : rrv o1 n1 c1 o n c sa sd = rv o1 n1 c1 o n c sa sd := rfl
/-- What is wrong with a time. -/
def rwr (R : Rs) (now late : Int) : Int := if ¬ (0 ≤ now ∧ now ≤ 1125899906842624) ∨ ¬ (0 ≤ late ∧ late ≤ 1125899906842624) then 2 else if now < R.t then 42 else 0
def RNo1 (W : World) (A : Ra) (R : Rs) (x : Int) (e : Ending) (w' : World) : Prop := e = .returned (.tuple #[.agg (rv none 0 0 none 0 0 0 0), .int .i64 x]) ∧ Rl w' A R ∧ Rp A A W w'
def RYes1 (W : World) (A : Ra) (P T : List (Pk × Int)) (sa sd : Int) (R' : Rs) (e : Ending) (w' : World) : Prop :=
  ∃ o1 c1 o c, e = .returned (.tuple #[.agg (rv o1 P.length c1 o T.length c sa sd), .int .i64 0]) ∧ Rl w' A R' ∧ Rp A A W w' ∧ Qr w' o1 c1 P ∧ Qr w' o c T ∧ (∀ j, Blk o1 j → W.heap.size ≤ j) ∧ ∀ j, Blk o j → W.heap.size ≤ j
/-- The result stored into the block B0 that is handed out: from a ledger behind lose. -/
theorem ryes {W X w3 : World} {A : Ra} {R R' : Rs} {B0 B : Nat} {P T : List (Pk × Int)} {o1 o : Option Addr} {c1 c : Nat} {sa sd : Int} (hlt : ∀ j, A.own j → j < W.heap.size) (hb0 : W.heap.size ≤ B0) (hbB : W.heap.size ≤ B) (hX : Rp A A W X) {cs : Array Value} (hx0 : X.heap[B0]? = some (.cells cs 45 (0, 0))) (hn0 : B0 ≠ B) (hxB : ∃ cs, X.heap[B]? = some (.cells cs 45 (0, 0))) (hJ : LpI X A R' B o1 P.length c1 sa T o c sd w3) (hP : Qr X o1 c1 P) (hP1 : ∀ j, Blk o1 j → W.heap.size ≤ j) :
    w3.heap[B0]? = some (.cells cs 45 (0, 0)) ∧ RYes1 W A P T sa sd R' (.returned (.tuple #[.agg (rv o1 P.length c1 o T.length c sa sd), .int .i64 0])) (w3.setRow B0 (rv o1 P.length c1 o T.length c sa sd)) := by
  have hno : ¬ A.own B0 := fun h => by have := hlt _ h; omega
  have hx3 := hJ.st.blk hx0 (fun h => h.elim hno hn0)
  have hc : Chg (fun j => j = B0) w3 (w3.setRow B0 (rv o1 P.length c1 o T.length c sa sd)) := Chg.setRow _ _ rfl
  refine ⟨hx3, o1, c1, o, c, rfl, hJ.lg.chg hc (fun k hk e => hno (e ▸ hk)), ⟨rfl, ?_, fun k hk => .inl hk⟩, ?_, ?_, hP1, fun j hj => Nat.le_trans hX.chg.2.2.2.1 (hJ.new j hj)⟩
  · have h1 : Chg (fun j => A.own j) W w3 := hX.chg.andThen hJ.st (fun j hj h => h.elim id fun e => by omega)
    exact h1.andThen hc (fun j hj e => by omega)
  · have p3 : Qr w3 o1 c1 P := Rw.chg hP hJ.st fun j hj h => by
      rcases h with h | h
      · have := hlt j h; have := hP1 j hj; omega
      · obtain ⟨Z, hz⟩ := Rw.ty hP hj
        obtain ⟨cs', hxB⟩ := hxB
        rw [h, hxB] at hz
        simp at hz
    exact Rw.chg p3 hc fun j hj e => by
      obtain ⟨Z, hz⟩ := Rw.ty p3 hj
      rw [e, hx3] at hz
      simp at hz
  · exact Rw.chg hJ.pr hc fun j hj e => by
      obtain ⟨Z, hz⟩ := Rw.ty hJ.pr hj
      rw [e, hx3] at hz
      simp at hz
set_option maxHeartbeats 1000000 in
theorem rpassed_c {W : World} {A : Ra} {R : Rs} (h : Rl W A R) (hl : R.L.length ≤ 3000000000000) (hok : ∀ x ∈ R.L, x.1.ok) (g0 : -1 ≤ R.g) (g1 : R.g ≤ 4611686018427387903) (now late : Int) :
    Calls Try.prog 16 #[.pointer (some ⟨A.b, 0, none⟩), .int .i64 now, .int .i64 late] W fun e w' => (rwr R now late ≠ 0 → RNo1 W A R (rwr R now late) e w') ∧ (rwr R now late = 0 → RYes1 W A [] (rlt R.g (now - late) R.L) (-1) (rsp (rlm R.g (now - late) R.L) ((rlt R.g (now - late) R.L).map fun x => x.1) 0) { R with t := now, L := rlm R.g (now - late) R.L } e w') := by
  have hb0 := bel1 W (.cells #[.slice none 0 0, .slice none 0 0, .int .i64 0, .int .i64 0] 45)
  have hx0 := heap_alloc_new W (.cells #[.slice none 0 0, .slice none 0 0, .int .i64 0, .int .i64 0] 45)
  have hlt : ∀ j, A.own j → j < W.heap.size := fun j hj => h.lt hj
  obtain ⟨W0, hW0⟩ : ∃ W0, W.alloc (.cells #[.slice none 0 0, .slice none 0 0, .int .i64 0, .int .i64 0] 45) = W0 := ⟨_, rfl⟩
  rw [hW0] at hb0 hx0
  have h1 := h.bel hb0
  have htn := rtime_c now W0
  have htl := rtime_c late W0
  have HE : Aside (rwr R now late = if ¬ (0 ≤ now ∧ now ≤ 1125899906842624) ∨ ¬ (0 ≤ late ∧ late ≤ 1125899906842624) then 2 else if now < R.t then 42 else 0) := rfl
  have HNO : Aside (∀ x : Int, RNo1 W A R x (.returned (.tuple #[.agg (rv none 0 0 none 0 0 0 0), .int .i64 x])) W0) := fun x => ⟨rfl, h1, Rp.of_below hb0⟩
  have e2 := h1.c2
  obtain ⟨EE, hEE⟩ : ∃ EE, rwr R now late = EE := ⟨_, rfl⟩
  rw [hEE] at HE ⊢
  by_cases q1 : 0 ≤ now ∧ now ≤ 1125899906842624
  rotate_left
  · have hv : EE = 2 := by rw [HE.out, if_pos (.inl q1)]
    rw [decide_eq_false q1] at htn
    subst hv
    generalize RNo1 W A R = RR at *
    clear h h1 hb0 hlt hok HE hEE
    go_enter Try.func16, Try.ntmps16
    go_wp2_with fail
    refine htn.mono ?_
    rintro e u ⟨rfl, hu⟩
    subst u
    go_wp2_with (refine wpList_store_row rfl 45 _ _ rfl W.heap.size (rv none 0 0 none 0 0 0 0) rfl rfl 45 _ hx0 (by kernel_rfl) rfl (rv_one _ _ _ _ _ _ _ _) ?_)
    refine bodyPost_ret (results_ct (fn := Try.f16) (p := 6) (u := 7) rfl _ _ W.heap.size 45 _ (0, 0) _ rfl (setRow_heap _ W.heap.size _ #[.slice none 0 0, .slice none 0 0, .int .i64 0, .int .i64 0] 45 (0, 0) hx0) Try.underlying45 rfl (by kernel_rfl)) rfl ?_
    refine ⟨fun _ => ?_, fun h => absurd h (by decide)⟩
    rw [show rv none 0 0 none 0 0 0 0 = #[.slice none 0 0, .slice none 0 0, .int .i64 0, .int .i64 0] from rfl, setRow_self _ W.heap.size _ 45 (0, 0) hx0]
    exact HNO.out 2
  rw [decide_eq_true q1] at htn
  by_cases q2 : 0 ≤ late ∧ late ≤ 1125899906842624
  rotate_left
  · have hv : EE = 2 := by rw [HE.out, if_pos (.inr q2)]
    rw [decide_eq_false q2] at htl
    subst hv
    generalize RNo1 W A R = RR at *
    clear h h1 hb0 hlt hok HE hEE
    go_enter Try.func16, Try.ntmps16
    go_wp2_with fail
    refine htn.mono ?_
    rintro e u ⟨rfl, hu⟩
    subst u
    go_wp2_with fail
    refine htl.mono ?_
    rintro e u ⟨rfl, hu⟩
    subst u
    go_wp2_with (refine wpList_store_row rfl 45 _ _ rfl W.heap.size (rv none 0 0 none 0 0 0 0) rfl rfl 45 _ hx0 (by kernel_rfl) rfl (rv_one _ _ _ _ _ _ _ _) ?_)
    refine bodyPost_ret (results_ct (fn := Try.f16) (p := 6) (u := 7) rfl _ _ W.heap.size 45 _ (0, 0) _ rfl (setRow_heap _ W.heap.size _ #[.slice none 0 0, .slice none 0 0, .int .i64 0, .int .i64 0] 45 (0, 0) hx0) Try.underlying45 rfl (by kernel_rfl)) rfl ?_
    refine ⟨fun _ => ?_, fun h => absurd h (by decide)⟩
    rw [show rv none 0 0 none 0 0 0 0 = #[.slice none 0 0, .slice none 0 0, .int .i64 0, .int .i64 0] from rfl, setRow_self _ W.heap.size _ 45 (0, 0) hx0]
    exact HNO.out 2
  rw [decide_eq_true q2] at htl
  by_cases q3 : now < R.t
  · have hv : EE = 42 := by rw [HE.out, if_neg (by rintro (hq | hq) <;> contradiction), if_pos q3]
    subst hv
    generalize RNo1 W A R = RR at *
    clear h h1 hb0 hlt hok HE hEE
    go_enter Try.func16, Try.ntmps16
    go_wp2_with fail
    refine htn.mono ?_
    rintro e u ⟨rfl, hu⟩
    subst u
    go_wp2_with fail
    refine htl.mono ?_
    rintro e u ⟨rfl, hu⟩
    subst u
    go_wp2_with (refine wpList_store_row rfl 45 _ _ rfl W.heap.size (rv none 0 0 none 0 0 0 0) rfl rfl 45 _ hx0 (by kernel_rfl) rfl (rv_one _ _ _ _ _ _ _ _) ?_)
    refine bodyPost_ret (results_ct (fn := Try.f16) (p := 6) (u := 7) rfl _ _ W.heap.size 45 _ (0, 0) _ rfl (setRow_heap _ W.heap.size _ #[.slice none 0 0, .slice none 0 0, .int .i64 0, .int .i64 0] 45 (0, 0) hx0) Try.underlying45 rfl (by kernel_rfl)) rfl ?_
    refine ⟨fun _ => ?_, fun h => absurd h (by decide)⟩
    rw [show rv none 0 0 none 0 0 0 0 = #[.slice none 0 0, .slice none 0 0, .int .i64 0, .int .i64 0] from rfl, setRow_self _ W.heap.size _ 45 (0, 0) hx0]
    exact HNO.out 42
  have hv : EE = 0 := by rw [HE.out, if_neg (by rintro (hq | hq) <;> contradiction), if_neg q3]
  subst hv
  obtain ⟨h2, s2⟩ := h1.set (R' := { R with t := now }) 2 (.int .i64 now) (by simp) rfl
  have f2 := h1.fz 2
  obtain ⟨W1, hW1⟩ : ∃ W1, W0.setCell ⟨A.b, 2, none⟩ (.int .i64 now) = W1 := ⟨_, rfl⟩
  rw [hW1] at h2 s2
  have hno : ¬ A.own W.heap.size := fun hq => by have := hlt _ hq; omega
  have hx1 := s2.chg.blk hx0 hno
  have hb2 := bel1 W1 (.cells #[.slice none 0 0, .slice none 0 0, .int .i64 (-1), .int .i64 0] 45)
  have hx2 := heap_alloc_new W1 (.cells #[.slice none 0 0, .slice none 0 0, .int .i64 (-1), .int .i64 0] 45)
  obtain ⟨W2, hW2⟩ : ∃ W2, W1.alloc (.cells #[.slice none 0 0, .slice none 0 0, .int .i64 (-1), .int .i64 0] 45) = W2 := ⟨_, rfl⟩
  rw [hW2] at hb2 hx2
  have h3 := h2.bel hb2
  have hs1 : W.heap.size < W1.heap.size := (Array.getElem?_eq_some_iff.1 hx1).1
  have hBA : ¬ A.own W1.heap.size := fun hq => by have := hlt _ hq; omega
  have hx12 := (hb2.block _ hs1).trans hx1
  have hRp : Rp A A W W2 := ((Rp.of_below hb0).trans s2).below hb2
  have hlo := rlose_c h3 hl hok g0 g1 hx2 hBA now late q1.1 q1.2 q2.1 q2.2
  have HY : Aside (∀ w3 o c, LpI W2 A { R with t := now, L := rlm R.g (now - late) R.L } W1.heap.size none 0 0 (-1) (rlt R.g (now - late) R.L) o c (rsp (rlm R.g (now - late) R.L) ((rlt R.g (now - late) R.L).map fun x => x.1) 0) w3 → w3.heap[W.heap.size]? = some (.cells #[.slice none 0 0, .slice none 0 0, .int .i64 0, .int .i64 0] 45 (0, 0)) ∧ RYes1 W A [] (rlt R.g (now - late) R.L) (-1) (rsp (rlm R.g (now - late) R.L) ((rlt R.g (now - late) R.L).map fun x => x.1) 0) { R with t := now, L := rlm R.g (now - late) R.L } (.returned (.tuple #[.agg (rv none 0 0 o (rlt R.g (now - late) R.L).length c (-1) (rsp (rlm R.g (now - late) R.L) ((rlt R.g (now - late) R.L).map fun x => x.1) 0)), .int .i64 0])) (w3.setRow W.heap.size (rv none 0 0 o (rlt R.g (now - late) R.L).length c (-1) (rsp (rlm R.g (now - late) R.L) ((rlt R.g (now - late) R.L).map fun x => x.1) 0)))) := fun w3 o c hJ => ryes (R := R) (P := []) hlt (Nat.le_refl _) (by omega) hRp hx12 (by omega) ⟨_, hx2⟩ hJ (Qr.nil _) fun j hj => hj.no.elim
  generalize RYes1 W A [] (rlt R.g (now - late) R.L) (-1) (rsp (rlm R.g (now - late) R.L) ((rlt R.g (now - late) R.L).map fun x => x.1) 0) { R with t := now, L := rlm R.g (now - late) R.L } = RR at *
  clear h h1 h2 h3 hb0 hlt hok HE hEE HNO s2 hx1 hb2 hx2 hBA hx12 hRp hno
  have HW2 : Aside (W1.alloc (.cells #[.slice none 0 0, .slice none 0 0, .int .i64 (-1), .int .i64 0] 45) = W2) := hW2
  clear hW2
  generalize hP1 : W1.heap.size = P1 at *
  generalize hP0 : W.heap.size = P0 at *
  go_enter Try.func16, Try.ntmps16
  go_wp2_with fail
  refine htn.mono ?_
  rintro e u ⟨rfl, hu⟩
  subst u
  go_wp2_with fail
  refine htl.mono ?_
  rintro e u ⟨rfl, hu⟩
  subst u
  clear htn htl
  go_upto_region 7 with fail
  rw [HW2.out]
  go_wp2_with fail
  refine hlo.mono ?_
  rintro e w3 ⟨rfl, o, c, hJ⟩
  obtain ⟨hx3, hY⟩ := HY.out w3 o c hJ
  have HYY : Aside _ := hY
  have hrb := hJ.rb
  have b0 : w3.cell? ⟨P1, 0, none⟩ = some (.slice none 0 0) := by simp [World.cell?, hrb, rrv]
  have b1 : w3.cell? ⟨P1, 1, none⟩ = some (.slice o (rlt R.g (now - late) R.L).length c) := by simp [World.cell?, hrb, rrv]
  have b2 : w3.cell? ⟨P1, 2, none⟩ = some (.int .i64 (-1)) := by simp [World.cell?, hrb, rrv]
  have b3 : w3.cell? ⟨P1, 3, none⟩ = some (.int .i64 (rsp (rlm R.g (now - late) R.L) ((rlt R.g (now - late) R.L).map fun x => x.1) 0)) := by simp [World.cell?, hrb, rrv]
  clear hJ hY HY hlo hrb
  generalize (rlt R.g (now - late) R.L).length = nl at *
  generalize rsp (rlm R.g (now - late) R.L) ((rlt R.g (now - late) R.L).map fun x => x.1) 0 = sd at *
  go_wp2_with (refine wpList_store_row rfl 45 _ _ rfl P0 (rv none 0 0 o nl c (-1) sd) rfl rfl 45 _ hx3 (by kernel_rfl) rfl (rv_one _ _ _ _ _ _ _ _) ?_)
  refine bodyPost_ret (results_ct (fn := Try.f16) (p := 6) (u := 7) rfl _ _ P0 45 _ (0, 0) _ rfl (setRow_heap _ P0 _ (rv none 0 0 o nl c (-1) sd) 45 (0, 0) hx3) Try.underlying45 rfl (by kernel_rfl)) rfl ?_
  exact ⟨fun h => absurd rfl h, fun _ => HYY.out⟩
end Go.Proofs.Ytkjcapmhjhnckaa
