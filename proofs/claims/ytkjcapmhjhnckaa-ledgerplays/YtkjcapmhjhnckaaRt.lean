/- The reference's Sent. -/
import Derived.Test.YtkjcapmhjhnckaaRc
import Derived.Deep.RegionWith
import Derived.Deep.RegionLaw
namespace Go.Proofs.Ytkjcapmhjhnckaa
open Go.RowKit Go.Maps Go.Shelf
set_option linter.unusedVariables false
set_option maxRecDepth 100000

def rlast (L : List (Pk × Int)) : Int := (L.getLast?.map fun x => x.1.n).getD (-1)
def Rs.sent (R : Rs) (p : Pk) : Rs := { L := R.L ++ [(p, 0)], g := R.g, t := p.a }
def rsn (R : Rs) (p : Pk) : Int := if p.n < 0 ∨ 4611686018427387903 < p.n ∨ ¬ (0 ≤ p.a ∧ p.a ≤ 1125899906842624) ∨ p.s < 1 ∨ 65535 < p.s then 2 else if p.n ≤ rlast R.L then 13 else if p.a < R.t then 42 else 0
def RsnR (W : World) (A : Ra) (R : Rs) (p : Pk) (e : Ending) (w' : World) : Prop :=
  e = .returned (.int .i64 (rsn R p)) ∧ (rsn R p ≠ 0 → Rl w' A R ∧ Below W.heap.size W w') ∧ (rsn R p = 0 → ∃ A', Rl w' A' (R.sent p) ∧ Rp A A' W w')
/-- One packet more in the reference's row. -/
theorem Rl.grow {X : World} {A : Ra} {R : Rs} (h : Rl X A R) (p : Pk) (hl : R.L.length ≤ 3000000000000) :
    ∃ g off c' w3, (Builtin.append_ #[43, 43] 43 #[.slice A.o R.L.length A.c, .slice (some ⟨X.heap.size, 0, none⟩) 1 1]).run Try.prog (X.alloc (.cells #[.int .i64 p.n, .int .i64 p.a, .int .i64 p.s, .bool p.e, .int .i64 0] 37)).drew = .ok (.slice (some ⟨g, off, none⟩) (R.L.length + 1) c') w3 ∧
      w3.cell? ⟨A.b, 0, none⟩ = some (.slice A.o R.L.length A.c) ∧ w3.frozen? ⟨A.b, 0, none⟩ = false ∧
      Rl (w3.setCell ⟨A.b, 0, none⟩ (.slice (some ⟨g, off, none⟩) (R.L.length + 1) c')) { A with o := some ⟨g, off, none⟩, c := c' } { R with L := R.L ++ [(p, 0)] } ∧ Rp A { A with o := some ⟨g, off, none⟩, c := c' } X (w3.setCell ⟨A.b, 0, none⟩ (.slice (some ⟨g, off, none⟩) (R.L.length + 1) c')) := by
  obtain ⟨g, off, c', w3, h1, h2, h3, h4⟩ := h.row.push (p, 0) hl (.inr rfl)
  have hb3 := h3.blk h.hb h.bo
  have hc4 : Chg (fun j => j = A.b) w3 (w3.setCell ⟨A.b, 0, none⟩ (.slice (some ⟨g, off, none⟩) (R.L.length + 1) c')) := by
    rw [setCell_eq_setRow w3 A.b 0 _ 72 (0, 0) _ hb3]
    exact Chg.setRow _ _ rfl
  refine ⟨g, off, c', w3, h1 43, by simp [World.cell?, hb3], by simp [World.frozen?, hb3], ⟨?_, ?_⟩, rfl, (h3.mono fun k _ hk => .inr hk).andThen hc4 (fun j _ e => .inl e), fun k hk => ?_⟩
  · rw [setCell_eq_setRow w3 A.b 0 _ 72 (0, 0) _ hb3, setRow_heap w3 A.b _ _ 72 (0, 0) hb3]
    simp
  · refine Rw.chg h2 hc4 fun j hj e => ?_
    obtain ⟨Z, hz⟩ := Rw.ty h2 hj
    rw [e, hb3] at hz
    simp at hz
  · rcases hk with hk | hk
    · exact .inl (.inl hk)
    · rw [hk.of]
      rcases h4 with h4 | h4
      · exact .inl (.inr h4)
      · exact .inr h4
set_option maxHeartbeats 1000000 in
theorem rsent_c {W : World} {A : Ra} {R : Rs} (h : Rl W A R) (hl : R.L.length ≤ 3000000000000) (p : Pk) : Calls Try.prog 11 #[.pointer (some ⟨A.b, 0, none⟩), .agg #[.int .i64 p.n, .int .i64 p.a, .int .i64 p.s, .bool p.e, .int .i64 0]] W (RsnR W A R p) := by
  obtain ⟨n, a, s, e⟩ := p
  simp only
  have hb0 := bel1 W (.cells #[.int .i64 n, .int .i64 a, .int .i64 s, .bool e, .int .i64 0] 37)
  have hx0 := heap_alloc_new W (.cells #[.int .i64 n, .int .i64 a, .int .i64 s, .bool e, .int .i64 0] 37)
  have hti := rtime_c a (W.alloc (.cells #[.int .i64 n, .int .i64 a, .int .i64 s, .bool e, .int .i64 0] 37))
  have h0 := h.bel hb0
  have HNO : Aside (∀ x : Int, rsn R ⟨n, a, s, e⟩ = x → x ≠ 0 → ∀ Y, Below (W.alloc (.cells #[.int .i64 n, .int .i64 a, .int .i64 s, .bool e, .int .i64 0] 37)).heap.size (W.alloc (.cells #[.int .i64 n, .int .i64 a, .int .i64 s, .bool e, .int .i64 0] 37)) Y → RsnR W A R ⟨n, a, s, e⟩ (.returned (.int .i64 x)) Y) := by
    intro x hx hx0 Y hY
    exact ⟨by rw [hx], fun _ => ⟨h0.bel hY, bel_trans hb0 hY⟩, fun h1 => absurd (hx.symm.trans h1) hx0⟩
  have HYES : Aside (rsn R ⟨n, a, s, e⟩ = 0 → ∀ A' Y, Rl Y A' (R.sent ⟨n, a, s, e⟩) → Rp A A' W Y → RsnR W A R ⟨n, a, s, e⟩ (.returned (.int .i64 0)) Y) := by
    intro hx A' Y h1 h2
    exact ⟨by rw [hx], fun h => absurd hx h, fun _ => ⟨A', h1, h2⟩⟩
  have HS : Aside (rsn R ⟨n, a, s, e⟩ = if n < 0 ∨ 4611686018427387903 < n ∨ ¬ (0 ≤ a ∧ a ≤ 1125899906842624) ∨ s < 1 ∨ 65535 < s then 2 else if n ≤ rlast R.L then 13 else if a < R.t then 42 else 0) := rfl
  have H0 : Aside _ := h0
  have HP0 : Aside (Rp A A W (W.alloc (.cells #[.int .i64 n, .int .i64 a, .int .i64 s, .bool e, .int .i64 0] 37))) := Rp.of_below hb0
  have hnb : ¬ A.own W.heap.size := fun hq => by have := h.lt hq; omega
  generalize hR : RsnR W A R ⟨n, a, s, e⟩ = RR at *
  by_cases p1 : n < 0 ∨ 4611686018427387903 < n ∨ ¬ (0 ≤ a ∧ a ≤ 1125899906842624) ∨ s < 1 ∨ 65535 < s
  · have HE : Aside _ := HNO.out 2 (by rw [HS.out, if_pos p1]) (by decide) _ (Below.refl _ _)
    clear HNO HYES HS H0 h h0 hb0 hR HP0 hx0
    by_cases q0 : n < 0
    · clear p1
      go_enter Try.func11, Try.ntmps11
      go_wp2
      exact HE.out
    by_cases q1 : 4611686018427387903 < n
    · clear p1
      go_enter Try.func11, Try.ntmps11
      go_wp2
      exact HE.out
    by_cases q3 : 0 ≤ a ∧ a ≤ 1125899906842624
    · rw [decide_eq_true q3] at hti
      by_cases q4 : s < 1
      · clear p1 q3
        go_enter Try.func11, Try.ntmps11
        go_wp2_with fail
        refine hti.mono ?_
        rintro e' u ⟨rfl, hu⟩
        subst u
        go_wp2
        exact HE.out
      · have q5 : 65535 < s := by omega
        clear p1 q3
        go_enter Try.func11, Try.ntmps11
        go_wp2_with fail
        refine hti.mono ?_
        rintro e' u ⟨rfl, hu⟩
        subst u
        go_wp2
        exact HE.out
    · rw [decide_eq_false q3] at hti
      clear p1 q3
      go_enter Try.func11, Try.ntmps11
      go_wp2_with fail
      refine hti.mono ?_
      rintro e' u ⟨rfl, hu⟩
      subst u
      go_wp2
      exact HE.out
  · have q0 : ¬ n < 0 := fun h => p1 (.inl h)
    have q1 : ¬ 4611686018427387903 < n := fun h => p1 (.inr (.inl h))
    have q3 : 0 ≤ a ∧ a ≤ 1125899906842624 := Classical.byContradiction fun h => p1 (.inr (.inr (.inl h)))
    have q4 : ¬ s < 1 := fun h => p1 (.inr (.inr (.inr (.inl h))))
    have q5 : ¬ 65535 < s := fun h => p1 (.inr (.inr (.inr (.inr h))))
    have HS' : Aside (rsn R ⟨n, a, s, e⟩ = if n ≤ rlast R.L then 13 else if a < R.t then 42 else 0) := by
      show rsn R ⟨n, a, s, e⟩ = _
      rw [HS.out, if_neg p1]
    rw [decide_eq_true q3] at hti
    obtain ⟨N, hN⟩ : ∃ N, R.L.length = N := ⟨_, rfl⟩
    have HN : Aside _ := hN
    have HL : Aside _ := hl
    have c0 := h0.c0
    have c2 := h0.c2
    have cf2 := h0.fz 2
    rw [hN] at hl c0
    have b0 : (W.alloc (.cells #[.int .i64 n, .int .i64 a, .int .i64 s, .bool e, .int .i64 0] 37)).cell? ⟨W.heap.size, 0, none⟩ = some (.int .i64 n) := by simp only [World.cell?]; rw [hx0]; rfl
    have b1 : (W.alloc (.cells #[.int .i64 n, .int .i64 a, .int .i64 s, .bool e, .int .i64 0] 37)).cell? ⟨W.heap.size, 1, none⟩ = some (.int .i64 a) := by simp only [World.cell?]; rw [hx0]; rfl
    have b2 : (W.alloc (.cells #[.int .i64 n, .int .i64 a, .int .i64 s, .bool e, .int .i64 0] 37)).cell? ⟨W.heap.size, 2, none⟩ = some (.int .i64 s) := by simp only [World.cell?]; rw [hx0]; rfl
    have HX0 : Aside _ := hx0
    have hlast : ∀ m, N = m + 1 → ∃ (g off : Nat) (x : Int), A.o = some ⟨g, off, none⟩ ∧ (W.alloc (.cells #[.int .i64 n, .int .i64 a, .int .i64 s, .bool e, .int .i64 0] 37)).cell? ⟨g, off + m * 5, none⟩ = some (.int .i64 x) ∧ rlast R.L = x := by
      intro m hm
      have hi : m < R.L.length := by omega
      obtain ⟨g, off, ho, c, _⟩ := h0.row.cells hi
      refine ⟨g, off, _, ho, c, ?_⟩
      unfold rlast
      rw [List.getLast?_eq_getElem?, show R.L.length - 1 = m by omega, List.getElem?_eq_getElem hi]
      rfl
    have hnil : N = 0 → rlast R.L = -1 := by
      intro h1
      have e1 : R.L = [] := List.length_eq_zero_iff.1 (by omega)
      rw [e1]; rfl
    obtain ⟨a0, a1⟩ := q3
    have hbl := (Array.getElem?_eq_some_iff.1 h.hb).1
    clear h h0 hb0 HS p1 hR hN hx0
    go_enter Try.func11, Try.ntmps11
    go_wp2_with fail
    refine hti.mono ?_
    rintro e' u ⟨rfl, hu⟩
    subst u
    clear hti
    generalize hB : W.heap.size = B at *
    generalize W.alloc (.cells #[.int .i64 n, .int .i64 a, .int .i64 s, .bool e, .int .i64 0] 37) = W0 at *
    go_wp2_with fail
    have HTAIL : Aside (rsn R ⟨n, a, s, e⟩ = 0 → ∃ (g off c' : Nat) (w3 W2 W3 : World), W2 = W0.drew.drew.setCell ⟨A.b, 2, none⟩ (.int .i64 a) ∧ W2.cell? ⟨B, 4, none⟩ = some (.int .i64 0) ∧ W2.frozen? ⟨B, 4, none⟩ = false ∧ W3 = W2.setCell ⟨B, 4, none⟩ (.int .i64 0) ∧ W3.heap[B]? = some (.cells #[.int .i64 n, .int .i64 a, .int .i64 s, .bool e, .int .i64 0] 37 (0, 0)) ∧ W3.cell? ⟨A.b, 0, none⟩ = some (.slice A.o N A.c) ∧
        (Builtin.append_ #[43, 43] 43 #[.slice A.o N A.c, .slice (some ⟨W3.heap.size, 0, none⟩) 1 1]).run Try.prog (W3.alloc (.cells #[.int .i64 n, .int .i64 a, .int .i64 s, .bool e, .int .i64 0] 37)).drew = .ok (.slice (some ⟨g, off, none⟩) (N + 1) c') w3 ∧ w3.cell? ⟨A.b, 0, none⟩ = some (.slice A.o N A.c) ∧ w3.frozen? ⟨A.b, 0, none⟩ = false ∧ RR (.returned (.int .i64 0)) (w3.setCell ⟨A.b, 0, none⟩ (.slice (some ⟨g, off, none⟩) (N + 1) c'))) := by
      intro hz
      have hd : Below W0.heap.size W0 W0.drew.drew := (Below.refl _ W0).drew.drew
      have r1 := H0.out.bel hd
      obtain ⟨r2, t2⟩ := r1.set (R' := { R with t := a }) 2 (.int .i64 a) (by simp) rfl
      have xB : W0.drew.drew.heap[B]? = some (.cells #[.int .i64 n, .int .i64 a, .int .i64 s, .bool e, .int .i64 0] 37 (0, 0)) := HX0.out
      have x2 := t2.chg.blk xB hnb
      have e3 : (W0.drew.drew.setCell ⟨A.b, 2, none⟩ (.int .i64 a)).setCell ⟨B, 4, none⟩ (.int .i64 0) = (W0.drew.drew.setCell ⟨A.b, 2, none⟩ (.int .i64 a)).setRow B #[.int .i64 n, .int .i64 a, .int .i64 s, .bool e, .int .i64 0] := by
        rw [setCell_eq_setRow _ B 4 _ 37 (0, 0) _ x2]; rfl
      have c3 : Chg (fun k => k = B) (W0.drew.drew.setCell ⟨A.b, 2, none⟩ (.int .i64 a)) ((W0.drew.drew.setCell ⟨A.b, 2, none⟩ (.int .i64 a)).setCell ⟨B, 4, none⟩ (.int .i64 0)) := by rw [e3]; exact Chg.setRow _ _ rfl
      have r3 := r2.chg c3 fun k hk e => hnb (e ▸ hk)
      have x3 : ((W0.drew.drew.setCell ⟨A.b, 2, none⟩ (.int .i64 a)).setCell ⟨B, 4, none⟩ (.int .i64 0)).heap[B]? = some (.cells #[.int .i64 n, .int .i64 a, .int .i64 s, .bool e, .int .i64 0] 37 (0, 0)) := by rw [e3]; exact setRow_heap _ B _ _ 37 (0, 0) x2
      obtain ⟨g, off, c', w3, k1, k2, k3, k4, k5⟩ := r3.grow ⟨n, a, s, e⟩ HL.out
      have k6 := r3.c0
      have eN : ({ R with t := a } : Rs).L.length = N := HN.out
      rw [eN] at k1 k2 k4 k5 k6
      refine ⟨g, off, c', w3, _, _, rfl, by simp only [World.cell?]; rw [x2]; rfl, by simp only [World.frozen?]; rw [x2]; rfl, rfl, x3, k6, k1, k2, k3, HYES.out hz _ _ k4 ?_⟩
      have u1 : Rp A A W _ := (HP0.out.below hd).trans t2
      have hWB : W.heap.size = B := hB
      have u2 : Rp A A W _ := ⟨rfl, u1.chg.andThen c3 (fun j hj e => by omega), fun k hk => .inl hk⟩
      exact u2.trans k5
    have HNO2 : Aside (∀ x : Int, rsn R ⟨n, a, s, e⟩ = x → x ≠ 0 → ∀ Y, Below W0.heap.size W0 Y → RR (.returned (.int .i64 x)) Y) := HNO.out
    have HT2 : Aside (R.t = R.t) := rfl
    generalize R.t = tt at *
    clear HNO HYES HP0 H0 HX0 HL HN hbl b2 q1 q4 q5
    rcases N with _ | m
    · have hr := hnil rfl
      rw [hr, if_neg (by omega)] at HS'
      clear hnil hlast hr

      refine wp_region_held_drew (S := fun X => X.cell? ⟨A.b, 0, none⟩ = some (.slice A.o 0 A.c) ∧ X.cell? ⟨B, 0, none⟩ = some (.int .i64 n)) (by kernel_rfl) ⟨c0, b0⟩ (fun hHeld => ?_)
      refine wpAnyH_take (i := 0) (v := .pointer (some ⟨A.b, 0, none⟩)) rfl (by kernel_rfl) (by kernel_rfl) (by kernel_rfl) (fun _ _ _ h => h) (Or.inl ⟨by rfl, by intro w hs; go_simp⟩) hHeld ?_
      refine norm_any' (fun K hK => ?_)
      go_simp
      refine hK _ _ ?_
      clear hK K
      refine wpAnyH_take (i := 1) (v := .pointer (some ⟨A.b, 0, none⟩)) rfl (by kernel_rfl) (by kernel_rfl) (by kernel_rfl) (fun _ _ _ h => h) (Or.inl ⟨by rfl, by intro w hs; go_simp⟩) hHeld ?_
      refine norm_any' (fun K hK => ?_)
      go_simp
      refine hK _ _ ?_
      clear hK K
      refine wpAnyH_take (i := 2) (v := .pointer (some ⟨A.b, 0, none⟩)) rfl (by kernel_rfl) (by kernel_rfl) (by kernel_rfl) (fun _ _ _ h => h) (Or.inl ⟨by rfl, by intro w hs; go_simp⟩) hHeld ?_
      refine norm_any' (fun K hK => ?_)
      go_simp
      refine hK _ _ ?_
      clear hK K
      refine wpAnyH_take (i := 3) (v := .slice A.o 0 A.c) rfl (by kernel_rfl) (by kernel_rfl) (by kernel_rfl) (fun _ _ _ h => h) (Or.inl ⟨by rfl, by rintro w ⟨s0, s1⟩; go_simp⟩) hHeld ?_
      refine norm_any' (fun K hK => ?_)
      go_simp
      refine hK _ _ ?_
      clear hK K
      refine wpAnyH_take (i := 4) (v := .int .i64 0) rfl (by kernel_rfl) (by kernel_rfl) (by kernel_rfl) (fun _ _ _ h => h) (Or.inl ⟨by rfl, by intro w hs; go_simp⟩) hHeld ?_
      refine norm_any' (fun K hK => ?_)
      go_simp
      refine hK _ _ ?_
      clear hK K
      refine wpAnyH_take (i := 5) (v := .bool false) rfl (by kernel_rfl) (by kernel_rfl) (by kernel_rfl) (fun _ _ _ h => h) (Or.inl ⟨by rfl, by intro w hs; go_simp⟩) hHeld ?_
      refine norm_any' (fun K hK => ?_)
      go_simp
      refine hK _ _ ?_
      clear hK K
      refine wpAnyH_take (i := 6) (v := .bool false) rfl (by kernel_rfl) (by kernel_rfl) (by kernel_rfl) (fun _ _ _ h => h) (Or.inl ⟨by rfl, by intro w hs; go_simp⟩) hHeld ?_
      refine norm_any' (fun K hK => ?_)
      go_simp
      refine hK _ _ ?_
      clear hK K
      refine wpAnyH_take (i := 7) (v := undef) rfl (by kernel_rfl) (by kernel_rfl) (by kernel_rfl) (fun _ _ _ h => h) (Or.inr ⟨by rfl, rfl⟩) hHeld ?_
      refine norm_any' (fun K hK => ?_)
      go_simp
      refine hK _ _ ?_
      clear hK K
      refine wpAnyH_take (i := 8) (v := undef) rfl (by kernel_rfl) (by kernel_rfl) (by kernel_rfl) (fun _ _ _ h => h) (Or.inr ⟨by rfl, rfl⟩) hHeld ?_
      refine norm_any' (fun K hK => ?_)
      go_simp
      refine hK _ _ ?_
      clear hK K
      refine wpAnyH_take (i := 9) (v := undef) rfl (by kernel_rfl) (by kernel_rfl) (by kernel_rfl) (fun _ _ _ h => h) (Or.inr ⟨by rfl, rfl⟩) hHeld ?_
      refine norm_any' (fun K hK => ?_)
      go_simp
      refine hK _ _ ?_
      clear hK K
      refine wpAnyH_take (i := 10) (v := undef) rfl (by kernel_rfl) (by kernel_rfl) (by kernel_rfl) (fun _ _ _ h => h) (Or.inr ⟨by rfl, rfl⟩) hHeld ?_
      refine norm_any' (fun K hK => ?_)
      go_simp
      refine hK _ _ ?_
      clear hK K
      refine wpAnyH_take (i := 11) (v := undef) rfl (by kernel_rfl) (by kernel_rfl) (by kernel_rfl) (fun _ _ _ h => h) (Or.inr ⟨by rfl, rfl⟩) hHeld ?_
      refine norm_any' (fun K hK => ?_)
      go_simp
      refine hK _ _ ?_
      clear hK K
      refine wpAnyH_take (i := 12) (v := undef) rfl (by kernel_rfl) (by kernel_rfl) (by kernel_rfl) (fun _ _ _ h => h) (Or.inr ⟨by rfl, rfl⟩) hHeld ?_
      refine norm_any' (fun K hK => ?_)
      go_simp
      refine hK _ _ ?_
      clear hK K
      refine wpAnyH_take (i := 13) (v := undef) rfl (by kernel_rfl) (by kernel_rfl) (by kernel_rfl) (fun _ _ _ h => h) (Or.inr ⟨by rfl, rfl⟩) hHeld ?_
      refine norm_any' (fun K hK => ?_)
      go_simp
      refine hK _ _ ?_
      clear hK K
      refine wpAnyH_take (i := 14) (v := undef) rfl (by kernel_rfl) (by kernel_rfl) (by kernel_rfl) (fun _ _ _ h => h) (Or.inr ⟨by rfl, rfl⟩) hHeld ?_
      refine norm_any' (fun K hK => ?_)
      go_simp
      refine hK _ _ ?_
      clear hK K
      refine wpAnyH_take (i := 15) (v := undef) rfl (by kernel_rfl) (by kernel_rfl) (by kernel_rfl) (fun _ _ _ h => h) (Or.inr ⟨by rfl, rfl⟩) hHeld ?_
      refine norm_any' (fun K hK => ?_)
      go_simp
      refine hK _ _ ?_
      clear hK K
      refine wpAnyH_take (i := 16) (v := undef) rfl (by kernel_rfl) (by kernel_rfl) (by kernel_rfl) (fun _ _ _ h => h) (Or.inr ⟨by rfl, rfl⟩) hHeld ?_
      refine norm_any' (fun K hK => ?_)
      go_simp
      refine hK _ _ ?_
      clear hK K
      refine wpAnyH_take (i := 17) (v := undef) rfl (by kernel_rfl) (by kernel_rfl) (by kernel_rfl) (fun _ _ _ h => h) (Or.inr ⟨by rfl, rfl⟩) hHeld ?_
      refine norm_any' (fun K hK => ?_)
      go_simp
      refine hK _ _ ?_
      clear hK K
      refine wpAnyH_take (i := 18) (v := undef) rfl (by kernel_rfl) (by kernel_rfl) (by kernel_rfl) (fun _ _ _ h => h) (Or.inr ⟨by rfl, rfl⟩) hHeld ?_
      refine norm_any' (fun K hK => ?_)
      go_simp
      refine hK _ _ ?_
      clear hK K
      refine wpAnyH_take (i := 19) (v := undef) rfl (by kernel_rfl) (by kernel_rfl) (by kernel_rfl) (fun _ _ _ h => h) (Or.inr ⟨by rfl, rfl⟩) hHeld ?_
      refine norm_any' (fun K hK => ?_)
      go_simp
      refine hK _ _ ?_
      clear hK K
      refine wpAnyH_take (i := 20) (v := undef) rfl (by kernel_rfl) (by kernel_rfl) (by kernel_rfl) (fun _ _ _ h => h) (Or.inr ⟨by rfl, rfl⟩) hHeld ?_
      refine norm_any' (fun K hK => ?_)
      go_simp
      refine hK _ _ ?_
      clear hK K
      refine wpAnyH_take (i := 21) (v := undef) rfl (by kernel_rfl) (by kernel_rfl) (by kernel_rfl) (fun _ _ _ h => h) (Or.inr ⟨by rfl, rfl⟩) hHeld ?_
      refine norm_any' (fun K hK => ?_)
      go_simp
      refine hK _ _ ?_
      clear hK K
      refine wpAnyH_take (i := 22) (v := undef) rfl (by kernel_rfl) (by kernel_rfl) (by kernel_rfl) (fun _ _ _ h => h) (Or.inr ⟨by rfl, rfl⟩) hHeld ?_
      refine norm_any' (fun K hK => ?_)
      go_simp
      refine hK _ _ ?_
      clear hK K
      refine wpAnyH_take (i := 23) (v := .bool false) rfl (by kernel_rfl) (by kernel_rfl) (by kernel_rfl) (fun _ _ _ h => h) (Or.inl ⟨by rfl, by intro w hs; go_simp⟩) hHeld ?_
      refine norm_any' (fun K hK => ?_)
      go_simp
      refine hK _ _ ?_
      clear hK K
      refine wpAnyH_done (by kernel_rfl) ?_ _
      clear hHeld
      by_cases pt : a < tt
      · have HE : Aside _ := HNO2.out 42 (by rw [HS'.out, if_pos pt]) (by decide) W0.drew.drew ((Below.refl _ W0).drew.drew)
        go_wp2_with fail
        refine wp_region_held_drew (S := fun X => X.cell? ⟨B, 1, none⟩ = some (.int .i64 a) ∧ X.cell? ⟨A.b, 2, none⟩ = some (.int .i64 tt)) (by kernel_rfl) ⟨b1, c2⟩ (fun hHeld => ?_)
        refine wpAnyH_take (i := 0) (v := .pointer (some ⟨B, 1, none⟩)) rfl (by kernel_rfl) (by kernel_rfl) (by kernel_rfl) (fun _ _ _ h => h) (Or.inl ⟨by rfl, by intro w hs; go_simp⟩) hHeld ?_
        refine norm_any' (fun K hK => ?_)
        go_simp
        refine hK _ _ ?_
        clear hK K
        refine wpAnyH_take (i := 1) (v := .int .i64 a) rfl (by kernel_rfl) (by kernel_rfl) (by kernel_rfl) (fun _ _ _ h => h) (Or.inl ⟨by rfl, by rintro w ⟨s0, s1⟩; go_simp⟩) hHeld ?_
        refine norm_any' (fun K hK => ?_)
        go_simp
        refine hK _ _ ?_
        clear hK K
        refine wpAnyH_take (i := 2) (v := .pointer (some ⟨A.b, 0, none⟩)) rfl (by kernel_rfl) (by kernel_rfl) (by kernel_rfl) (fun _ _ _ h => h) (Or.inl ⟨by rfl, by intro w hs; go_simp⟩) hHeld ?_
        refine norm_any' (fun K hK => ?_)
        go_simp
        refine hK _ _ ?_
        clear hK K
        refine wpAnyH_take (i := 3) (v := .pointer (some ⟨A.b, 0, none⟩)) rfl (by kernel_rfl) (by kernel_rfl) (by kernel_rfl) (fun _ _ _ h => h) (Or.inl ⟨by rfl, by intro w hs; go_simp⟩) hHeld ?_
        refine norm_any' (fun K hK => ?_)
        go_simp
        refine hK _ _ ?_
        clear hK K
        refine wpAnyH_take (i := 4) (v := .pointer (some ⟨A.b, 2, none⟩)) rfl (by kernel_rfl) (by kernel_rfl) (by kernel_rfl) (fun _ _ _ h => h) (Or.inl ⟨by rfl, by intro w hs; go_simp⟩) hHeld ?_
        refine norm_any' (fun K hK => ?_)
        go_simp
        refine hK _ _ ?_
        clear hK K
        refine wpAnyH_take (i := 5) (v := .int .i64 tt) rfl (by kernel_rfl) (by kernel_rfl) (by kernel_rfl) (fun _ _ _ h => h) (Or.inl ⟨by rfl, by rintro w ⟨s0, s1⟩; go_simp⟩) hHeld ?_
        refine norm_any' (fun K hK => ?_)
        go_simp
        refine hK _ _ ?_
        clear hK K
        refine wpAnyH_take (i := 6) (v := .bool true) rfl (by kernel_rfl) (by kernel_rfl) (by kernel_rfl) (fun _ _ _ h => h) (Or.inl ⟨by rfl, by intro w hs; go_simp⟩) hHeld ?_
        refine norm_any' (fun K hK => ?_)
        go_simp
        refine hK _ _ ?_
        clear hK K
        refine wpAnyH_done (by kernel_rfl) ?_ _
        clear hHeld
        go_wp2
        exact HE.out
      · obtain ⟨g', off', c', w3, W2, W3, hW2, y4, yf4, hW3, hx3, y0, hap, z0, zf0, hRR⟩ := HTAIL.out (by rw [HS'.out, if_neg pt])
        have HAP : Aside _ := hap
        have HRR : Aside _ := hRR
        have HX3 : Aside _ := hx3
        have b1' : W0.drew.drew.cell? ⟨B, 1, none⟩ = some (.int .i64 a) := b1
        have c2' : W0.drew.drew.cell? ⟨A.b, 2, none⟩ = some (.int .i64 tt) := c2
        have cf2' : W0.drew.drew.frozen? ⟨A.b, 2, none⟩ = false := cf2
        clear hap hRR HNO2 HS' hx3
        go_wp2_with fail
        refine wp_region_held_drew (S := fun X => X.cell? ⟨B, 1, none⟩ = some (.int .i64 a) ∧ X.cell? ⟨A.b, 2, none⟩ = some (.int .i64 tt)) (by kernel_rfl) ⟨b1, c2⟩ (fun hHeld => ?_)
        refine wpAnyH_take (i := 0) (v := .pointer (some ⟨B, 1, none⟩)) rfl (by kernel_rfl) (by kernel_rfl) (by kernel_rfl) (fun _ _ _ h => h) (Or.inl ⟨by rfl, by intro w hs; go_simp⟩) hHeld ?_
        refine norm_any' (fun K hK => ?_)
        go_simp
        refine hK _ _ ?_
        clear hK K
        refine wpAnyH_take (i := 1) (v := .int .i64 a) rfl (by kernel_rfl) (by kernel_rfl) (by kernel_rfl) (fun _ _ _ h => h) (Or.inl ⟨by rfl, by rintro w ⟨s0, s1⟩; go_simp⟩) hHeld ?_
        refine norm_any' (fun K hK => ?_)
        go_simp
        refine hK _ _ ?_
        clear hK K
        refine wpAnyH_take (i := 2) (v := .pointer (some ⟨A.b, 0, none⟩)) rfl (by kernel_rfl) (by kernel_rfl) (by kernel_rfl) (fun _ _ _ h => h) (Or.inl ⟨by rfl, by intro w hs; go_simp⟩) hHeld ?_
        refine norm_any' (fun K hK => ?_)
        go_simp
        refine hK _ _ ?_
        clear hK K
        refine wpAnyH_take (i := 3) (v := .pointer (some ⟨A.b, 0, none⟩)) rfl (by kernel_rfl) (by kernel_rfl) (by kernel_rfl) (fun _ _ _ h => h) (Or.inl ⟨by rfl, by intro w hs; go_simp⟩) hHeld ?_
        refine norm_any' (fun K hK => ?_)
        go_simp
        refine hK _ _ ?_
        clear hK K
        refine wpAnyH_take (i := 4) (v := .pointer (some ⟨A.b, 2, none⟩)) rfl (by kernel_rfl) (by kernel_rfl) (by kernel_rfl) (fun _ _ _ h => h) (Or.inl ⟨by rfl, by intro w hs; go_simp⟩) hHeld ?_
        refine norm_any' (fun K hK => ?_)
        go_simp
        refine hK _ _ ?_
        clear hK K
        refine wpAnyH_take (i := 5) (v := .int .i64 tt) rfl (by kernel_rfl) (by kernel_rfl) (by kernel_rfl) (fun _ _ _ h => h) (Or.inl ⟨by rfl, by rintro w ⟨s0, s1⟩; go_simp⟩) hHeld ?_
        refine norm_any' (fun K hK => ?_)
        go_simp
        refine hK _ _ ?_
        clear hK K
        refine wpAnyH_take (i := 6) (v := .bool false) rfl (by kernel_rfl) (by kernel_rfl) (by kernel_rfl) (fun _ _ _ h => h) (Or.inl ⟨by rfl, by intro w hs; go_simp⟩) hHeld ?_
        refine norm_any' (fun K hK => ?_)
        go_simp
        refine hK _ _ ?_
        clear hK K
        refine wpAnyH_done (by kernel_rfl) ?_ _
        clear hHeld
        have hW2' := hW2.symm
        have hW3' := hW3.symm
        clear hW2 hW3
        have g0 : W3.cell? ⟨B, 0, none⟩ = some (.int .i64 n) := by simp only [World.cell?]; rw [HX3.out]; rfl
        have g1 : W3.cell? ⟨B, 1, none⟩ = some (.int .i64 a) := by simp only [World.cell?]; rw [HX3.out]; rfl
        have g2 : W3.cell? ⟨B, 2, none⟩ = some (.int .i64 s) := by simp only [World.cell?]; rw [HX3.out]; rfl
        have g3 : W3.cell? ⟨B, 3, none⟩ = some (.bool e) := by simp only [World.cell?]; rw [HX3.out]; rfl
        have g4 : W3.cell? ⟨B, 4, none⟩ = some (.int .i64 0) := by simp only [World.cell?]; rw [HX3.out]; rfl
        have y0a : (W3.alloc (.cells #[.int .i64 n, .int .i64 a, .int .i64 s, .bool e, .int .i64 0] 37)).cell? ⟨A.b, 0, none⟩ = _ := cell_bel y0 (bel1 W3 _)
        go_wp2_with fail
        go_region_law (refine step_appr rfl (.tmp 70) (.tmp 72) 43 43 rfl _ _ rfl rfl HAP.out ?_)
        all_goals
          go_wp2
          exact HRR.out
    · obtain ⟨g, off, x, ho, cx, hr⟩ := hlast m rfl
      rw [hr] at HS'
      have HO : Aside _ := ho
      have im : IntKind.i64.wrap (((m : Int) + 1) - 1) = (m : Int) := by rw [wrp _ (by omega) (by omega)]; omega
      have im0 : IntKind.i64.wrap (m : Int) = (m : Int) := wrp _ (by omega) (by omega)
      have im2 : (m : Int) < (m : Int) + 1 := by omega
      have im3 : (0 : Int) < (m : Int) + 1 := by omega
      clear hnil hlast hr HO
      generalize A.o = oo at *
      subst ho
      by_cases pn : n ≤ x
      · have HE : Aside _ := HNO2.out 13 (by rw [HS'.out, if_pos pn]) (by decide) W0.drew ((Below.refl _ W0).drew)
        refine wp_region_held_drew (S := fun X => X.cell? ⟨A.b, 0, none⟩ = some (.slice (some ⟨g, off, none⟩) (m + 1) A.c) ∧ X.cell? ⟨B, 0, none⟩ = some (.int .i64 n) ∧ X.cell? ⟨g, off + m * 5, none⟩ = some (.int .i64 x)) (by kernel_rfl) ⟨c0, b0, cx⟩ (fun hHeld => ?_)
        refine wpAnyH_take (i := 0) (v := .pointer (some ⟨A.b, 0, none⟩)) rfl (by kernel_rfl) (by kernel_rfl) (by kernel_rfl) (fun _ _ _ h => h) (Or.inl ⟨by rfl, by intro w hs; go_simp⟩) hHeld ?_
        refine norm_any' (fun K hK => ?_)
        go_simp
        refine hK _ _ ?_
        clear hK K
        refine wpAnyH_take (i := 1) (v := .pointer (some ⟨A.b, 0, none⟩)) rfl (by kernel_rfl) (by kernel_rfl) (by kernel_rfl) (fun _ _ _ h => h) (Or.inl ⟨by rfl, by intro w hs; go_simp⟩) hHeld ?_
        refine norm_any' (fun K hK => ?_)
        go_simp
        refine hK _ _ ?_
        clear hK K
        refine wpAnyH_take (i := 2) (v := .pointer (some ⟨A.b, 0, none⟩)) rfl (by kernel_rfl) (by kernel_rfl) (by kernel_rfl) (fun _ _ _ h => h) (Or.inl ⟨by rfl, by intro w hs; go_simp⟩) hHeld ?_
        refine norm_any' (fun K hK => ?_)
        go_simp
        refine hK _ _ ?_
        clear hK K
        refine wpAnyH_take (i := 3) (v := .slice (some ⟨g, off, none⟩) (m + 1) A.c) rfl (by kernel_rfl) (by kernel_rfl) (by kernel_rfl) (fun _ _ _ h => h) (Or.inl ⟨by rfl, by rintro w ⟨s0, s1, s2⟩; go_simp⟩) hHeld ?_
        refine norm_any' (fun K hK => ?_)
        go_simp
        refine hK _ _ ?_
        clear hK K
        refine wpAnyH_take (i := 4) (v := .int .i64 ((m : Int) + 1)) rfl (by kernel_rfl) (by kernel_rfl) (by kernel_rfl) (fun _ _ _ h => h) (Or.inl ⟨by rfl, by intro w hs; go_simp⟩) hHeld ?_
        refine norm_any' (fun K hK => ?_)
        go_simp
        refine hK _ _ ?_
        clear hK K
        refine wpAnyH_take (i := 5) (v := .bool true) rfl (by kernel_rfl) (by kernel_rfl) (by kernel_rfl) (fun _ _ _ h => h) (Or.inl ⟨by rfl, by intro w hs; go_simp⟩) hHeld ?_
        refine norm_any' (fun K hK => ?_)
        go_simp
        refine hK _ _ ?_
        clear hK K
        refine wpAnyH_take (i := 6) (v := .bool true) rfl (by kernel_rfl) (by kernel_rfl) (by kernel_rfl) (fun _ _ _ h => h) (Or.inl ⟨by rfl, by intro w hs; go_simp⟩) hHeld ?_
        refine norm_any' (fun K hK => ?_)
        go_simp
        refine hK _ _ ?_
        clear hK K
        refine wpAnyH_take (i := 7) (v := .pointer (some ⟨B, 0, none⟩)) rfl (by kernel_rfl) (by kernel_rfl) (by kernel_rfl) (fun _ _ _ h => h) (Or.inl ⟨by rfl, by intro w hs; go_simp⟩) hHeld ?_
        refine norm_any' (fun K hK => ?_)
        go_simp
        refine hK _ _ ?_
        clear hK K
        refine wpAnyH_take (i := 8) (v := .int .i64 n) rfl (by kernel_rfl) (by kernel_rfl) (by kernel_rfl) (fun _ _ _ h => h) (Or.inl ⟨by rfl, by rintro w ⟨s0, s1, s2⟩; go_simp⟩) hHeld ?_
        refine norm_any' (fun K hK => ?_)
        go_simp
        refine hK _ _ ?_
        clear hK K
        refine wpAnyH_take (i := 9) (v := .pointer (some ⟨A.b, 0, none⟩)) rfl (by kernel_rfl) (by kernel_rfl) (by kernel_rfl) (fun _ _ _ h => h) (Or.inl ⟨by rfl, by intro w hs; go_simp⟩) hHeld ?_
        refine norm_any' (fun K hK => ?_)
        go_simp
        refine hK _ _ ?_
        clear hK K
        refine wpAnyH_take (i := 10) (v := .pointer (some ⟨A.b, 0, none⟩)) rfl (by kernel_rfl) (by kernel_rfl) (by kernel_rfl) (fun _ _ _ h => h) (Or.inl ⟨by rfl, by intro w hs; go_simp⟩) hHeld ?_
        refine norm_any' (fun K hK => ?_)
        go_simp
        refine hK _ _ ?_
        clear hK K
        refine wpAnyH_take (i := 11) (v := .pointer (some ⟨A.b, 0, none⟩)) rfl (by kernel_rfl) (by kernel_rfl) (by kernel_rfl) (fun _ _ _ h => h) (Or.inl ⟨by rfl, by intro w hs; go_simp⟩) hHeld ?_
        refine norm_any' (fun K hK => ?_)
        go_simp
        refine hK _ _ ?_
        clear hK K
        refine wpAnyH_take (i := 12) (v := .slice (some ⟨g, off, none⟩) (m + 1) A.c) rfl (by kernel_rfl) (by kernel_rfl) (by kernel_rfl) (fun _ _ _ h => h) (Or.inl ⟨by rfl, by rintro w ⟨s0, s1, s2⟩; go_simp⟩) hHeld ?_
        refine norm_any' (fun K hK => ?_)
        go_simp
        refine hK _ _ ?_
        clear hK K
        refine wpAnyH_take (i := 13) (v := .pointer (some ⟨A.b, 0, none⟩)) rfl (by kernel_rfl) (by kernel_rfl) (by kernel_rfl) (fun _ _ _ h => h) (Or.inl ⟨by rfl, by intro w hs; go_simp⟩) hHeld ?_
        refine norm_any' (fun K hK => ?_)
        go_simp
        refine hK _ _ ?_
        clear hK K
        refine wpAnyH_take (i := 14) (v := .pointer (some ⟨A.b, 0, none⟩)) rfl (by kernel_rfl) (by kernel_rfl) (by kernel_rfl) (fun _ _ _ h => h) (Or.inl ⟨by rfl, by intro w hs; go_simp⟩) hHeld ?_
        refine norm_any' (fun K hK => ?_)
        go_simp
        refine hK _ _ ?_
        clear hK K
        refine wpAnyH_take (i := 15) (v := .pointer (some ⟨A.b, 0, none⟩)) rfl (by kernel_rfl) (by kernel_rfl) (by kernel_rfl) (fun _ _ _ h => h) (Or.inl ⟨by rfl, by intro w hs; go_simp⟩) hHeld ?_
        refine norm_any' (fun K hK => ?_)
        go_simp
        refine hK _ _ ?_
        clear hK K
        refine wpAnyH_take (i := 16) (v := .slice (some ⟨g, off, none⟩) (m + 1) A.c) rfl (by kernel_rfl) (by kernel_rfl) (by kernel_rfl) (fun _ _ _ h => h) (Or.inl ⟨by rfl, by rintro w ⟨s0, s1, s2⟩; go_simp⟩) hHeld ?_
        refine norm_any' (fun K hK => ?_)
        go_simp
        refine hK _ _ ?_
        clear hK K
        refine wpAnyH_take (i := 17) (v := .int .i64 ((m : Int) + 1)) rfl (by kernel_rfl) (by kernel_rfl) (by kernel_rfl) (fun _ _ _ h => h) (Or.inl ⟨by rfl, by intro w hs; go_simp⟩) hHeld ?_
        refine norm_any' (fun K hK => ?_)
        go_simp
        refine hK _ _ ?_
        clear hK K
        refine wpAnyH_take (i := 18) (v := .int .i64 (m : Int)) rfl (by kernel_rfl) (by kernel_rfl) (by kernel_rfl) (fun _ _ _ h => h) (Or.inl ⟨by rfl, by intro w hs; go_simp⟩) hHeld ?_
        refine norm_any' (fun K hK => ?_)
        go_simp
        refine hK _ _ ?_
        clear hK K
        refine wpAnyH_take (i := 19) (v := .pointer (some ⟨g, off + m * 5, none⟩)) rfl (by kernel_rfl) (by kernel_rfl) (by kernel_rfl) (fun _ _ _ h => h) (Or.inl ⟨by rfl, by intro w hs; go_simp⟩) hHeld ?_
        refine norm_any' (fun K hK => ?_)
        go_simp
        refine hK _ _ ?_
        clear hK K
        refine wpAnyH_take (i := 20) (v := .pointer (some ⟨g, off + m * 5, none⟩)) rfl (by kernel_rfl) (by kernel_rfl) (by kernel_rfl) (fun _ _ _ h => h) (Or.inl ⟨by rfl, by intro w hs; go_simp⟩) hHeld ?_
        refine norm_any' (fun K hK => ?_)
        go_simp
        refine hK _ _ ?_
        clear hK K
        refine wpAnyH_take (i := 21) (v := .int .i64 x) rfl (by kernel_rfl) (by kernel_rfl) (by kernel_rfl) (fun _ _ _ h => h) (Or.inl ⟨by rfl, by rintro w ⟨s0, s1, s2⟩; go_simp⟩) hHeld ?_
        refine norm_any' (fun K hK => ?_)
        go_simp
        refine hK _ _ ?_
        clear hK K
        refine wpAnyH_take (i := 22) (v := .bool true) rfl (by kernel_rfl) (by kernel_rfl) (by kernel_rfl) (fun _ _ _ h => h) (Or.inl ⟨by rfl, by intro w hs; go_simp⟩) hHeld ?_
        refine norm_any' (fun K hK => ?_)
        go_simp
        refine hK _ _ ?_
        clear hK K
        refine wpAnyH_take (i := 23) (v := .bool true) rfl (by kernel_rfl) (by kernel_rfl) (by kernel_rfl) (fun _ _ _ h => h) (Or.inl ⟨by rfl, by intro w hs; go_simp⟩) hHeld ?_
        refine norm_any' (fun K hK => ?_)
        go_simp
        refine hK _ _ ?_
        clear hK K
        refine wpAnyH_done (by kernel_rfl) ?_ _
        clear hHeld
        go_wp2
        exact HE.out
      · rw [if_neg pn] at HS'
        refine wp_region_held_drew (S := fun X => X.cell? ⟨A.b, 0, none⟩ = some (.slice (some ⟨g, off, none⟩) (m + 1) A.c) ∧ X.cell? ⟨B, 0, none⟩ = some (.int .i64 n) ∧ X.cell? ⟨g, off + m * 5, none⟩ = some (.int .i64 x)) (by kernel_rfl) ⟨c0, b0, cx⟩ (fun hHeld => ?_)
        refine wpAnyH_take (i := 0) (v := .pointer (some ⟨A.b, 0, none⟩)) rfl (by kernel_rfl) (by kernel_rfl) (by kernel_rfl) (fun _ _ _ h => h) (Or.inl ⟨by rfl, by intro w hs; go_simp⟩) hHeld ?_
        refine norm_any' (fun K hK => ?_)
        go_simp
        refine hK _ _ ?_
        clear hK K
        refine wpAnyH_take (i := 1) (v := .pointer (some ⟨A.b, 0, none⟩)) rfl (by kernel_rfl) (by kernel_rfl) (by kernel_rfl) (fun _ _ _ h => h) (Or.inl ⟨by rfl, by intro w hs; go_simp⟩) hHeld ?_
        refine norm_any' (fun K hK => ?_)
        go_simp
        refine hK _ _ ?_
        clear hK K
        refine wpAnyH_take (i := 2) (v := .pointer (some ⟨A.b, 0, none⟩)) rfl (by kernel_rfl) (by kernel_rfl) (by kernel_rfl) (fun _ _ _ h => h) (Or.inl ⟨by rfl, by intro w hs; go_simp⟩) hHeld ?_
        refine norm_any' (fun K hK => ?_)
        go_simp
        refine hK _ _ ?_
        clear hK K
        refine wpAnyH_take (i := 3) (v := .slice (some ⟨g, off, none⟩) (m + 1) A.c) rfl (by kernel_rfl) (by kernel_rfl) (by kernel_rfl) (fun _ _ _ h => h) (Or.inl ⟨by rfl, by rintro w ⟨s0, s1, s2⟩; go_simp⟩) hHeld ?_
        refine norm_any' (fun K hK => ?_)
        go_simp
        refine hK _ _ ?_
        clear hK K
        refine wpAnyH_take (i := 4) (v := .int .i64 ((m : Int) + 1)) rfl (by kernel_rfl) (by kernel_rfl) (by kernel_rfl) (fun _ _ _ h => h) (Or.inl ⟨by rfl, by intro w hs; go_simp⟩) hHeld ?_
        refine norm_any' (fun K hK => ?_)
        go_simp
        refine hK _ _ ?_
        clear hK K
        refine wpAnyH_take (i := 5) (v := .bool true) rfl (by kernel_rfl) (by kernel_rfl) (by kernel_rfl) (fun _ _ _ h => h) (Or.inl ⟨by rfl, by intro w hs; go_simp⟩) hHeld ?_
        refine norm_any' (fun K hK => ?_)
        go_simp
        refine hK _ _ ?_
        clear hK K
        refine wpAnyH_take (i := 6) (v := .bool true) rfl (by kernel_rfl) (by kernel_rfl) (by kernel_rfl) (fun _ _ _ h => h) (Or.inl ⟨by rfl, by intro w hs; go_simp⟩) hHeld ?_
        refine norm_any' (fun K hK => ?_)
        go_simp
        refine hK _ _ ?_
        clear hK K
        refine wpAnyH_take (i := 7) (v := .pointer (some ⟨B, 0, none⟩)) rfl (by kernel_rfl) (by kernel_rfl) (by kernel_rfl) (fun _ _ _ h => h) (Or.inl ⟨by rfl, by intro w hs; go_simp⟩) hHeld ?_
        refine norm_any' (fun K hK => ?_)
        go_simp
        refine hK _ _ ?_
        clear hK K
        refine wpAnyH_take (i := 8) (v := .int .i64 n) rfl (by kernel_rfl) (by kernel_rfl) (by kernel_rfl) (fun _ _ _ h => h) (Or.inl ⟨by rfl, by rintro w ⟨s0, s1, s2⟩; go_simp⟩) hHeld ?_
        refine norm_any' (fun K hK => ?_)
        go_simp
        refine hK _ _ ?_
        clear hK K
        refine wpAnyH_take (i := 9) (v := .pointer (some ⟨A.b, 0, none⟩)) rfl (by kernel_rfl) (by kernel_rfl) (by kernel_rfl) (fun _ _ _ h => h) (Or.inl ⟨by rfl, by intro w hs; go_simp⟩) hHeld ?_
        refine norm_any' (fun K hK => ?_)
        go_simp
        refine hK _ _ ?_
        clear hK K
        refine wpAnyH_take (i := 10) (v := .pointer (some ⟨A.b, 0, none⟩)) rfl (by kernel_rfl) (by kernel_rfl) (by kernel_rfl) (fun _ _ _ h => h) (Or.inl ⟨by rfl, by intro w hs; go_simp⟩) hHeld ?_
        refine norm_any' (fun K hK => ?_)
        go_simp
        refine hK _ _ ?_
        clear hK K
        refine wpAnyH_take (i := 11) (v := .pointer (some ⟨A.b, 0, none⟩)) rfl (by kernel_rfl) (by kernel_rfl) (by kernel_rfl) (fun _ _ _ h => h) (Or.inl ⟨by rfl, by intro w hs; go_simp⟩) hHeld ?_
        refine norm_any' (fun K hK => ?_)
        go_simp
        refine hK _ _ ?_
        clear hK K
        refine wpAnyH_take (i := 12) (v := .slice (some ⟨g, off, none⟩) (m + 1) A.c) rfl (by kernel_rfl) (by kernel_rfl) (by kernel_rfl) (fun _ _ _ h => h) (Or.inl ⟨by rfl, by rintro w ⟨s0, s1, s2⟩; go_simp⟩) hHeld ?_
        refine norm_any' (fun K hK => ?_)
        go_simp
        refine hK _ _ ?_
        clear hK K
        refine wpAnyH_take (i := 13) (v := .pointer (some ⟨A.b, 0, none⟩)) rfl (by kernel_rfl) (by kernel_rfl) (by kernel_rfl) (fun _ _ _ h => h) (Or.inl ⟨by rfl, by intro w hs; go_simp⟩) hHeld ?_
        refine norm_any' (fun K hK => ?_)
        go_simp
        refine hK _ _ ?_
        clear hK K
        refine wpAnyH_take (i := 14) (v := .pointer (some ⟨A.b, 0, none⟩)) rfl (by kernel_rfl) (by kernel_rfl) (by kernel_rfl) (fun _ _ _ h => h) (Or.inl ⟨by rfl, by intro w hs; go_simp⟩) hHeld ?_
        refine norm_any' (fun K hK => ?_)
        go_simp
        refine hK _ _ ?_
        clear hK K
        refine wpAnyH_take (i := 15) (v := .pointer (some ⟨A.b, 0, none⟩)) rfl (by kernel_rfl) (by kernel_rfl) (by kernel_rfl) (fun _ _ _ h => h) (Or.inl ⟨by rfl, by intro w hs; go_simp⟩) hHeld ?_
        refine norm_any' (fun K hK => ?_)
        go_simp
        refine hK _ _ ?_
        clear hK K
        refine wpAnyH_take (i := 16) (v := .slice (some ⟨g, off, none⟩) (m + 1) A.c) rfl (by kernel_rfl) (by kernel_rfl) (by kernel_rfl) (fun _ _ _ h => h) (Or.inl ⟨by rfl, by rintro w ⟨s0, s1, s2⟩; go_simp⟩) hHeld ?_
        refine norm_any' (fun K hK => ?_)
        go_simp
        refine hK _ _ ?_
        clear hK K
        refine wpAnyH_take (i := 17) (v := .int .i64 ((m : Int) + 1)) rfl (by kernel_rfl) (by kernel_rfl) (by kernel_rfl) (fun _ _ _ h => h) (Or.inl ⟨by rfl, by intro w hs; go_simp⟩) hHeld ?_
        refine norm_any' (fun K hK => ?_)
        go_simp
        refine hK _ _ ?_
        clear hK K
        refine wpAnyH_take (i := 18) (v := .int .i64 (m : Int)) rfl (by kernel_rfl) (by kernel_rfl) (by kernel_rfl) (fun _ _ _ h => h) (Or.inl ⟨by rfl, by intro w hs; go_simp⟩) hHeld ?_
        refine norm_any' (fun K hK => ?_)
        go_simp
        refine hK _ _ ?_
        clear hK K
        refine wpAnyH_take (i := 19) (v := .pointer (some ⟨g, off + m * 5, none⟩)) rfl (by kernel_rfl) (by kernel_rfl) (by kernel_rfl) (fun _ _ _ h => h) (Or.inl ⟨by rfl, by intro w hs; go_simp⟩) hHeld ?_
        refine norm_any' (fun K hK => ?_)
        go_simp
        refine hK _ _ ?_
        clear hK K
        refine wpAnyH_take (i := 20) (v := .pointer (some ⟨g, off + m * 5, none⟩)) rfl (by kernel_rfl) (by kernel_rfl) (by kernel_rfl) (fun _ _ _ h => h) (Or.inl ⟨by rfl, by intro w hs; go_simp⟩) hHeld ?_
        refine norm_any' (fun K hK => ?_)
        go_simp
        refine hK _ _ ?_
        clear hK K
        refine wpAnyH_take (i := 21) (v := .int .i64 x) rfl (by kernel_rfl) (by kernel_rfl) (by kernel_rfl) (fun _ _ _ h => h) (Or.inl ⟨by rfl, by rintro w ⟨s0, s1, s2⟩; go_simp⟩) hHeld ?_
        refine norm_any' (fun K hK => ?_)
        go_simp
        refine hK _ _ ?_
        clear hK K
        refine wpAnyH_take (i := 22) (v := .bool false) rfl (by kernel_rfl) (by kernel_rfl) (by kernel_rfl) (fun _ _ _ h => h) (Or.inl ⟨by rfl, by intro w hs; go_simp⟩) hHeld ?_
        refine norm_any' (fun K hK => ?_)
        go_simp
        refine hK _ _ ?_
        clear hK K
        refine wpAnyH_take (i := 23) (v := .bool false) rfl (by kernel_rfl) (by kernel_rfl) (by kernel_rfl) (fun _ _ _ h => h) (Or.inl ⟨by rfl, by intro w hs; go_simp⟩) hHeld ?_
        refine norm_any' (fun K hK => ?_)
        go_simp
        refine hK _ _ ?_
        clear hK K
        refine wpAnyH_done (by kernel_rfl) ?_ _
        clear hHeld
        by_cases pt : a < tt
        · have HE : Aside _ := HNO2.out 42 (by rw [HS'.out, if_pos pt]) (by decide) W0.drew.drew ((Below.refl _ W0).drew.drew)
          go_wp2_with fail
          refine wp_region_held_drew (S := fun X => X.cell? ⟨B, 1, none⟩ = some (.int .i64 a) ∧ X.cell? ⟨A.b, 2, none⟩ = some (.int .i64 tt)) (by kernel_rfl) ⟨b1, c2⟩ (fun hHeld => ?_)
          refine wpAnyH_take (i := 0) (v := .pointer (some ⟨B, 1, none⟩)) rfl (by kernel_rfl) (by kernel_rfl) (by kernel_rfl) (fun _ _ _ h => h) (Or.inl ⟨by rfl, by intro w hs; go_simp⟩) hHeld ?_
          refine norm_any' (fun K hK => ?_)
          go_simp
          refine hK _ _ ?_
          clear hK K
          refine wpAnyH_take (i := 1) (v := .int .i64 a) rfl (by kernel_rfl) (by kernel_rfl) (by kernel_rfl) (fun _ _ _ h => h) (Or.inl ⟨by rfl, by rintro w ⟨s0, s1⟩; go_simp⟩) hHeld ?_
          refine norm_any' (fun K hK => ?_)
          go_simp
          refine hK _ _ ?_
          clear hK K
          refine wpAnyH_take (i := 2) (v := .pointer (some ⟨A.b, 0, none⟩)) rfl (by kernel_rfl) (by kernel_rfl) (by kernel_rfl) (fun _ _ _ h => h) (Or.inl ⟨by rfl, by intro w hs; go_simp⟩) hHeld ?_
          refine norm_any' (fun K hK => ?_)
          go_simp
          refine hK _ _ ?_
          clear hK K
          refine wpAnyH_take (i := 3) (v := .pointer (some ⟨A.b, 0, none⟩)) rfl (by kernel_rfl) (by kernel_rfl) (by kernel_rfl) (fun _ _ _ h => h) (Or.inl ⟨by rfl, by intro w hs; go_simp⟩) hHeld ?_
          refine norm_any' (fun K hK => ?_)
          go_simp
          refine hK _ _ ?_
          clear hK K
          refine wpAnyH_take (i := 4) (v := .pointer (some ⟨A.b, 2, none⟩)) rfl (by kernel_rfl) (by kernel_rfl) (by kernel_rfl) (fun _ _ _ h => h) (Or.inl ⟨by rfl, by intro w hs; go_simp⟩) hHeld ?_
          refine norm_any' (fun K hK => ?_)
          go_simp
          refine hK _ _ ?_
          clear hK K
          refine wpAnyH_take (i := 5) (v := .int .i64 tt) rfl (by kernel_rfl) (by kernel_rfl) (by kernel_rfl) (fun _ _ _ h => h) (Or.inl ⟨by rfl, by rintro w ⟨s0, s1⟩; go_simp⟩) hHeld ?_
          refine norm_any' (fun K hK => ?_)
          go_simp
          refine hK _ _ ?_
          clear hK K
          refine wpAnyH_take (i := 6) (v := .bool true) rfl (by kernel_rfl) (by kernel_rfl) (by kernel_rfl) (fun _ _ _ h => h) (Or.inl ⟨by rfl, by intro w hs; go_simp⟩) hHeld ?_
          refine norm_any' (fun K hK => ?_)
          go_simp
          refine hK _ _ ?_
          clear hK K
          refine wpAnyH_done (by kernel_rfl) ?_ _
          clear hHeld
          go_wp2
          exact HE.out
        · obtain ⟨g', off', c', w3, W2, W3, hW2, y4, yf4, hW3, hx3, y0, hap, z0, zf0, hRR⟩ := HTAIL.out (by rw [HS'.out, if_neg pt])
          have HAP : Aside _ := hap
          have HRR : Aside _ := hRR
          have HX3 : Aside _ := hx3
          have b1' : W0.drew.drew.cell? ⟨B, 1, none⟩ = some (.int .i64 a) := b1
          have c2' : W0.drew.drew.cell? ⟨A.b, 2, none⟩ = some (.int .i64 tt) := c2
          have cf2' : W0.drew.drew.frozen? ⟨A.b, 2, none⟩ = false := cf2
          clear hap hRR HNO2 HS' hx3
          go_wp2_with fail
          refine wp_region_held_drew (S := fun X => X.cell? ⟨B, 1, none⟩ = some (.int .i64 a) ∧ X.cell? ⟨A.b, 2, none⟩ = some (.int .i64 tt)) (by kernel_rfl) ⟨b1, c2⟩ (fun hHeld => ?_)
          refine wpAnyH_take (i := 0) (v := .pointer (some ⟨B, 1, none⟩)) rfl (by kernel_rfl) (by kernel_rfl) (by kernel_rfl) (fun _ _ _ h => h) (Or.inl ⟨by rfl, by intro w hs; go_simp⟩) hHeld ?_
          refine norm_any' (fun K hK => ?_)
          go_simp
          refine hK _ _ ?_
          clear hK K
          refine wpAnyH_take (i := 1) (v := .int .i64 a) rfl (by kernel_rfl) (by kernel_rfl) (by kernel_rfl) (fun _ _ _ h => h) (Or.inl ⟨by rfl, by rintro w ⟨s0, s1⟩; go_simp⟩) hHeld ?_
          refine norm_any' (fun K hK => ?_)
          go_simp
          refine hK _ _ ?_
          clear hK K
          refine wpAnyH_take (i := 2) (v := .pointer (some ⟨A.b, 0, none⟩)) rfl (by kernel_rfl) (by kernel_rfl) (by kernel_rfl) (fun _ _ _ h => h) (Or.inl ⟨by rfl, by intro w hs; go_simp⟩) hHeld ?_
          refine norm_any' (fun K hK => ?_)
          go_simp
          refine hK _ _ ?_
          clear hK K
          refine wpAnyH_take (i := 3) (v := .pointer (some ⟨A.b, 0, none⟩)) rfl (by kernel_rfl) (by kernel_rfl) (by kernel_rfl) (fun _ _ _ h => h) (Or.inl ⟨by rfl, by intro w hs; go_simp⟩) hHeld ?_
          refine norm_any' (fun K hK => ?_)
          go_simp
          refine hK _ _ ?_
          clear hK K
          refine wpAnyH_take (i := 4) (v := .pointer (some ⟨A.b, 2, none⟩)) rfl (by kernel_rfl) (by kernel_rfl) (by kernel_rfl) (fun _ _ _ h => h) (Or.inl ⟨by rfl, by intro w hs; go_simp⟩) hHeld ?_
          refine norm_any' (fun K hK => ?_)
          go_simp
          refine hK _ _ ?_
          clear hK K
          refine wpAnyH_take (i := 5) (v := .int .i64 tt) rfl (by kernel_rfl) (by kernel_rfl) (by kernel_rfl) (fun _ _ _ h => h) (Or.inl ⟨by rfl, by rintro w ⟨s0, s1⟩; go_simp⟩) hHeld ?_
          refine norm_any' (fun K hK => ?_)
          go_simp
          refine hK _ _ ?_
          clear hK K
          refine wpAnyH_take (i := 6) (v := .bool false) rfl (by kernel_rfl) (by kernel_rfl) (by kernel_rfl) (fun _ _ _ h => h) (Or.inl ⟨by rfl, by intro w hs; go_simp⟩) hHeld ?_
          refine norm_any' (fun K hK => ?_)
          go_simp
          refine hK _ _ ?_
          clear hK K
          refine wpAnyH_done (by kernel_rfl) ?_ _
          clear hHeld
          have hW2' := hW2.symm
          have hW3' := hW3.symm
          clear hW2 hW3
          have g0 : W3.cell? ⟨B, 0, none⟩ = some (.int .i64 n) := by simp only [World.cell?]; rw [HX3.out]; rfl
          have g1 : W3.cell? ⟨B, 1, none⟩ = some (.int .i64 a) := by simp only [World.cell?]; rw [HX3.out]; rfl
          have g2 : W3.cell? ⟨B, 2, none⟩ = some (.int .i64 s) := by simp only [World.cell?]; rw [HX3.out]; rfl
          have g3 : W3.cell? ⟨B, 3, none⟩ = some (.bool e) := by simp only [World.cell?]; rw [HX3.out]; rfl
          have g4 : W3.cell? ⟨B, 4, none⟩ = some (.int .i64 0) := by simp only [World.cell?]; rw [HX3.out]; rfl
          have y0a : (W3.alloc (.cells #[.int .i64 n, .int .i64 a, .int .i64 s, .bool e, .int .i64 0] 37)).cell? ⟨A.b, 0, none⟩ = _ := cell_bel y0 (bel1 W3 _)
          go_wp2_with fail
          go_region_law (refine step_appr rfl (.tmp 70) (.tmp 72) 43 43 rfl _ _ rfl rfl HAP.out ?_)
          all_goals
            go_wp2
            exact HRR.out
end Go.Proofs.Ytkjcapmhjhnckaa
