/- LedgerPlays: Acked, with the spans copied. -/
import Derived.Test.YtkjcapmhjhnckaaPb
import Derived.Test.YtkjcapmhjhnckaaSb
namespace Go.Proofs.Ytkjcapmhjhnckaa
open Go.RowKit Go.Maps Go.Shelf
set_option linter.unusedVariables false
set_option maxRecDepth 100000

theorem Rw.sr {W : World} {o : Option Addr} {c : Nat} {S : List (Int × Int)} (h : Rw 50 2 W o S.length c (fl S)) : Sr W o S := fun i hi => by
  obtain ⟨g, off, e, c0, c1, _⟩ := Rw.span h hi
  exact ⟨g, off, e, c0, c1⟩
theorem Sr.src {W : World} {la : Option Addr} {S : List (Int × Int)} (cap : Nat) (h : Sr W la S) (hn : la = none → S = [] ∧ cap = 0) : Src Try.prog 2 30 (.slice la S.length cap) S.length (fl S) W := by
  cases la with
  | none =>
    obtain ⟨rfl, rfl⟩ := hn rfl
    exact Src.ofNil _ Try.underlying30 _
  | some ad =>
    refine Src.ofSlice _ Try.underlying30 ad _ cap (fl S) (fl_len S) (fun j u hu => ?_) (fl_ones S)
    have hj : j < S.length * 2 := by have := (List.getElem?_eq_some_iff.1 hu).1; rw [fl_len] at this; exact this
    have hi : j / 2 < S.length := by omega
    obtain ⟨b, off, e, c0, c1⟩ := h (j / 2) hi
    obtain ⟨a0, a1⟩ := fl_at hi
    injection e with e
    subst e
    rw [Addr.add_lit]
    by_cases hm : j % 2 = 0
    · have ej : j / 2 * 2 = j := by omega
      rw [ej] at a0 c0
      rw [a0] at hu
      rw [c0]
      exact hu
    · have ej : j / 2 * 2 + 1 = j := by omega
      rw [ej] at a1
      rw [a1] at hu
      rw [show off + j = off + j / 2 * 2 + 1 by omega, c1]
      exact hu
section
variable {w X Y : World} {A A' : Ad} {B : Ra} {L L' : Ls} {R R' : Rs} {M B8 : Nat} {r : ActR}
/-- The spans copied. -/
theorem Bx.copy (h : Bx w A B L R M B8 r X) : ∃ g off c' Y, (Builtin.append_ #[30, 30] 30 #[.slice (some ⟨X.heap.size, 0, none⟩) 0 0, .slice r.la r.S.length r.cap]).run Try.prog (X.alloc (.cells #[] 50)) = .ok (.slice (some ⟨g, off, none⟩) r.S.length c') Y ∧
    Below X.heap.size X Y ∧ Rw 50 2 Y (some ⟨g, off, none⟩) r.S.length c' (fl r.S) ∧ X.heap.size ≤ g := by
  obtain ⟨i, hq, hz, hi, hby⟩ := info_parts info50
  have hn0 : Rw 50 2 (X.alloc (.cells #[] 50)) (some ⟨X.heap.size, 0, none⟩) 0 0 [] := by
    have := Rw.new X 50 2 0 [] (by simp) (by unfold maxLen; omega)
    exact this
  have hb1 := bel1 X (.cells #[] 50)
  have p1 := Sr.src r.cap (h.ok.sr.bel (h.s.bel.trans (hb1.mono h.s.bel.size))) h.ok.none
  have hl := h.ok.len
  obtain ⟨g, off, c', Y, a1, a2, a3, a4⟩ := Rw.append0 Try.underlying30 hq hz hi hby rfl hn0 p1 (by omega) (by omega)
  have hXY : Below X.heap.size X Y := hb1.trans (a3.toBelow (by simp) (fun k hk hb => by have := hb.of; omega))
  rw [Nat.zero_add] at a1 a2
  rw [List.nil_append] at a2
  refine ⟨g, off, c', Y, a1 30, hXY, a2, ?_⟩
  rcases a4 with h | h
  · omega
  · rw [h]; simp
theorem wra_zero {S : List (Int × Int)} {now late : Int} (h : wra L S now late = 0) : wrg L now late (aa S) = 0 := by
  unfold wra at h
  split at h
  · rename_i h1; exact absurd h h1
  · rename_i h1; exact Classical.byContradiction fun h => h1 h
theorem Bx.acked (h : Bx w A B L R M B8 r X) (hM : M ≤ 2000000000000) {g off c' : Nat} (hrow : Rw 50 2 X (some ⟨g, off, none⟩) r.S.length c' (fl r.S)) (hg : ¬ A.own g) (now late : Int) :
    Calls Try.prog 12 #[.pointer (some ⟨A.b, 0, none⟩), .slice (some ⟨g, off, none⟩) r.S.length c', .int .i64 now, .int .i64 late] X (Bot1 w A B M X 13 #[.pointer (some ⟨B.b, 0, none⟩), .slice r.la r.S.length r.cap, .int .i64 now, .int .i64 late] (wra L r.S now late)) := by
  have hlen := h.s.len
  have hx := h.j.wra r.S now late
  have hsl := h.ok.len
  obtain ⟨a1, a2⟩ := h.j.arr r.S h.g0.1
  refine h.both hM (acked_c h.s.l h.s.ok (by omega) (some ⟨g, off, none⟩) c' r.S (fun Y hY => Rw.sr (Rw.chg hrow hY fun j hj => by rw [hj.of]; exact hg)) (by omega) now late) (fun Y' hl hbel => ?_) (fun h0 => ?_) (P := rat r.S R.L) (T := rlt (R.arr r.S now).g (now - late) (R.arr r.S now).L) (R' := { R.arr r.S now with L := rlm (R.arr r.S now).g (now - late) (R.arr r.S now).L })
  · have := racked_c hl (by omega) h.j.ok h.g0.1 h.g0.2 r.la r.cap r.S (fun Z hZ => h.ok.sr.bel (hbel.trans (hZ.toBelow hbel.size fun k hk hB => by have := h.s.b0 k hB; omega))) (by omega) (fun x hx => (h.ok.sp x hx).1) now late
    by_cases h0 : wra L r.S now late = 0
    · obtain ⟨⟨t0, t1⟩, ⟨l0, l1⟩, haa, ht⟩ := wrg_zero (wra_zero h0)
      obtain ⟨_, _, e3⟩ := a1.pass now late (by show R.t ≤ now; rw [← h.j.t]; exact ht)
      have e4 : R.smp r.S now = smp (L.acked r.S) (hi r.S) now := by
        rw [← h.j.sample h.s.ok.fit.rise haa now, ← a2]
        unfold Rs.smp
        rw [List.any_map]
        rfl
      rw [hx, e4] at this
      rw [show rsp (rlm (R.arr r.S now).g (now - late) (R.arr r.S now).L) ((rlt (R.arr r.S now).g (now - late) (R.arr r.S now).L).map fun x => x.1) 0 = (L.arr r.S).spread now late from e3] at this
      exact this
    · rw [hx] at this
      exact this.mono fun e Z hz => ⟨hz.1, fun q => absurd q h0⟩
  · obtain ⟨⟨t0, t1⟩, ⟨l0, l1⟩, haa, ht⟩ := wrg_zero (wra_zero h0)
    obtain ⟨e1, e2, _⟩ := a1.pass now late (by show R.t ≤ now; rw [← h.j.t]; exact ht)
    have hpl := (arr_pass_perm L r.S now late).length_eq
    rw [List.length_append, List.length_append] at hpl
    have hol : (ons L.O).length ≤ L.O.length := by unfold ons; simp only [List.length_map]; exact List.length_filter_le _ _
    have hO := h.s.ok.lenO
    refine ⟨arr_pass_ok h.s.ok r.S now late t0 t1, e1, a2, e2, ?_, by omega, by omega⟩
    have q1 := congrArg List.length (rlm_fst (R.arr r.S now).g (now - late) (R.arr r.S now).L)
    have q2 := congrArg List.length (ram_fst r.S R.L)
    rw [List.length_map, List.length_map] at q1 q2
    show (rlm (R.arr r.S now).g (now - late) (R.arr r.S now).L).length ≤ M
    rw [q1]
    show (ram r.S R.L).length ≤ M
    rw [q2]
    exact hlen
/-- In the loop over the spans. -/
structure Lq (w : World) (b c M B8 : Nat) (r : ActR) (g off c' : Nat) (X : World) : Prop where
  p : Ps w b c M X
  b8 : X.heap[B8]? = some (.cells r.cs.toArray 32 (0, 0))
  row : Rw 50 2 X (some ⟨g, off, none⟩) r.S.length c' (fl r.S)
  sr : Sr X r.la r.S
theorem Lq.bl {b c g off c' : Nat} (h : Lq w b c M B8 r g off c' X) (hb : Below X.heap.size X Y) : Lq w b c M B8 r g off c' Y :=
  ⟨h.p.bl hb, (hb.block _ (Array.getElem?_eq_some_iff.1 h.b8).1).trans h.b8, Rw.bel h.row hb, h.sr.bel hb⟩
theorem lq_of {V : World} {g off c' : Nat} (h : Bx w A B L R M B8 r X) (hrow : Rw 50 2 X (some ⟨g, off, none⟩) r.S.length c' (fl r.S)) (h1 : ¬ A.own g) (h2 : ¬ B.own g) (hk : Kp A B X V) (hp : Ps w A.b B.b (M + 1) V) : Lq w A.b B.b (M + 1) B8 r g off c' V := by
  refine ⟨hp, hk _ _ _ h.b8 (by decide) h.n1 h.n2, Rw.keep hrow fun j hj => ?_, ?_⟩
  · obtain ⟨Q, hq⟩ := Rw.ty hrow hj
    rw [hq]
    rw [hj.of] at hq ⊢
    exact hk _ _ _ hq (by decide) h1 h2
  · obtain ⟨_, _, _, _, _, _, hpl, _⟩ := hp
    exact h.ok.sr.bel hpl.bel
end
theorem neq50 (f l : Int) (w : World) : (binOp .neq 50 (.agg #[.int .i64 f, .int .i64 l]) (.agg #[.int .i64 f, .int .i64 l])).run Try.prog w = .ok (.bool false) w := by
  have u3 := Try.underlying3
  have a3 := Try.isAgg3
  have z3 := Try.sizeOf3
  have hS : Try.prog.underlying 50 = some (.struct (Try.prog.fieldsOf 50)) := by kernel_rfl
  have hp : Try.prog.stoodInHeld 50 = false := by kernel_rfl
  rw [run_neq_struct, show (10000 : Nat) = 9999 + 1 from rfl, run_equalIn_struct w 9999 50 _ _ hS hp]
  simp only [Program.fieldsOf, Try.underlying50]
  go_simp
end Go.Proofs.Ytkjcapmhjhnckaa
