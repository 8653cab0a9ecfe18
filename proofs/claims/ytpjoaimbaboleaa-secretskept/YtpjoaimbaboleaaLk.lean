/- vault: link, heirs. -/
import Derived.Test.YtpjoaimbaboleaaRd
import Derived.Laws.MakeOwn
import Derived.Deep.CutRange
namespace Go.Proofs.Ytpjoaimbaboleaa
open Go.RowKit Go.Shelf Go.Lib
set_option linter.unusedVariables false

theorem il_set (X : List Nat) (i n : Nat) : il (X.set i n) = (il X).set i (.int .i64 (n : Int)) := by simp [il, List.map_set]
theorem row_cell {w : World} {b : Nat} {X : List Nat} (h : w.heap[b]? = some (.cells (il X).toArray 3 (0, 0))) {i n : Nat} (hi : X[i]? = some n) : w.cell? ⟨b, i, none⟩ = some (.int .i64 (n : Int)) := by
  simp only [World.cell?, h]
  simpa using il_at hi
set_option maxRecDepth 100000 in
set_option maxHeartbeats 2000000 in
theorem link_c (La Be N of' l a : Nat) (A B : List Nat) (w : World) (hA : w.heap[La]? = some (.cells (il A).toArray 3 (0, 0))) (lA : A.length = N) (hB : w.heap[Be]? = some (.cells (il B).toArray 3 (0, 0))) (lB : B.length = 2 * N) (hne : La ≠ Be) (hof : A[of']? = some a) (hl : l < 2 * N) (hN : N ≤ 1000000) :
    Calls Try.prog 69 #[.agg #[.slice (some ⟨La, 0, none⟩) N N, .slice (some ⟨Be, 0, none⟩) (2 * N) (2 * N)], .int .i64 (of' : Int), .int .i64 (l : Int)] w fun e w' => e = .returned (.tuple #[]) ∧ w'.heap[La]? = some (.cells (il (A.set of' l)).toArray 3 (0, 0)) ∧ w'.heap[Be]? = some (.cells (il (B.set l a)).toArray 3 (0, 0)) ∧ Chg (fun k => k = La ∨ k = Be) w w' := by
  have hol : of' < N := by rw [← lA]; exact (List.getElem?_eq_some_iff.1 hof).1
  obtain ⟨bv, hbv⟩ : ∃ bv, B[l]? = some bv := ⟨B[l]'(by omega), by simp [lB, hl]⟩
  have c1 := row_cell hA hof
  have c2 := row_cell hB hbv
  have f1 : w.frozen? ⟨La, of', none⟩ = false := by simp [World.frozen?, hA]
  have f2 : w.frozen? ⟨Be, l, none⟩ = false := by simp [World.frozen?, hB]
  have lLa : La < w.heap.size := (Array.getElem?_eq_some_iff.1 hA).1
  have lBe : Be < w.heap.size := (Array.getElem?_eq_some_iff.1 hB).1
  have i0 : (0 : Int) ≤ (of' : Int) := by omega
  have i1 : (of' : Int) < (N : Int) := by omega
  have i2 : (0 : Int) ≤ (l : Int) := by omega
  have i3 : (l : Int) < ((2 * N : Nat) : Int) := by omega
  have HFIN : Aside (∀ W : World, Below w.heap.size w W → ((W.setCell ⟨La, of', none⟩ (.int .i64 (l : Int))).setCell ⟨Be, l, none⟩ (.int .i64 (a : Int))).heap[La]? = some (.cells (il (A.set of' l)).toArray 3 (0, 0)) ∧ ((W.setCell ⟨La, of', none⟩ (.int .i64 (l : Int))).setCell ⟨Be, l, none⟩ (.int .i64 (a : Int))).heap[Be]? = some (.cells (il (B.set l a)).toArray 3 (0, 0)) ∧ Chg (fun k => k = La ∨ k = Be) w ((W.setCell ⟨La, of', none⟩ (.int .i64 (l : Int))).setCell ⟨Be, l, none⟩ (.int .i64 (a : Int)))) := by
    intro W hW
    have hA' := heap_bel hA hW
    have hB' := heap_bel hB hW
    rw [setCell_eq_setRow W La of' _ 3 (0, 0) _ hA']
    have hB2 : (W.setRow La ((il A).toArray.setIfInBounds of' (.int .i64 (l : Int)))).heap[Be]? = some (.cells (il B).toArray 3 (0, 0)) := (setRow_other _ _ _ _ hne.symm).trans hB'
    rw [setCell_eq_setRow _ Be l _ 3 (0, 0) _ hB2]
    refine ⟨?_, ?_, ?_⟩
    · rw [setRow_other _ _ _ _ hne, setRow_heap W La _ _ 3 (0, 0) hA', il_set]; simp
    · rw [setRow_heap _ Be _ _ 3 (0, 0) hB2, il_set]; simp
    · refine ⟨hW.os, hW.tape, hW.output, by have := hW.size; simpa using this, fun k hk hx => ?_⟩
      rw [setRow_other _ _ _ _ (fun e => hx (.inr e)), setRow_other _ _ _ _ (fun e => hx (.inl e))]
      exact hW.block k hk
  clear hA hB lA lB hof hbv
  generalize (a : Int) = ai at *
  generalize (bv : Int) = bi at *
  have mixed : Try.prog.follows Departure.mixedOrders = true := by kernel_rfl
  go_enter Try.func69, Try.ntmps69
  go_wp2_with fail
  go_region
  obtain ⟨q1, q2, q3⟩ := HFIN.out w (Below.refl _ _)
  generalize (w.setCell ⟨La, of', none⟩ (.int .i64 (l : Int))).setCell ⟨Be, l, none⟩ (.int .i64 ai) = W1 at *
  have hs := q3.2.2.2.1
  refine bodyPost_end (results_none rfl _ _ _) rfl ⟨rfl, ?_, ?_, ?_⟩
  · show (W1.alloc _).heap[La]? = _
    rw [Below.heap_alloc _ _ _ (by omega)]; exact q1
  · show (W1.alloc _).heap[Be]? = _
    rw [Below.heap_alloc _ _ _ (by omega)]; exact q2
  · refine ⟨q3.1, q3.2.1, q3.2.2.1, ?_, fun k hk hx => ?_⟩
    · show _ ≤ (W1.alloc _).heap.size
      simp; omega
    · show (W1.alloc _).heap[k]? = _
      rw [Below.heap_alloc _ _ _ (by omega)]; exact q3.2.2.2.2 k hk hx
theorem made_ints (N : Nat) : madeCells (Value.int .i64 0).cells (N * 1) = (il (List.replicate N 0)).toArray := by
  apply Array.ext
  · simp [madeCells, il]
  · intro i h1 h2
    simp [madeCells, il, Value.cells, Nat.mod_one]
theorem mk_ints (N : Nat) (hN : N ≤ 100000000) (W : World) : (Instr.makeSlice 101 (.int .i64 (N : Int)) (.int .i64 (N : Int))).run Try.prog W = .ok (.slice (some ⟨W.heap.size, 0, none⟩) N N) (W.alloc (.cells (il (List.replicate N 0)).toArray 3)) := by
  obtain ⟨i, hi, hz, hs, hb⟩ := inf3
  have := run_make (P := Try.prog) W 101 3 i (.int .i64 0) Try.underlying101 hi hz .i64 .i64 (N : Int) (N : Int) (by omega) (by omega) (by rw [hb]; omega) (by omega)
  rw [this, hs, Int.toNat_natCast, made_ints]
theorem inf4 : ∃ i, Try.prog.info? 4 = some i ∧ i.zero = some (.bool false) ∧ i.size = 1 ∧ i.bytes = 1 := by
  have : (Try.prog.info? 4).map (fun i => (i.zero, i.size, i.bytes)) = some (some (.bool false), 1, 1) := by kernel_rfl
  cases h : Try.prog.info? 4 with
  | none => rw [h] at this; cases this
  | some i =>
    rw [h] at this
    simp only [Option.map_some, Option.some.injEq, Prod.mk.injEq] at this
    exact ⟨i, rfl, this.1, this.2.1, this.2.2⟩
theorem made_bools (N : Nat) : madeCells (Value.bool false).cells (N * 1) = (bl (List.replicate N false)).toArray := by
  apply Array.ext
  · simp [madeCells, bl]
  · intro i h1 h2
    simp [madeCells, bl, Value.cells, Nat.mod_one]
theorem mk_bools (N : Nat) (hN : N ≤ 100000000) (W : World) : (Instr.makeSlice 104 (.int .i64 (N : Int)) (.int .i64 (N : Int))).run Try.prog W = .ok (.slice (some ⟨W.heap.size, 0, none⟩) N N) (W.alloc (.cells (bl (List.replicate N false)).toArray 4)) := by
  obtain ⟨i, hi, hz, hs, hb⟩ := inf4
  have := run_make (P := Try.prog) W 104 4 i (.bool false) Try.underlying104 hi hz .i64 .i64 (N : Int) (N : Int) (by omega) (by omega) (by rw [hb]; omega) (by omega)
  rw [this, hs, Int.toNat_natCast, made_bools]
/-- What heirs' rows are, when they are new. -/
structure Hn (w : World) (Hb La Be N : Nat) (A B : List Nat) (wx : World) : Prop where
  hH : wx.heap[Hb]? = some (.cells #[.slice (some ⟨La, 0, none⟩) N N, .slice (some ⟨Be, 0, none⟩) (2 * N) (2 * N)] 103 (0, 0))
  hA : wx.heap[La]? = some (.cells (il A).toArray 3 (0, 0))
  lA : A.length = N
  hB : wx.heap[Be]? = some (.cells (il B).toArray 3 (0, 0))
  lB : B.length = 2 * N
  ne : La ≠ Be
  nA : w.heap.size ≤ La
  nB : w.heap.size ≤ Be
  bel : Below w.heap.size w wx
/-- The links from one on. -/
def Chain (B : List Nat) : Nat → List Nat → Prop
  | l, [] => l = 0
  | l, x :: C => l = x ∧ x ≠ 0 ∧ ∃ y, B[x]? = some y ∧ Chain B y C
/-- Link l is of what is made of n. -/
def Tg (L : List Tm) (l n : Nat) : Prop := ∃ t, L[l / 2]? = some t ∧ 2 ≤ t.kd ∧ ((l % 2 = 0 ∧ t.of' = n) ∨ (l % 2 = 1 ∧ t.kd = 4 ∧ t.wi = (n : Int)))
theorem Tg.one {L : List Tm} {l m n : Nat} (h : Tg L l m) (k : Tg L l n) : m = n := by
  obtain ⟨t, t1, _, t3⟩ := h
  obtain ⟨s, s1, _, s3⟩ := k
  rw [t1] at s1
  injection s1 with s1
  subst s1
  omega
def Hr (L : List Tm) (S : Nat → Prop) (q : Nat) (A B : List Nat) : Prop := ∀ n, n < L.length → ∃ C a, A[n]? = some a ∧ Chain B a C ∧ C.length ≤ q ∧ ∀ l, l ∈ C ↔ (S l ∧ Tg L l n)
theorem chain_set {B : List Nat} {l' x : Nat} : ∀ {C : List Nat} {a : Nat}, Chain B a C → l' ∉ C → Chain (B.set l' x) a C
  | [], _, h, _ => h
  | y :: C, a, ⟨h1, h2, z, h3, h4⟩, hn => by
    simp only [List.mem_cons, not_or] at hn
    refine ⟨h1, h2, z, ?_, chain_set h4 hn.2⟩
    rw [List.getElem?_set_ne hn.1]
    exact h3
theorem Hr.link {L : List Tm} {S : Nat → Prop} {q : Nat} {A B : List Nat} (h : Hr L S q A B) {l' o a : Nat} (lA : A.length = L.length) (lB : B.length = 2 * L.length) (h0 : l' ≠ 0) (hl : l' < 2 * L.length) (hS : ¬ S l') (hT : Tg L l' o) (ho : A[o]? = some a) :
    Hr L (fun l => S l ∨ l = l') (q + 1) (A.set o l') (B.set l' a) := by
  intro n hn
  obtain ⟨C, b, c1, c2, c3, c4⟩ := h n hn
  have hnC : l' ∉ C := fun hm => hS ((c4 l').1 hm).1
  by_cases e : n = o
  · subst e
    rw [ho] at c1
    injection c1 with c1
    subst c1
    refine ⟨l' :: C, l', ?_, ⟨rfl, h0, a, ?_, chain_set c2 hnC⟩, by simp; omega, fun l => ?_⟩
    · rw [List.getElem?_set_self (by omega)]
    · rw [List.getElem?_set_self (by omega)]
    · rw [List.mem_cons, c4]
      constructor
      · rintro (rfl | ⟨h1, h2⟩)
        · exact ⟨.inr rfl, hT⟩
        · exact ⟨.inl h1, h2⟩
      · rintro ⟨h1 | h1, h2⟩
        · exact .inr ⟨h1, h2⟩
        · exact .inl h1
  · refine ⟨C, b, by rw [List.getElem?_set_ne (fun h => e h.symm)]; exact c1, chain_set c2 hnC, by omega, fun l => ?_⟩
    rw [c4]
    constructor
    · rintro ⟨h1, h2⟩; exact ⟨.inl h1, h2⟩
    · rintro ⟨h1 | h1, h2⟩
      · exact ⟨h1, h2⟩
      · subst h1; exact absurd (h2.one hT) e
theorem Hr.congr {L : List Tm} {S S' : Nat → Prop} {q q' : Nat} {A B : List Nat} (h : Hr L S q A B) (hq : q ≤ q') (hs : ∀ l n, Tg L l n → (S l ↔ S' l)) : Hr L S' q' A B := by
  intro n hn
  obtain ⟨C, b, c1, c2, c3, c4⟩ := h n hn
  refine ⟨C, b, c1, c2, by omega, fun l => ?_⟩
  rw [c4]
  constructor
  · rintro ⟨h1, h2⟩; exact ⟨(hs l n h2).1 h1, h2⟩
  · rintro ⟨h1, h2⟩; exact ⟨(hs l n h2).2 h1, h2⟩
theorem Hr.new (L : List Tm) (q : Nat) : Hr L (fun l => l / 2 < 0) q (List.replicate L.length 0) (List.replicate (2 * L.length) 0) := by
  intro n hn
  exact ⟨[], 0, by simp [hn], rfl, by simp, fun l => by simp⟩
theorem Hn.upd {w wx wy : World} {Hb La Be N : Nat} {A B A' B' : List Nat} (h : Hn w Hb La Be N A B wx) (hA : wy.heap[La]? = some (.cells (il A').toArray 3 (0, 0))) (hB : wy.heap[Be]? = some (.cells (il B').toArray 3 (0, 0))) (lA : A'.length = A.length) (lB : B'.length = B.length) (hc : Chg (fun k => k = La ∨ k = Be) wx wy) : Hn w Hb La Be N A' B' wy := by
  have l1 : Hb < wx.heap.size := (Array.getElem?_eq_some_iff.1 h.hH).1
  have n1 : Hb ≠ La := by rintro rfl; have := cells_ty h.hH h.hA; omega
  have n2 : Hb ≠ Be := by rintro rfl; have := cells_ty h.hH h.hB; omega
  refine ⟨(hc.2.2.2.2 Hb l1 (by rintro (e | e); exact n1 e; exact n2 e)).trans h.hH, hA, lA.trans h.lA, hB, lB.trans h.lB, h.ne, h.nA, h.nB, ?_⟩
  exact Chg.below h.bel h.bel.size hc (by rintro j (rfl | rfl); exact h.nA; exact h.nB)
theorem Hn.bel' {w wx wy : World} {Hb La Be N : Nat} {A B : List Nat} (h : Hn w Hb La Be N A B wx) (hb : Below wx.heap.size wx wy) : Hn w Hb La Be N A B wy :=
  ⟨heap_bel h.hH hb, heap_bel h.hA hb, h.lA, heap_bel h.hB hb, h.lB, h.ne, h.nA, h.nB, h.bel.trans (hb.mono h.bel.size)⟩
theorem a3 (W1 : World) (o1 o2 o3 : Obj) : (((W1.alloc o1).alloc o2).alloc o3).heap[W1.heap.size]? = some o1 ∧ (((W1.alloc o1).alloc o2).alloc o3).heap[W1.heap.size + 1]? = some o2 ∧ (((W1.alloc o1).alloc o2).alloc o3).heap[W1.heap.size + 1 + 1]? = some o3 ∧ Below W1.heap.size W1 (((W1.alloc o1).alloc o2).alloc o3) := by
  refine ⟨?_, ?_, ?_, ((bel1 W1 _).alloc (by simp) _).alloc (by simp; omega) _⟩
  · rw [Below.heap_alloc _ _ _ (by simp; omega), Below.heap_alloc _ _ _ (by simp)]; exact heap_alloc_new W1 _
  · rw [Below.heap_alloc _ _ _ (by simp)]
    have := heap_alloc_new (W1.alloc o1) o2
    rwa [World.size_alloc] at this
  · have := heap_alloc_new ((W1.alloc o1).alloc o2) o3
    rwa [World.size_alloc, World.size_alloc] at this
theorem u111 : Try.prog.underlying 103 = some (.struct (Try.prog.fieldsOf 103)) := by kernel_rfl
theorem i111 : (Try.prog.info? 103).map (·.size) = some 2 := by kernel_rfl
theorem hn3 (W1 : World) (o1 o2 o3 : Obj) (Hb La Be N N2 : Nat) (hN2 : 2 * N = N2) (hH : (((W1.alloc o1).alloc o2).alloc o3).heap[Hb]? = some (.cells #[.slice none 0 0, .slice none 0 0] 103 (0, 0))) (hA : (((W1.alloc o1).alloc o2).alloc o3).heap[La]? = some (.cells (il (List.replicate N 0)).toArray 3 (0, 0))) (hB : (((W1.alloc o1).alloc o2).alloc o3).heap[Be]? = some (.cells (il (List.replicate N2 0)).toArray 3 (0, 0)))
    (n1 : La ≠ Be) (n2 : La ≠ Hb) (n3 : Be ≠ Hb) (g1 : W1.heap.size ≤ La) (g2 : W1.heap.size ≤ Be) (g3 : W1.heap.size ≤ Hb) : Hn W1 Hb La Be N (List.replicate N 0) (List.replicate N2 0) ((((W1.alloc o1).alloc o2).alloc o3).drew.setRow Hb #[.slice (some ⟨La, 0, none⟩) N N, .slice (some ⟨Be, 0, none⟩) N2 N2]) := by
  refine ⟨?_, ?_, by simp, ?_, by simp [hN2], n1, g1, g2, ?_⟩
  · rw [hN2]
    exact setRow_heap _ _ _ _ 103 (0, 0) (show (((W1.alloc o1).alloc o2).alloc o3).drew.heap[Hb]? = _ from hH)
  · rw [setRow_other _ _ _ _ n2]; exact hA
  · rw [setRow_other _ _ _ _ n3]; exact hB
  · have hb' := (a3 W1 o1 o2 o3).2.2.2
    have hb : Below W1.heap.size W1 (((W1.alloc o1).alloc o2).alloc o3).drew := ⟨hb'.os, hb'.tape, hb'.output, hb'.size, hb'.block⟩
    exact bel_set hb g3 _
set_option maxRecDepth 100000 in
set_option maxHeartbeats 4000000 in
theorem heirs_c {n₀ V G c M : Nat} {L : List Tm} {w : World} (h : Va n₀ w V G c M L) (hle : L.length ≤ 1000000) : Calls Try.prog 65 #[.pointer (some ⟨V, 0, none⟩)] w fun e w' => ∃ La Be A B, e = .returned (.agg #[.slice (some ⟨La, 0, none⟩) L.length L.length, .slice (some ⟨Be, 0, none⟩) (2 * L.length) (2 * L.length)]) ∧ w'.heap[La]? = some (.cells (il A).toArray 3 (0, 0)) ∧ A.length = L.length ∧ w'.heap[Be]? = some (.cells (il B).toArray 3 (0, 0)) ∧ B.length = 2 * L.length ∧ La ≠ Be ∧ w.heap.size ≤ La ∧ w.heap.size ≤ Be ∧ Hr L (fun l => l / 2 < L.length) (2 * L.length) A B ∧ Below w.heap.size w w' := by
  have hb0 := bel1 w (.cells #[.slice none 0 0, .slice none 0 0] 103)
  have h1 := h.bel hb0
  have c0 := h1.cV0
  have hm1 := mk_ints L.length (by omega)
  have hm2 := mk_ints (2 * L.length) (by omega)
  generalize hN : L.length = N at *
  obtain ⟨N2, hN2⟩ : ∃ N2 : Nat, 2 * N = N2 := ⟨_, rfl⟩
  have HN2 : Aside _ := hN2
  rw [hN2] at hm2
  have e2 : IntKind.i64.wrap (2 * (N : Int)) = (N2 : Int) := by rw [IntKind.wrap_i64]; omega
  have lV := h1.lV
  have HVA : Aside _ := h1
  have HB0 : Aside _ := hb0
  have HRB : Aside _ := heap_alloc_new w (.cells #[.slice none 0 0, .slice none 0 0] 103)
  clear h1 h hb0 hN2
  have mixed : Try.prog.follows Departure.mixedOrders = true := by kernel_rfl
  go_enter Try.func65, Try.ntmps65
  go_wp2_with fail
  generalize w.alloc (.cells #[.slice none 0 0, .slice none 0 0] 103) = W1 at *
  go_cut [3] from 6 to 19 (fun s3 wx => ∃ Hb La Be, s3 = .pointer (some ⟨Hb, 0, none⟩) ∧ Aside (Hn W1 Hb La Be N (List.replicate N 0) (List.replicate N2 0) wx))
  case first =>
    have HC1 : Aside (∀ o1, (W1.alloc o1).drew.cell? ⟨V, 0, none⟩ = some (.slice (some ⟨G, 0, none⟩) N c)) := fun o1 => show (W1.alloc o1).cell? ⟨V, 0, none⟩ = _ from cell_bel c0 (bel1 _ _)
    have HC2 : Aside (∀ o1 o2, ((W1.alloc o1).alloc o2).drew.cell? ⟨V, 0, none⟩ = some (.slice (some ⟨G, 0, none⟩) N c)) := fun o1 o2 => show ((W1.alloc o1).alloc o2).cell? ⟨V, 0, none⟩ = _ from cell_bel (cell_bel c0 (bel1 _ _)) (bel1 _ _)
    have HC3 : Aside (∀ o1 o2 o3, (((W1.alloc o1).alloc o2).alloc o3).drew.cell? ⟨V, 0, none⟩ = some (.slice (some ⟨G, 0, none⟩) N c)) := fun o1 o2 o3 => show (((W1.alloc o1).alloc o2).alloc o3).cell? ⟨V, 0, none⟩ = _ from cell_bel (cell_bel (cell_bel c0 (bel1 _ _)) (bel1 _ _)) (bel1 _ _)
    have HCS : Aside (∀ o1 o2 o3 (hb : Nat), W1.heap.size ≤ hb → ∀ cs, ((((W1.alloc o1).alloc o2).alloc o3).drew.setRow hb cs).cell? ⟨V, 0, none⟩ = some (.slice (some ⟨G, 0, none⟩) N c)) := fun o1 o2 o3 hb hge cs => by
      have e : ((((W1.alloc o1).alloc o2).alloc o3).drew.setRow hb cs).heap[V]? = (((W1.alloc o1).alloc o2).alloc o3).drew.heap[V]? := setRow_other _ _ _ _ (by omega)
      exact (World.cell?_of_block (a := ⟨V, 0, none⟩) e).trans (HC3.out o1 o2 o3)
    refine wp_region_held_drew (S := fun w' => w'.cell? ⟨V, 0, none⟩ = some (.slice (some ⟨G, 0, none⟩) N c)) (by kernel_rfl) c0 (fun hHeld => ?_)
    refine wpAnyH_take (i := 0) (v := .pointer (some ⟨V, 0, none⟩)) rfl (by kernel_rfl) (by kernel_rfl) (by kernel_rfl) (fun _ _ _ h => h) (Or.inl ⟨by rfl, by intro w hs; go_simp⟩) hHeld ?_
    refine norm_any' (fun K hK => ?_)
    go_simp
    refine hK _ _ ?_
    clear hK K
    refine wpAnyH_take (i := 1) (v := .pointer (some ⟨V, 0, none⟩)) rfl (by kernel_rfl) (by kernel_rfl) (by kernel_rfl) (fun _ _ _ h => h) (Or.inl ⟨by rfl, by intro w hs; go_simp⟩) hHeld ?_
    refine norm_any' (fun K hK => ?_)
    go_simp
    refine hK _ _ ?_
    clear hK K
    refine wpAnyH_take (i := 2) (v := .pointer (some ⟨V, 0, none⟩)) rfl (by kernel_rfl) (by kernel_rfl) (by kernel_rfl) (fun _ _ _ h => h) (Or.inl ⟨by rfl, by intro w hs; go_simp⟩) hHeld ?_
    refine norm_any' (fun K hK => ?_)
    go_simp
    refine hK _ _ ?_
    clear hK K
    refine wpAnyH_take (i := 3) (v := .slice (some ⟨G, 0, none⟩) N c) rfl (by kernel_rfl) (by kernel_rfl) (by kernel_rfl) (fun _ _ _ h => h) (Or.inl ⟨by rfl, by intro w hs; go_simp⟩) hHeld ?_
    refine norm_any' (fun K hK => ?_)
    go_simp
    refine hK _ _ ?_
    clear hK K
    refine wpAnyH_take (i := 4) (v := .int .i64 (N : Int)) rfl (by kernel_rfl) (by kernel_rfl) (by kernel_rfl) (fun _ _ _ h => h) (Or.inl ⟨by rfl, by intro w hs; go_simp⟩) hHeld ?_
    refine norm_any' (fun K hK => ?_)
    go_simp
    refine hK _ _ ?_
    clear hK K
    refine wpAnyH_take (i := 6) (v := .pointer (some ⟨V, 0, none⟩)) rfl (by kernel_rfl) (by kernel_rfl) (by kernel_rfl) (fun _ _ _ h => h) (Or.inl ⟨by rfl, by intro w hs; go_simp⟩) hHeld ?_
    refine norm_any' (fun K hK => ?_)
    go_simp
    refine hK _ _ ?_
    clear hK K
    refine wpAnyH_take (i := 7) (v := .pointer (some ⟨V, 0, none⟩)) rfl (by kernel_rfl) (by kernel_rfl) (by kernel_rfl) (fun _ _ _ h => h) (Or.inl ⟨by rfl, by intro w hs; go_simp⟩) hHeld ?_
    refine norm_any' (fun K hK => ?_)
    go_simp
    refine hK _ _ ?_
    clear hK K
    refine wpAnyH_take (i := 8) (v := .pointer (some ⟨V, 0, none⟩)) rfl (by kernel_rfl) (by kernel_rfl) (by kernel_rfl) (fun _ _ _ h => h) (Or.inl ⟨by rfl, by intro w hs; go_simp⟩) hHeld ?_
    refine norm_any' (fun K hK => ?_)
    go_simp
    refine hK _ _ ?_
    clear hK K
    refine wpAnyH_take (i := 9) (v := .slice (some ⟨G, 0, none⟩) N c) rfl (by kernel_rfl) (by kernel_rfl) (by kernel_rfl) (fun _ _ _ h => h) (Or.inl ⟨by rfl, by intro w hs; go_simp⟩) hHeld ?_
    refine norm_any' (fun K hK => ?_)
    go_simp
    refine hK _ _ ?_
    clear hK K
    refine wpAnyH_take (i := 10) (v := .int .i64 (N : Int)) rfl (by kernel_rfl) (by kernel_rfl) (by kernel_rfl) (fun _ _ _ h => h) (Or.inl ⟨by rfl, by intro w hs; go_simp⟩) hHeld ?_
    refine norm_any' (fun K hK => ?_)
    go_simp
    refine hK _ _ ?_
    clear hK K
    refine wpAnyH_take (i := 11) (v := .int .i64 (N2 : Int)) rfl (by kernel_rfl) (by kernel_rfl) (by kernel_rfl) (fun _ _ _ h => h) (Or.inl ⟨by rfl, by intro w hs; go_simp⟩) hHeld ?_
    refine norm_any' (fun K hK => ?_)
    go_simp
    refine hK _ _ ?_
    clear hK K
    refine wpAnyH_ready (rs := [5, 12, 14]) (by kernel_rfl) (by simp) (AllReadyH.cons rfl (fun K hK => ?_) (AllReadyH.cons rfl (fun K hK => ?_) (AllReadyH.cons rfl (fun K hK => ?_) AllReadyH.nil)))
    · go_simp
      refine hK.out _ _ (HC1.out _) (fun hHeld => ?_)
      clear hK K
      refine norm_any' (fun K hK => ?_)
      go_simp
      refine hK _ _ ?_
      clear hK K
      refine wpAnyH_ready (rs := [12, 14]) (by kernel_rfl) (by simp) (AllReadyH.cons rfl (fun K hK => ?_) (AllReadyH.cons rfl (fun K hK => ?_) AllReadyH.nil))
      · go_simp
        refine hK.out _ _ (HC2.out _ _) (fun hHeld => ?_)
        clear hK K
        refine norm_any' (fun K hK => ?_)
        go_simp
        refine hK _ _ ?_
        clear hK K
        refine wpAnyH_take (i := 13) (v := .agg #[.slice (some ⟨W1.heap.size, 0, none⟩) N N, .slice (some ⟨(W1.heap.size + 1), 0, none⟩) N2 N2]) rfl (by kernel_rfl) (by kernel_rfl) (by kernel_rfl) (fun _ _ _ h => h) (Or.inl ⟨by rfl, by intro w hs; go_simp⟩) hHeld ?_
        refine norm_any' (fun K hK => ?_)
        go_simp
        refine hK _ _ ?_
        clear hK K
        refine wpAnyH_ready (rs := [14]) (by kernel_rfl) (by simp) (AllReadyH.cons rfl (fun K hK => ?_) AllReadyH.nil)
        · go_simp
          refine hK.out _ _ (HC3.out _ _ _) (fun hHeld => ?_)
          clear hK K
          refine norm_any' (fun K hK => ?_)
          go_simp
          refine hK _ _ ?_
          clear hK K
          refine wpAnyH_ready (rs := [15]) (by kernel_rfl) (by simp) (AllReadyH.cons rfl (fun K hK => ?_) AllReadyH.nil)
          rw [if_pos (by rfl)]
          refine wp_store_row 103 (.tmp 3) (.tmp 19) rfl (W1.heap.size + 1 + 1) #[.slice (some ⟨W1.heap.size, 0, none⟩) N N, .slice (some ⟨(W1.heap.size + 1), 0, none⟩) N2 N2] rfl rfl 103 #[.slice none 0 0, .slice none 0 0] (show (((W1.alloc (.cells (il (List.replicate N 0)).toArray 3)).alloc (.cells (il (List.replicate N2 0)).toArray 3)).alloc (.cells #[.slice none 0 0, .slice none 0 0] 103)).heap[(W1.heap.size + 1 + 1)]? = _ from (a3 W1 (.cells (il (List.replicate N 0)).toArray 3) (.cells (il (List.replicate N2 0)).toArray 3) (.cells #[.slice none 0 0, .slice none 0 0] 103)).2.2.1) i111 rfl (by simp [Value.oneCell']) ?_
          refine hK.out _ _ (HCS.out _ _ _ (W1.heap.size + 1 + 1) (by omega) _) (fun hHeld => ?_)
          clear hK K
          refine wpAnyH_done (by kernel_rfl) ?_ _
          go_wp2_with fail
          go_meet
          exact ⟨(W1.heap.size + 1 + 1), W1.heap.size, (W1.heap.size + 1), rfl, hn3 W1 _ _ _ (W1.heap.size + 1 + 1) W1.heap.size (W1.heap.size + 1) N N2 HN2.out (a3 W1 (.cells (il (List.replicate N 0)).toArray 3) (.cells (il (List.replicate N2 0)).toArray 3) (.cells #[.slice none 0 0, .slice none 0 0] 103)).2.2.1 (a3 W1 (.cells (il (List.replicate N 0)).toArray 3) (.cells (il (List.replicate N2 0)).toArray 3) (.cells #[.slice none 0 0, .slice none 0 0] 103)).1 (a3 W1 (.cells (il (List.replicate N 0)).toArray 3) (.cells (il (List.replicate N2 0)).toArray 3) (.cells #[.slice none 0 0, .slice none 0 0] 103)).2.1 (by omega) (by omega) (by omega) (by omega) (by omega) (by omega)⟩
      · go_simp
        refine hK.out _ _ (HC2.out _ _) (fun hHeld => ?_)
        clear hK K
        refine norm_any' (fun K hK => ?_)
        go_simp
        refine hK _ _ ?_
        clear hK K
        refine wpAnyH_ready (rs := [12]) (by kernel_rfl) (by simp) (AllReadyH.cons rfl (fun K hK => ?_) AllReadyH.nil)
        · go_simp
          refine hK.out _ _ (HC3.out _ _ _) (fun hHeld => ?_)
          clear hK K
          refine norm_any' (fun K hK => ?_)
          go_simp
          refine hK _ _ ?_
          clear hK K
          refine wpAnyH_take (i := 13) (v := .agg #[.slice (some ⟨W1.heap.size, 0, none⟩) N N, .slice (some ⟨(W1.heap.size + 1 + 1), 0, none⟩) N2 N2]) rfl (by kernel_rfl) (by kernel_rfl) (by kernel_rfl) (fun _ _ _ h => h) (Or.inl ⟨by rfl, by intro w hs; go_simp⟩) hHeld ?_
          refine norm_any' (fun K hK => ?_)
          go_simp
          refine hK _ _ ?_
          clear hK K
          refine wpAnyH_ready (rs := [15]) (by kernel_rfl) (by simp) (AllReadyH.cons rfl (fun K hK => ?_) AllReadyH.nil)
          rw [if_pos (by rfl)]
          refine wp_store_row 103 (.tmp 3) (.tmp 19) rfl (W1.heap.size + 1) #[.slice (some ⟨W1.heap.size, 0, none⟩) N N, .slice (some ⟨(W1.heap.size + 1 + 1), 0, none⟩) N2 N2] rfl rfl 103 #[.slice none 0 0, .slice none 0 0] (show (((W1.alloc (.cells (il (List.replicate N 0)).toArray 3)).alloc (.cells #[.slice none 0 0, .slice none 0 0] 103)).alloc (.cells (il (List.replicate N2 0)).toArray 3)).heap[(W1.heap.size + 1)]? = _ from (a3 W1 (.cells (il (List.replicate N 0)).toArray 3) (.cells #[.slice none 0 0, .slice none 0 0] 103) (.cells (il (List.replicate N2 0)).toArray 3)).2.1) i111 rfl (by simp [Value.oneCell']) ?_
          refine hK.out _ _ (HCS.out _ _ _ (W1.heap.size + 1) (by omega) _) (fun hHeld => ?_)
          clear hK K
          refine wpAnyH_done (by kernel_rfl) ?_ _
          go_wp2_with fail
          go_meet
          exact ⟨(W1.heap.size + 1), W1.heap.size, (W1.heap.size + 1 + 1), rfl, hn3 W1 _ _ _ (W1.heap.size + 1) W1.heap.size (W1.heap.size + 1 + 1) N N2 HN2.out (a3 W1 (.cells (il (List.replicate N 0)).toArray 3) (.cells #[.slice none 0 0, .slice none 0 0] 103) (.cells (il (List.replicate N2 0)).toArray 3)).2.1 (a3 W1 (.cells (il (List.replicate N 0)).toArray 3) (.cells #[.slice none 0 0, .slice none 0 0] 103) (.cells (il (List.replicate N2 0)).toArray 3)).1 (a3 W1 (.cells (il (List.replicate N 0)).toArray 3) (.cells #[.slice none 0 0, .slice none 0 0] 103) (.cells (il (List.replicate N2 0)).toArray 3)).2.2.1 (by omega) (by omega) (by omega) (by omega) (by omega) (by omega)⟩
    · go_simp
      refine hK.out _ _ (HC1.out _) (fun hHeld => ?_)
      clear hK K
      refine norm_any' (fun K hK => ?_)
      go_simp
      refine hK _ _ ?_
      clear hK K
      refine wpAnyH_ready (rs := [5, 14]) (by kernel_rfl) (by simp) (AllReadyH.cons rfl (fun K hK => ?_) (AllReadyH.cons rfl (fun K hK => ?_) AllReadyH.nil))
      · go_simp
        refine hK.out _ _ (HC2.out _ _) (fun hHeld => ?_)
        clear hK K
        refine norm_any' (fun K hK => ?_)
        go_simp
        refine hK _ _ ?_
        clear hK K
        refine wpAnyH_take (i := 13) (v := .agg #[.slice (some ⟨(W1.heap.size + 1), 0, none⟩) N N, .slice (some ⟨W1.heap.size, 0, none⟩) N2 N2]) rfl (by kernel_rfl) (by kernel_rfl) (by kernel_rfl) (fun _ _ _ h => h) (Or.inl ⟨by rfl, by intro w hs; go_simp⟩) hHeld ?_
        refine norm_any' (fun K hK => ?_)
        go_simp
        refine hK _ _ ?_
        clear hK K
        refine wpAnyH_ready (rs := [14]) (by kernel_rfl) (by simp) (AllReadyH.cons rfl (fun K hK => ?_) AllReadyH.nil)
        · go_simp
          refine hK.out _ _ (HC3.out _ _ _) (fun hHeld => ?_)
          clear hK K
          refine norm_any' (fun K hK => ?_)
          go_simp
          refine hK _ _ ?_
          clear hK K
          refine wpAnyH_ready (rs := [15]) (by kernel_rfl) (by simp) (AllReadyH.cons rfl (fun K hK => ?_) AllReadyH.nil)
          rw [if_pos (by rfl)]
          refine wp_store_row 103 (.tmp 3) (.tmp 19) rfl (W1.heap.size + 1 + 1) #[.slice (some ⟨(W1.heap.size + 1), 0, none⟩) N N, .slice (some ⟨W1.heap.size, 0, none⟩) N2 N2] rfl rfl 103 #[.slice none 0 0, .slice none 0 0] (show (((W1.alloc (.cells (il (List.replicate N2 0)).toArray 3)).alloc (.cells (il (List.replicate N 0)).toArray 3)).alloc (.cells #[.slice none 0 0, .slice none 0 0] 103)).heap[(W1.heap.size + 1 + 1)]? = _ from (a3 W1 (.cells (il (List.replicate N2 0)).toArray 3) (.cells (il (List.replicate N 0)).toArray 3) (.cells #[.slice none 0 0, .slice none 0 0] 103)).2.2.1) i111 rfl (by simp [Value.oneCell']) ?_
          refine hK.out _ _ (HCS.out _ _ _ (W1.heap.size + 1 + 1) (by omega) _) (fun hHeld => ?_)
          clear hK K
          refine wpAnyH_done (by kernel_rfl) ?_ _
          go_wp2_with fail
          go_meet
          exact ⟨(W1.heap.size + 1 + 1), (W1.heap.size + 1), W1.heap.size, rfl, hn3 W1 _ _ _ (W1.heap.size + 1 + 1) (W1.heap.size + 1) W1.heap.size N N2 HN2.out (a3 W1 (.cells (il (List.replicate N2 0)).toArray 3) (.cells (il (List.replicate N 0)).toArray 3) (.cells #[.slice none 0 0, .slice none 0 0] 103)).2.2.1 (a3 W1 (.cells (il (List.replicate N2 0)).toArray 3) (.cells (il (List.replicate N 0)).toArray 3) (.cells #[.slice none 0 0, .slice none 0 0] 103)).2.1 (a3 W1 (.cells (il (List.replicate N2 0)).toArray 3) (.cells (il (List.replicate N 0)).toArray 3) (.cells #[.slice none 0 0, .slice none 0 0] 103)).1 (by omega) (by omega) (by omega) (by omega) (by omega) (by omega)⟩
      · go_simp
        refine hK.out _ _ (HC2.out _ _) (fun hHeld => ?_)
        clear hK K
        refine norm_any' (fun K hK => ?_)
        go_simp
        refine hK _ _ ?_
        clear hK K
        refine wpAnyH_ready (rs := [5]) (by kernel_rfl) (by simp) (AllReadyH.cons rfl (fun K hK => ?_) AllReadyH.nil)
        · go_simp
          refine hK.out _ _ (HC3.out _ _ _) (fun hHeld => ?_)
          clear hK K
          refine norm_any' (fun K hK => ?_)
          go_simp
          refine hK _ _ ?_
          clear hK K
          refine wpAnyH_take (i := 13) (v := .agg #[.slice (some ⟨(W1.heap.size + 1 + 1), 0, none⟩) N N, .slice (some ⟨W1.heap.size, 0, none⟩) N2 N2]) rfl (by kernel_rfl) (by kernel_rfl) (by kernel_rfl) (fun _ _ _ h => h) (Or.inl ⟨by rfl, by intro w hs; go_simp⟩) hHeld ?_
          refine norm_any' (fun K hK => ?_)
          go_simp
          refine hK _ _ ?_
          clear hK K
          refine wpAnyH_ready (rs := [15]) (by kernel_rfl) (by simp) (AllReadyH.cons rfl (fun K hK => ?_) AllReadyH.nil)
          rw [if_pos (by rfl)]
          refine wp_store_row 103 (.tmp 3) (.tmp 19) rfl (W1.heap.size + 1) #[.slice (some ⟨(W1.heap.size + 1 + 1), 0, none⟩) N N, .slice (some ⟨W1.heap.size, 0, none⟩) N2 N2] rfl rfl 103 #[.slice none 0 0, .slice none 0 0] (show (((W1.alloc (.cells (il (List.replicate N2 0)).toArray 3)).alloc (.cells #[.slice none 0 0, .slice none 0 0] 103)).alloc (.cells (il (List.replicate N 0)).toArray 3)).heap[(W1.heap.size + 1)]? = _ from (a3 W1 (.cells (il (List.replicate N2 0)).toArray 3) (.cells #[.slice none 0 0, .slice none 0 0] 103) (.cells (il (List.replicate N 0)).toArray 3)).2.1) i111 rfl (by simp [Value.oneCell']) ?_
          refine hK.out _ _ (HCS.out _ _ _ (W1.heap.size + 1) (by omega) _) (fun hHeld => ?_)
          clear hK K
          refine wpAnyH_done (by kernel_rfl) ?_ _
          go_wp2_with fail
          go_meet
          exact ⟨(W1.heap.size + 1), (W1.heap.size + 1 + 1), W1.heap.size, rfl, hn3 W1 _ _ _ (W1.heap.size + 1) (W1.heap.size + 1 + 1) W1.heap.size N N2 HN2.out (a3 W1 (.cells (il (List.replicate N2 0)).toArray 3) (.cells #[.slice none 0 0, .slice none 0 0] 103) (.cells (il (List.replicate N 0)).toArray 3)).2.1 (a3 W1 (.cells (il (List.replicate N2 0)).toArray 3) (.cells #[.slice none 0 0, .slice none 0 0] 103) (.cells (il (List.replicate N 0)).toArray 3)).2.2.1 (a3 W1 (.cells (il (List.replicate N2 0)).toArray 3) (.cells #[.slice none 0 0, .slice none 0 0] 103) (.cells (il (List.replicate N 0)).toArray 3)).1 (by omega) (by omega) (by omega) (by omega) (by omega) (by omega)⟩
    · go_simp
      refine hK.out _ _ (HC1.out _) (fun hHeld => ?_)
      clear hK K
      refine norm_any' (fun K hK => ?_)
      go_simp
      refine hK _ _ ?_
      clear hK K
      refine wpAnyH_ready (rs := [5, 12]) (by kernel_rfl) (by simp) (AllReadyH.cons rfl (fun K hK => ?_) (AllReadyH.cons rfl (fun K hK => ?_) AllReadyH.nil))
      · go_simp
        refine hK.out _ _ (HC2.out _ _) (fun hHeld => ?_)
        clear hK K
        refine norm_any' (fun K hK => ?_)
        go_simp
        refine hK _ _ ?_
        clear hK K
        refine wpAnyH_ready (rs := [12]) (by kernel_rfl) (by simp) (AllReadyH.cons rfl (fun K hK => ?_) AllReadyH.nil)
        · go_simp
          refine hK.out _ _ (HC3.out _ _ _) (fun hHeld => ?_)
          clear hK K
          refine norm_any' (fun K hK => ?_)
          go_simp
          refine hK _ _ ?_
          clear hK K
          refine wpAnyH_take (i := 13) (v := .agg #[.slice (some ⟨(W1.heap.size + 1), 0, none⟩) N N, .slice (some ⟨(W1.heap.size + 1 + 1), 0, none⟩) N2 N2]) rfl (by kernel_rfl) (by kernel_rfl) (by kernel_rfl) (fun _ _ _ h => h) (Or.inl ⟨by rfl, by intro w hs; go_simp⟩) hHeld ?_
          refine norm_any' (fun K hK => ?_)
          go_simp
          refine hK _ _ ?_
          clear hK K
          refine wpAnyH_ready (rs := [15]) (by kernel_rfl) (by simp) (AllReadyH.cons rfl (fun K hK => ?_) AllReadyH.nil)
          rw [if_pos (by rfl)]
          refine wp_store_row 103 (.tmp 3) (.tmp 19) rfl W1.heap.size #[.slice (some ⟨(W1.heap.size + 1), 0, none⟩) N N, .slice (some ⟨(W1.heap.size + 1 + 1), 0, none⟩) N2 N2] rfl rfl 103 #[.slice none 0 0, .slice none 0 0] (show (((W1.alloc (.cells #[.slice none 0 0, .slice none 0 0] 103)).alloc (.cells (il (List.replicate N 0)).toArray 3)).alloc (.cells (il (List.replicate N2 0)).toArray 3)).heap[W1.heap.size]? = _ from (a3 W1 (.cells #[.slice none 0 0, .slice none 0 0] 103) (.cells (il (List.replicate N 0)).toArray 3) (.cells (il (List.replicate N2 0)).toArray 3)).1) i111 rfl (by simp [Value.oneCell']) ?_
          refine hK.out _ _ (HCS.out _ _ _ W1.heap.size (by omega) _) (fun hHeld => ?_)
          clear hK K
          refine wpAnyH_done (by kernel_rfl) ?_ _
          go_wp2_with fail
          go_meet
          exact ⟨W1.heap.size, (W1.heap.size + 1), (W1.heap.size + 1 + 1), rfl, hn3 W1 _ _ _ W1.heap.size (W1.heap.size + 1) (W1.heap.size + 1 + 1) N N2 HN2.out (a3 W1 (.cells #[.slice none 0 0, .slice none 0 0] 103) (.cells (il (List.replicate N 0)).toArray 3) (.cells (il (List.replicate N2 0)).toArray 3)).1 (a3 W1 (.cells #[.slice none 0 0, .slice none 0 0] 103) (.cells (il (List.replicate N 0)).toArray 3) (.cells (il (List.replicate N2 0)).toArray 3)).2.1 (a3 W1 (.cells #[.slice none 0 0, .slice none 0 0] 103) (.cells (il (List.replicate N 0)).toArray 3) (.cells (il (List.replicate N2 0)).toArray 3)).2.2.1 (by omega) (by omega) (by omega) (by omega) (by omega) (by omega)⟩
      · go_simp
        refine hK.out _ _ (HC2.out _ _) (fun hHeld => ?_)
        clear hK K
        refine norm_any' (fun K hK => ?_)
        go_simp
        refine hK _ _ ?_
        clear hK K
        refine wpAnyH_ready (rs := [5]) (by kernel_rfl) (by simp) (AllReadyH.cons rfl (fun K hK => ?_) AllReadyH.nil)
        · go_simp
          refine hK.out _ _ (HC3.out _ _ _) (fun hHeld => ?_)
          clear hK K
          refine norm_any' (fun K hK => ?_)
          go_simp
          refine hK _ _ ?_
          clear hK K
          refine wpAnyH_take (i := 13) (v := .agg #[.slice (some ⟨(W1.heap.size + 1 + 1), 0, none⟩) N N, .slice (some ⟨(W1.heap.size + 1), 0, none⟩) N2 N2]) rfl (by kernel_rfl) (by kernel_rfl) (by kernel_rfl) (fun _ _ _ h => h) (Or.inl ⟨by rfl, by intro w hs; go_simp⟩) hHeld ?_
          refine norm_any' (fun K hK => ?_)
          go_simp
          refine hK _ _ ?_
          clear hK K
          refine wpAnyH_ready (rs := [15]) (by kernel_rfl) (by simp) (AllReadyH.cons rfl (fun K hK => ?_) AllReadyH.nil)
          rw [if_pos (by rfl)]
          refine wp_store_row 103 (.tmp 3) (.tmp 19) rfl W1.heap.size #[.slice (some ⟨(W1.heap.size + 1 + 1), 0, none⟩) N N, .slice (some ⟨(W1.heap.size + 1), 0, none⟩) N2 N2] rfl rfl 103 #[.slice none 0 0, .slice none 0 0] (show (((W1.alloc (.cells #[.slice none 0 0, .slice none 0 0] 103)).alloc (.cells (il (List.replicate N2 0)).toArray 3)).alloc (.cells (il (List.replicate N 0)).toArray 3)).heap[W1.heap.size]? = _ from (a3 W1 (.cells #[.slice none 0 0, .slice none 0 0] 103) (.cells (il (List.replicate N2 0)).toArray 3) (.cells (il (List.replicate N 0)).toArray 3)).1) i111 rfl (by simp [Value.oneCell']) ?_
          refine hK.out _ _ (HCS.out _ _ _ W1.heap.size (by omega) _) (fun hHeld => ?_)
          clear hK K
          refine wpAnyH_done (by kernel_rfl) ?_ _
          go_wp2_with fail
          go_meet
          exact ⟨W1.heap.size, (W1.heap.size + 1 + 1), (W1.heap.size + 1), rfl, hn3 W1 _ _ _ W1.heap.size (W1.heap.size + 1 + 1) (W1.heap.size + 1) N N2 HN2.out (a3 W1 (.cells #[.slice none 0 0, .slice none 0 0] 103) (.cells (il (List.replicate N2 0)).toArray 3) (.cells (il (List.replicate N 0)).toArray 3)).1 (a3 W1 (.cells #[.slice none 0 0, .slice none 0 0] 103) (.cells (il (List.replicate N2 0)).toArray 3) (.cells (il (List.replicate N 0)).toArray 3)).2.2.1 (a3 W1 (.cells #[.slice none 0 0, .slice none 0 0] 103) (.cells (il (List.replicate N2 0)).toArray 3) (.cells (il (List.replicate N 0)).toArray 3)).2.1 (by omega) (by omega) (by omega) (by omega) (by omega) (by omega)⟩
  case rest =>
  obtain ⟨Hb, La, Be, rfl, HN⟩ := hcut
  have hL0 := Hr.new L 0
  rw [hN, HN2.out] at hL0
  have HL0 : Aside _ := hL0
  have hv0 := HVA.out.bel HN.out.bel
  have c1 := hv0.cV0
  rw [hN] at c1
  clear hL0 hm1 hm2 e2 c0 mixed
  go_wp2
  go_loopg [25] (N + 1) (fun kx s25 wr => ∃ m : Nat, ∃ A B : List Nat, s25 = .int .i64 (m : Int) ∧ m ≤ N ∧ N - m ≤ kx ∧ Aside (Hn W1 Hb La Be N A B wr) ∧ Aside (Hr L (fun l => l / 2 < m) (2 * m) A B))
  case atStart => exact ⟨0, _, _, rfl, by omega, by omega, HN.out, HL0.out⟩
  case round =>
    obtain ⟨m, A, B, rfl, hm, hg, HNm, HR⟩ := hrel
    clear HL0 HN hv0 c1
    have hv := HVA.out.bel HNm.out.bel
    by_cases hlt : m < N
    · obtain ⟨t, ht⟩ : ∃ t, L[m]? = some t := ⟨L[m]'(by omega), by simp [hN, hlt]⟩
      have t0 : wr.cell? ⟨G, m * 5, none⟩ = some (.int .i64 (t.kd : Int)) := hv.cT (j := 0) ht (by decide)
      have t1 : wr.cell? ⟨G, m * 5 + 1, none⟩ = some (.int .i64 (t.of' : Int)) := hv.cT (j := 1) ht (by decide)
      have t2 : wr.cell? ⟨G, m * 5 + 2, none⟩ = some (.int .i64 t.wi) := hv.cT (j := 2) ht (by decide)
      have t3 : wr.cell? ⟨G, m * 5 + 3, none⟩ = some (.string t.un) := hv.cT (j := 3) ht (by decide)
      have t4 : wr.cell? ⟨G, m * 5 + 4, none⟩ = some (.string t.by') := hv.cT (j := 4) ht (by decide)
      have i1 : (m : Int) < (N : Int) := by omega
      have i0 : (0 : Int) ≤ (m : Int) := by omega
      have iw : IntKind.i64.wrap ((m : Int) + 1) = (m : Int) + 1 := by rw [IntKind.wrap_i64]; omega
      have w2 : IntKind.i64.wrap (2 * (m : Int)) = ((2 * m : Nat) : Int) := by rw [IntKind.wrap_i64]; omega
      have w3 : IntKind.i64.wrap (((2 * m : Nat) : Int) + 1) = ((2 * m + 1 : Nat) : Int) := by rw [IntKind.wrap_i64]; omega
      have hnot : ∀ l n, l / 2 = m → Tg L l n → 2 ≤ t.kd ∧ (l % 2 = 1 → t.kd = 4) := by
        rintro l n e ⟨s, s1, s2, s3⟩
        rw [e, ht] at s1
        injection s1 with s1
        subst s1
        exact ⟨s2, fun h => by omega⟩
      have hgood := hv.good m t ht
      have hroot : m = 0 → t.kd = 0 := by
        rintro rfl
        obtain ⟨r, hr⟩ := hv.root
        rw [hr] at ht
        simp at ht
        subst ht
        rfl
      by_cases hk : t.kd < 2
      · have HRR : Aside (Hr L (fun l => l / 2 < m + 1) (2 * (m + 1)) A B) := HR.out.congr (by omega) (fun l n hT => by
          constructor
          · intro h; omega
          · intro h
            by_cases e : l / 2 = m
            · have := (hnot l n e hT).1; omega
            · omega)
        have HBA : Aside (∀ o, Hn W1 Hb La Be N A B (wr.alloc o)) := fun o => HNm.out.bel' (bel1 _ _)
        clear hgood hroot hnot HR HNm hv ht
        rcases (show t.kd = 0 ∨ t.kd = 1 by omega) with e | e <;> (
          rw [e] at t0
          go_wp2
          go_roundg (N - (m + 1))
          case measure => omega
          case rel => exact ⟨m + 1, A, B, by simp, by omega, Nat.le_refl _, HBA.out _, HRR.out⟩)
      · have hm0 : 0 < m := by
          rcases Nat.eq_zero_or_pos m with e | e
          · have := hroot e; omega
          · exact e
        obtain ⟨_, g2, g3, g4⟩ := hgood hm0
        have hof := g3 (by omega)
        by_cases h4 : t.kd = 4
        · obtain ⟨b, hb⟩ : ∃ b : Nat, t.wi = (b : Int) := ⟨t.wi.toNat, by have := (g4 h4).1; omega⟩
          have hbm : b < m := by have := (g4 h4).2; omega
          have hTb : Tg L (2 * m + 1) b := ⟨t, by rw [show (2 * m + 1) / 2 = m by omega]; exact ht, by omega, .inr ⟨by omega, h4, hb⟩⟩
          have hTg : Tg L (2 * m) t.of' := ⟨t, by rw [show 2 * m / 2 = m by omega]; exact ht, by omega, .inl ⟨by omega, rfl⟩⟩
          have hlA : A.length = N := HNm.out.lA
          have hlB : B.length = 2 * N := HNm.out.lB
          obtain ⟨a1, ha1⟩ : ∃ a, A[b]? = some a := ⟨A[b]'(by omega), by rw [List.getElem?_eq_getElem (by omega)]⟩
          obtain ⟨A1, hA1⟩ : ∃ A1, A.set b (2 * m + 1) = A1 := ⟨_, rfl⟩
          obtain ⟨B1, hB1⟩ : ∃ B1, B.set (2 * m + 1) a1 = B1 := ⟨_, rfl⟩
          have lA1 : A1.length = N := by rw [← hA1]; simp [hlA]
          have lB1 : B1.length = 2 * N := by rw [← hB1]; simp [hlB]
          obtain ⟨a2, ha2⟩ : ∃ a, A1[t.of']? = some a := ⟨A1[t.of']'(by omega), by rw [List.getElem?_eq_getElem (by omega)]⟩
          have HR1 := HR.out.link (l' := 2 * m + 1) (by omega) (by omega) (by omega) (by omega) (by omega) hTb ha1
          rw [hA1, hB1] at HR1
          have HRR : Aside (Hr L (fun l => l / 2 < m + 1) (2 * (m + 1)) (A1.set t.of' (2 * m)) (B1.set (2 * m) a2)) := (HR1.link (l' := 2 * m) (by omega) (by omega) (by omega) (by omega) (by omega) hTg ha2).congr (by omega) (fun l n hT => by
            constructor
            · rintro ((h | h) | h) <;> omega
            · intro h
              by_cases e : l / 2 = m
              · by_cases e2 : l % 2 = 1
                · left; right; omega
                · right; omega
              · left; left; omega)
          have HLK : Aside (∀ W : World, Below wr.heap.size wr W → Calls Try.prog 69 #[.agg #[.slice (some ⟨La, 0, none⟩) N N, .slice (some ⟨Be, 0, none⟩) (2 * N) (2 * N)], .int .i64 (b : Int), .int .i64 ((2 * m + 1 : Nat) : Int)] W fun e w' => e = .returned (.tuple #[]) ∧ Hn W1 Hb La Be N A1 B1 w' ∧ Chg (fun k => k = La ∨ k = Be) W w') := fun W hW => by
            have hn := HNm.out.bel' hW
            refine (link_c La Be N b (2 * m + 1) a1 A B W hn.hA hn.lA hn.hB hn.lB hn.ne ha1 (by omega) (by omega)).mono ?_
            rintro e w' ⟨rfl, q1, q2, q3⟩
            rw [hA1] at q1
            rw [hB1] at q2
            exact ⟨rfl, hn.upd q1 q2 (by rw [lA1, hlA]) (by rw [lB1, hlB]) q3, q3⟩
          have HLK2 : Aside (∀ W : World, Hn W1 Hb La Be N A1 B1 W → Calls Try.prog 69 #[.agg #[.slice (some ⟨La, 0, none⟩) N N, .slice (some ⟨Be, 0, none⟩) (2 * N) (2 * N)], .int .i64 (t.of' : Int), .int .i64 ((2 * m : Nat) : Int)] W fun e w' => e = .returned (.tuple #[]) ∧ Hn W1 Hb La Be N (A1.set t.of' (2 * m)) (B1.set (2 * m) a2) w') := fun W hn => by
            refine (link_c La Be N t.of' (2 * m) a2 A1 B1 W hn.hA hn.lA hn.hB hn.lB hn.ne ha2 (by omega) (by omega)).mono ?_
            rintro e w' ⟨rfl, q1, q2, q3⟩
            exact ⟨rfl, hn.upd q1 q2 (by simp) (by simp) q3⟩
          have HCH : Aside (∀ W : World, Below wr.heap.size wr W → W.cell? ⟨Hb, 0, none⟩ = some (.slice (some ⟨La, 0, none⟩) N N) ∧ W.cell? ⟨Hb, 1, none⟩ = some (.slice (some ⟨Be, 0, none⟩) (2 * N) (2 * N))) := fun W hW => by
            have hn := HNm.out.bel' hW
            exact ⟨by simp [World.cell?, hn.hH], by simp [World.cell?, hn.hH]⟩
          have HCX : Aside (∀ W : World, Hn W1 Hb La Be N A1 B1 W → Chg (fun k => k = La ∨ k = Be) (wr.alloc (.cells #[.int .i64 4, .int .i64 (t.of' : Int), .int .i64 (b : Int), .string t.un, .string t.by'] 62)) W → W.cell? ⟨Hb, 0, none⟩ = some (.slice (some ⟨La, 0, none⟩) N N) ∧ W.cell? ⟨Hb, 1, none⟩ = some (.slice (some ⟨Be, 0, none⟩) (2 * N) (2 * N)) ∧ W.cell? ⟨wr.heap.size, 1, none⟩ = some (.int .i64 (t.of' : Int))) := fun W hn hc => by
            refine ⟨by simp [World.cell?, hn.hH], by simp [World.cell?, hn.hH], ?_⟩
            have l1 := (Array.getElem?_eq_some_iff.1 HNm.out.hA).1
            have l2 := (Array.getElem?_eq_some_iff.1 HNm.out.hB).1
            have := (hc.2.2.2.2 wr.heap.size (by simp) (by omega)).trans (heap_alloc_new wr _)
            simp [World.cell?, this]
          rw [h4] at t0
          rw [hb] at t2
          clear hgood hroot hnot HR HNm hv ht hTg hlA hlB g2 g3 g4 hof hk hTb ha1 ha2 HR1 hA1 hB1 lA1 lB1 hbm h4
          generalize (t.of' : Int) = oi at *
          generalize ((2 * m + 1 : Nat) : Int) = m3 at *
          generalize ((2 * m : Nat) : Int) = m2 at *
          generalize (b : Int) = bi at *
          have t0' : wr.cell? ⟨G, m * 5, none⟩ = some (.int .i64 4) := t0
          clear t0
          obtain ⟨d1, d2⟩ := HCH.out (wr.alloc (.cells #[.int .i64 4, .int .i64 oi, .int .i64 bi, .string t.un, .string t.by'] 62)) (bel1 _ _)
          go_wp2_with fail
          refine Calls.mono (HLK.out _ (bel1 _ _)) ?_
          rintro e W2 ⟨rfl, hn2, hc2⟩
          obtain ⟨x0, x1, x2⟩ := HCX.out W2 hn2 hc2
          have HL2 : Aside _ := HLK2.out W2 hn2
          clear hn2 hc2 HLK HCH d1 d2 HCX HLK2
          go_wp2_with fail
          refine Calls.mono HL2.out ?_
          rintro e W3 ⟨rfl, hn3⟩
          have HN3 : Aside _ := hn3
          clear hn3 HL2 x0 x1 x2
          go_wp2
          go_roundg (N - (m + 1))
          case measure => omega
          case rel => exact ⟨m + 1, _, _, by simp, by omega, Nat.le_refl _, HN3.out, HRR.out⟩
        · have hTg : Tg L (2 * m) t.of' := ⟨t, by rw [show 2 * m / 2 = m by omega]; exact ht, by omega, .inl ⟨by omega, rfl⟩⟩
          have hlA : A.length = N := HNm.out.lA
          have hlB : B.length = 2 * N := HNm.out.lB
          obtain ⟨a, hao⟩ : ∃ a, A[t.of']? = some a := ⟨A[t.of']'(by omega), by rw [List.getElem?_eq_getElem (by omega)]⟩
          have HRR : Aside (Hr L (fun l => l / 2 < m + 1) (2 * (m + 1)) (A.set t.of' (2 * m)) (B.set (2 * m) a)) := (HR.out.link (by omega) (by omega) (by omega) (by omega) (by simp) hTg hao).congr (by omega) (fun l n hT => by
            constructor
            · rintro (h | h) <;> omega
            · intro h
              by_cases e : l / 2 = m
              · by_cases e2 : l % 2 = 1
                · exact absurd ((hnot l n e hT).2 e2) h4
                · right; omega
              · left; omega)
          have HLK : Aside (∀ W : World, Below wr.heap.size wr W → Calls Try.prog 69 #[.agg #[.slice (some ⟨La, 0, none⟩) N N, .slice (some ⟨Be, 0, none⟩) (2 * N) (2 * N)], .int .i64 (t.of' : Int), .int .i64 ((2 * m : Nat) : Int)] W fun e w' => e = .returned (.tuple #[]) ∧ Hn W1 Hb La Be N (A.set t.of' (2 * m)) (B.set (2 * m) a) w') := fun W hW => by
            have hn := HNm.out.bel' hW
            refine (link_c La Be N t.of' (2 * m) a A B W hn.hA hn.lA hn.hB hn.lB hn.ne hao (by omega) (by omega)).mono ?_
            rintro e w' ⟨rfl, q1, q2, q3⟩
            exact ⟨rfl, hn.upd q1 q2 (by simp) (by simp) q3⟩
          have HCH : Aside (∀ W : World, Below wr.heap.size wr W → W.cell? ⟨Hb, 0, none⟩ = some (.slice (some ⟨La, 0, none⟩) N N) ∧ W.cell? ⟨Hb, 1, none⟩ = some (.slice (some ⟨Be, 0, none⟩) (2 * N) (2 * N))) := fun W hW => by
            have hn := HNm.out.bel' hW
            exact ⟨by simp [World.cell?, hn.hH], by simp [World.cell?, hn.hH]⟩
          have k0 : ¬ ((t.kd : Int) = 0) := by omega
          have k1 : ¬ ((t.kd : Int) = 1) := by omega
          have k4 : ¬ ((t.kd : Int) = 4) := by omega
          have k0' : ((t.kd : Int) == 0) = false := by simpa using k0
          have k1' : ((t.kd : Int) == 1) = false := by simpa using k1
          have k4' : ((t.kd : Int) == 4) = false := by simpa using k4
          clear hgood hroot hnot HR HNm hv ht hTg hlA hlB hao g2 g3 g4 hof h4 hk
          generalize (t.kd : Int) = ki at *
          generalize (t.of' : Int) = oi at *
          generalize ((2 * m : Nat) : Int) = m2 at *
          obtain ⟨d1, d2⟩ := HCH.out (wr.alloc (.cells #[.int .i64 ki, .int .i64 oi, .int .i64 t.wi, .string t.un, .string t.by'] 62)) (bel1 _ _)
          go_wp2_with fail
          refine Calls.mono (HLK.out _ (bel1 _ _)) ?_
          rintro e W2 ⟨rfl, hn2⟩
          have HN2' : Aside _ := hn2
          clear hn2 HLK HCH d1 d2
          go_wp2
          go_roundg (N - (m + 1))
          case measure => omega
          case rel => exact ⟨m + 1, _, _, by simp, by omega, Nat.le_refl _, HN2'.out, HRR.out⟩
    · obtain rfl : m = N := by omega
      have hnm := HNm.out
      have d0 : wr.cell? ⟨Hb, 0, none⟩ = some (.slice (some ⟨La, 0, none⟩) m m) := by simp [World.cell?, hnm.hH]
      have d1 : wr.cell? ⟨Hb, 1, none⟩ = some (.slice (some ⟨Be, 0, none⟩) (2 * m) (2 * m)) := by simp [World.cell?, hnm.hH]
      have hRb := HRB.out
      have hR : wr.heap[w.heap.size]? = some (.cells #[.slice none 0 0, .slice none 0 0] 103 (0, 0)) := heap_bel hRb hnm.bel
      have lW := (Array.getElem?_eq_some_iff.1 hRb).1
      have nA := hnm.nA
      have nB := hnm.nB
      have HE : Aside (∃ La Be A B, (Ending.returned (.agg #[.slice (some ⟨La, 0, none⟩) m m, .slice (some ⟨Be, 0, none⟩) (2 * m) (2 * m)])) = .returned (.agg #[.slice (some ⟨La, 0, none⟩) m m, .slice (some ⟨Be, 0, none⟩) (2 * m) (2 * m)]) ∧ (wr.setRow w.heap.size #[.slice (some ⟨La, 0, none⟩) m m, .slice (some ⟨Be, 0, none⟩) (2 * m) (2 * m)]).heap[La]? = some (.cells (il A).toArray 3 (0, 0)) ∧ A.length = m ∧ (wr.setRow w.heap.size #[.slice (some ⟨La, 0, none⟩) m m, .slice (some ⟨Be, 0, none⟩) (2 * m) (2 * m)]).heap[Be]? = some (.cells (il B).toArray 3 (0, 0)) ∧ B.length = 2 * m ∧ La ≠ Be ∧ w.heap.size ≤ La ∧ w.heap.size ≤ Be ∧ Hr L (fun l => l / 2 < m) (2 * m) A B ∧ Below w.heap.size w (wr.setRow w.heap.size #[.slice (some ⟨La, 0, none⟩) m m, .slice (some ⟨Be, 0, none⟩) (2 * m) (2 * m)])) := by
        refine ⟨La, Be, A, B, rfl, (setRow_other _ _ _ _ (by omega)).trans hnm.hA, hnm.lA, (setRow_other _ _ _ _ (by omega)).trans hnm.hB, hnm.lB, hnm.ne, by omega, by omega, HR.out, ?_⟩
        exact bel_set (HB0.out.trans (hnm.bel.mono HB0.out.size)) (Nat.le_refl _) _
      have HEE : Aside _ := setRow_heap wr w.heap.size _ #[.slice (some ⟨La, 0, none⟩) m m, .slice (some ⟨Be, 0, none⟩) (2 * m) (2 * m)] 103 (0, 0) hR
      have HE2 : Aside ((wr.setRow w.heap.size #[.slice (some ⟨La, 0, none⟩) m m, .slice (some ⟨Be, 0, none⟩) (2 * m) (2 * m)]).heap[La]? = some (.cells (il A).toArray 3 (0, 0)) ∧ A.length = m ∧ (wr.setRow w.heap.size #[.slice (some ⟨La, 0, none⟩) m m, .slice (some ⟨Be, 0, none⟩) (2 * m) (2 * m)]).heap[Be]? = some (.cells (il B).toArray 3 (0, 0)) ∧ B.length = 2 * m ∧ La ≠ Be ∧ w.heap.size ≤ La ∧ w.heap.size ≤ Be ∧ Hr L (fun l => l / 2 < m) (2 * m) A B ∧ Below w.heap.size w (wr.setRow w.heap.size #[.slice (some ⟨La, 0, none⟩) m m, .slice (some ⟨Be, 0, none⟩) (2 * m) (2 * m)])) := by
        refine ⟨(setRow_other _ _ _ _ (by omega)).trans hnm.hA, hnm.lA, (setRow_other _ _ _ _ (by omega)).trans hnm.hB, hnm.lB, hnm.ne, by omega, by omega, HR.out, ?_⟩
        exact bel_set (HB0.out.trans (hnm.bel.mono HB0.out.size)) (Nat.le_refl _) _
      clear hnm HE hv nA nB
      go_wp2_with (refine wpList_store_row rfl 103 (.tmp 2) (.tmp 51) rfl w.heap.size #[.slice (some ⟨La, 0, none⟩) m m, .slice (some ⟨Be, 0, none⟩) (2 * m) (2 * m)] rfl rfl 103 _ hR i111 rfl (by simp [Value.oneCell']) ?_)
      refine bodyPost_ret (v := .agg #[.slice (some ⟨La, 0, none⟩) m m, .slice (some ⟨Be, 0, none⟩) (2 * m) (2 * m)]) (results_cell_row (fn := Try.f65) (p := 2) rfl _ _ w.heap.size 103 _ (0, 0) _ rfl HEE.out u111 rfl i111) rfl ?_
      exact ⟨La, Be, A, B, rfl, HE2.out⟩
end Go.Proofs.Ytpjoaimbaboleaa
