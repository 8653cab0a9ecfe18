/- RangesOrder: what its walk carries: two sets side by side, what has been added, the turned order. -/
import Derived.Test.YtgmhlmficnkhgaaUndW
namespace Go.Proofs.Ytgmhlmficnkhgaa
open Go.RowKit Go.Shelf Go.Lib
set_option linter.unusedVariables false

/-- A post that no panic meets. -/
def calmP (Q : Exit → Act → World → Prop) : Exit → Act → World → Prop
  | .panic _, _, _ => False
  | e, a, w => Q e a w
theorem calm_le {Q : Exit → Act → World → Prop} : ∀ e a w, calmP Q e a w → Q e a w := by
  intro e a w h
  cases e <;> first | exact h.elim | exact h
theorem calls_calm {f : FuncId} {fn : Func} {c : Code} {args : Array Value} {w : World} {R : Ending → World → Prop} (hf : Try.prog.funcs[f]? = some fn) (hb : fn.body = some c)
    (h : c.wp Try.prog (calmP (bodyPostM Fence.wide 5 Try.prog fn R)) { tmps := args ++ Array.replicate (fn.ntmps - args.size) undef, defers := [] } w) : Calls Try.prog f args w R :=
  callsIn_wide.1 (callsIn_of_wp_marks (F := Fence.wide) (n := 5) hf hb trivial (wpIn_mono (wpIn_wide.2 h) calm_le) rfl)

/-- The law's store: two sets, and the answer's cell. -/
structure Ob (R : Nat) (w : World) (A B : Nat) (oa ob : Option Addr) (La Lb : List (Int × Int)) (W : World) : Prop where
  a : My (R + 1) W A oa La
  b : My (R + 1) W B ob Lb
  ap : Apart A B oa ob
  bel : Below R w W
  box : W.heap[R]? = some (.cells #[.bool false] 4 (0, 0))
section
variable {R : Nat} {w : World} {A B : Nat} {oa ob : Option Addr} {La Lb : List (Int × Int)} {W W' : World}
theorem Ob.lt (h : Ob R w A B oa ob La Lb W) : R < W.heap.size := (Array.getElem?_eq_some_iff.1 h.box).1
theorem Apart.symm (h : Apart A B oa ob) : Apart B A ob oa := ⟨fun e => h.1 e.symm, h.2.2.1, h.2.1, fun g e e' => h.2.2.2 g e' e⟩
theorem Ob.symm (h : Ob R w A B oa ob La Lb W) : Ob R w B A ob oa Lb La W := ⟨h.b, h.a, h.ap.symm, h.bel, h.box⟩
theorem Ob.chg {X : Nat → Prop} (h : Ob R w A B oa ob La Lb W) (hc : Chg X W W') (hA : ¬ X A) (hB : ¬ X B) (ha : ∀ g, oa = some ⟨g, 0, none⟩ → ¬ X g) (hb : ∀ g, ob = some ⟨g, 0, none⟩ → ¬ X g) (hR : ∀ k, X k → R < k) : Ob R w A B oa ob La Lb W' :=
  ⟨h.a.chg hc hA ha, h.b.chg hc hB hb, h.ap, h.bel.trans ⟨hc.1, hc.2.1, hc.2.2.1, hc.2.2.2.1, fun k hk => hc.2.2.2.2 k (Nat.lt_trans hk h.lt) (fun e => by have := hR k e; omega)⟩, (hc.2.2.2.2 R h.lt (fun e => by have := hR R e; omega)).trans h.box⟩
theorem Ob.below (h : Ob R w A B oa ob La Lb W) (hb : Below W.heap.size W W') : Ob R w A B oa ob La Lb W' :=
  h.chg (X := fun _ => False) (Chg.below hb) (fun h => h) (fun h => h) (fun _ _ h => h) (fun _ _ h => h) (fun _ h => h.elim)
theorem Ob.turn {oa' : Option Addr} {La' : List (Int × Int)} (h : Ob R w A B oa ob La Lb W) (ht : Turn (R + 1) W W' A oa oa' La') : Ob R w A B oa' ob La' Lb W' := by
  have hbl := h.b.lt
  refine ⟨ht.1, h.b.chg ht.2.1 ?_ ?_, ?_, ?_, ?_⟩
  · rintro (e | e)
    · exact h.ap.1 e.symm
    · exact h.ap.2.1 e
  · rintro g hg (e | e)
    · subst e; exact h.ap.2.2.1 hg
    · exact h.ap.2.2.2 g e hg
  · rcases ht.2.2 with e | ⟨g, e, hg⟩
    · rw [e]; exact h.ap
    · subst e
      refine ⟨h.ap.1, fun e => ?_, h.ap.2.2.1, fun q e hq => ?_⟩
      · injection e with e; injection e with e; have := hbl.1; omega
      · injection e with e; injection e with e; have := hbl.2 q hq; omega
  · exact h.bel.trans ((ht.below h.a (Below.refl (R + 1) W)).mono (by omega))
  · refine (ht.2.1.2.2.2.2 R h.lt ?_).trans h.box
    rintro (e | e)
    · have := h.a.2.2.2.1; omega
    · have := h.a.2.2.2.2 R e; omega
end

/-- What has been added of a list, its spans taken by f. -/
def Got (l : List (Int × Int)) (f : Nat → Nat) (k : Nat) (n : Int) : Prop := ∃ j, j < k ∧ Fit (l.getD (f j) (0, -1)).1 (l.getD (f j) (0, -1)).2 ∧ (l.getD (f j) (0, -1)).1 ≤ n ∧ n ≤ (l.getD (f j) (0, -1)).2
theorem Got_zero (l : List (Int × Int)) (f : Nat → Nat) (n : Int) : ¬ Got l f 0 n := by rintro ⟨j, h, _⟩; omega
theorem Got_succ (l : List (Int × Int)) (f : Nat → Nat) (k : Nat) (n : Int) : Got l f (k + 1) n ↔ Got l f k n ∨ (Fit (l.getD (f k) (0, -1)).1 (l.getD (f k) (0, -1)).2 ∧ (l.getD (f k) (0, -1)).1 ≤ n ∧ n ≤ (l.getD (f k) (0, -1)).2) := by
  constructor
  · rintro ⟨j, hj, h⟩
    by_cases e : j = k
    · subst e; exact .inr h
    · exact .inl ⟨j, by omega, h⟩
  · rintro (⟨j, hj, h⟩ | h)
    · exact ⟨j, by omega, h⟩
    · exact ⟨k, by omega, h⟩
/-- The turned order. -/
def kx (N c i : Nat) : Nat := N - 1 - (c + i) % N
theorem kx_lt {N c i : Nat} (h : 0 < N) : kx N c i < N := by unfold kx; omega
theorem kx_all {N c m : Nat} (hc : c < N) (hm : m < N) : ∃ j, j < N ∧ kx N c j = m := by
  unfold kx
  by_cases h : c ≤ N - 1 - m
  · refine ⟨N - 1 - m - c, by omega, ?_⟩
    rw [show c + (N - 1 - m - c) = N - 1 - m by omega, Nat.mod_eq_of_lt (by omega)]; omega
  · refine ⟨N - 1 - m + N - c, by omega, ?_⟩
    rw [show c + (N - 1 - m + N - c) = N - 1 - m + N by omega, Nat.add_mod_right, Nat.mod_eq_of_lt (by omega)]; omega
theorem Got_turned {l : List (Int × Int)} {N c : Nat} (hc : c < N) (n : Int) : Got l id N n ↔ Got l (kx N c) N n := by
  constructor
  · rintro ⟨j, hj, h⟩
    obtain ⟨i, hi, e⟩ := kx_all hc hj
    exact ⟨i, hi, by rw [e]; exact h⟩
  · rintro ⟨j, hj, h⟩
    exact ⟨kx N c j, kx_lt (by omega), h⟩
/-- Add, told by what has been added. -/
theorem add_got {n₀ S : Nat} {o : Option Addr} {L l : List (Int × Int)} {f : Nat → Nat} {k : Nat} {W : World} (h : My n₀ W S o L) (hn : n₀ ≤ W.heap.size) (hin : ∀ n, In n L ↔ Got l f k n) (x y : Int) (hx : l.getD (f k) (0, -1) = (x, y)) :
    Calls Try.prog 10 #[.pointer (some ⟨S, 0, none⟩), .int .i64 x, .int .i64 y] W fun e w' => ∃ r o' L', e = .returned (.int .i64 r) ∧ Turn n₀ W w' S o o' L' ∧ (r = 3 ∨ r ≠ 3 ∧ ∀ n, In n L' ↔ Got l f (k + 1) n) := by
  refine (add_my n₀ S o x y L W h hn).mono ?_
  rintro e w' ⟨r, o', L', rfl, ht, ⟨rfl, hf, hm⟩ | ⟨rfl, hf, rfl⟩ | ⟨rfl, _⟩⟩
  · refine ⟨0, o', L', rfl, ht, .inr ⟨by decide, fun n => ?_⟩⟩
    rw [hm n, hin n, Got_succ, hx]
    constructor
    · rintro (h | h)
      · exact .inl h
      · exact .inr ⟨hf, h⟩
    · rintro (h | h)
      · exact .inl h
      · exact .inr h.2
  · refine ⟨2, o', L', rfl, ht, .inr ⟨by decide, fun n => ?_⟩⟩
    rw [hin n, Got_succ, hx]
    constructor
    · exact .inl
    · rintro (h | h)
      · exact h
      · exact absurd h.1 hf
  · exact ⟨3, o', L', rfl, ht, .inl rfl⟩
theorem turn_begin (b : Int) {N : Nat} (hp : 0 < N) : ∃ c : Nat, c < N ∧ (b.tmod N + N).tmod N = (c : Int) := by
  have h1 := Int.tmod_lt_of_pos (b.tmod N + N) (show (0 : Int) < N by omega)
  have h0 : 0 ≤ b.tmod N + N := by
    have := Int.lt_tmod_of_pos b (show (0 : Int) < N by omega)
    omega
  have h2 := Int.tmod_nonneg (N : Int) h0
  exact ⟨((b.tmod N + N).tmod N).toNat, by omega, by omega⟩
theorem kx_int {N c k : Nat} {b : Int} (hN : N ≤ 1000000000000000) (hk : k < N) (hc : c < N) (he : (b.tmod N + N).tmod N = (c : Int)) :
    wrap64 ((N : Int) - 1 - (wrap64 ((wrap64 (b.tmod N + N)).tmod N + k)).tmod N) = ((kx N c k : Nat) : Int) := by
  have h1 := Int.tmod_lt_of_pos b (show (0 : Int) < N by omega)
  have h2 := Int.lt_tmod_of_pos b (show (0 : Int) < N by omega)
  have e1 : wrap64 (b.tmod N + N) = b.tmod N + N := by unfold wrap64; omega
  rw [e1, he]
  have e2 : wrap64 ((c : Int) + k) = ((c + k : Nat) : Int) := by unfold wrap64; omega
  rw [e2, ← Int.ofNat_tmod]
  have h3 := Nat.mod_lt (c + k) (show 0 < N by omega)
  unfold wrap64 kx
  omega
/-- The answer of RangesOrder lies in a cell. -/
theorem results_cellB (tmps : Array Value) (w : World) (g : Nat) (v : Bool) (hp : tmps.getD 4 undef = .pointer (some ⟨g, 0, none⟩)) (hc : w.cell? ⟨g, 0, none⟩ = some (.bool v)) : (results Try.f5 tmps).run Try.prog w = .ok (.bool v) w := by
  have h : Try.f5.results = #[.cell 4 4] := rfl
  have hp' : tmps[4]?.getD undef = .pointer (some ⟨g, 0, none⟩) := by simpa using hp
  have hl : (loadVar 4 ⟨g, 0, none⟩).run Try.prog w = .ok (.bool v) w := by simp [go_sem, hc]
  simp [results, hp', asAddr, hl]
theorem Ob.set {R : Nat} {w : World} {A B : Nat} {oa ob : Option Addr} {La Lb : List (Int × Int)} {W : World} (h : Ob R w A B oa ob La Lb W) (v : Value) : Below R w (W.setCell ⟨R, 0, none⟩ v) ∧ (W.setCell ⟨R, 0, none⟩ v).cell? ⟨R, 0, none⟩ = some v := by
  rw [setCell_eq_setRow W R 0 _ 4 (0, 0) _ h.box]
  refine ⟨h.bel.trans ⟨rfl, rfl, rfl, by simp, fun k hk => setRow_other W R k _ (by omega)⟩, ?_⟩
  unfold World.cell?
  rw [setRow_heap W R _ _ 4 (0, 0) h.box]
  simp
end Go.Proofs.Ytgmhlmficnkhgaa
