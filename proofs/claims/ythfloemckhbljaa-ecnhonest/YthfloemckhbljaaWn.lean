/- ecn: a validation as it lies; what each call does to it: the small calls. -/
import Derived.Test.YthfloemckhbljaaNob
import Derived.Deep.QuietTactic
import Derived.BigQuiet
import Derived.WalkSmall
import Derived.Deep.RegionWith
import Derived.Deep.RegionHeld3
namespace Go.Proofs.Ythfloemckhbljaa
open Go.RowKit
set_option linter.unusedVariables false

theorem norm_any' {φ : Act → World → Prop} {a : Act} {w : World} (h : ∀ K : Act → World → Prop, (∀ a w, φ a w → K a w) → K a w) : φ a w := h φ (fun _ _ h => h)
theorem wrp (x : Int) (h0 : -9223372036854775808 ≤ x) (h1 : x ≤ 9223372036854775807) : IntKind.i64.wrap x = x := by rw [IntKind.wrap_i64]; omega
/-- A validation: state, sent, lost, here, the last counts. -/
structure Ev where
  s : Int
  n : Int
  l : Int
  h : Int
  a : Int
  b : Int
  c : Int
def Ev.cs (v : Ev) : Array Value := #[.int .i64 v.s, .int .i64 v.n, .int .i64 v.l, .int .i64 v.h, .int .i64 v.a, .int .i64 v.b, .int .i64 v.c]
/-- A validation of type T in block b. -/
def Rt (T : Nat) (w : World) (b : Nat) (v : Ev) : Prop := w.heap[b]? = some (.cells v.cs T (0, 0))
theorem Rt.lt {T : Nat} {w : World} {b : Nat} {v : Ev} (h : Rt T w b v) : b < w.heap.size := (Array.getElem?_eq_some_iff.1 h).1
theorem Rt.cells {T : Nat} {w : World} {b : Nat} {v : Ev} (h : Rt T w b v) : w.cell? ⟨b, 0, none⟩ = some (.int .i64 v.s) ∧ w.cell? ⟨b, 1, none⟩ = some (.int .i64 v.n) ∧ w.cell? ⟨b, 2, none⟩ = some (.int .i64 v.l) ∧ w.cell? ⟨b, 3, none⟩ = some (.int .i64 v.h) ∧ w.cell? ⟨b, 4, none⟩ = some (.int .i64 v.a) ∧ w.cell? ⟨b, 5, none⟩ = some (.int .i64 v.b) ∧ w.cell? ⟨b, 6, none⟩ = some (.int .i64 v.c) := by
  have h' : w.heap[b]? = _ := h
  refine ⟨?_, ?_, ?_, ?_, ?_, ?_, ?_⟩ <;> simp [World.cell?, h', Ev.cs]
theorem Rt.frozen {T : Nat} {w : World} {b : Nat} {v : Ev} (h : Rt T w b v) (j : Nat) : w.frozen? ⟨b, j, none⟩ = false := by
  have h' : w.heap[b]? = _ := h
  simp [World.frozen?, h']
theorem Rt.below {T : Nat} {w w' : World} {b : Nat} {v : Ev} (h : Rt T w b v) (hb : Below w.heap.size w w') : Rt T w' b v := (hb.block b h.lt).trans h
theorem Rt.set {T : Nat} {w : World} {b : Nat} {v : Ev} (h : Rt T w b v) (j : Nat) (x : Value) (v' : Ev) (he : v.cs.setIfInBounds j x = v'.cs) : Rt T (w.setCell ⟨b, j, none⟩ x) b v' := by
  have h' : w.heap[b]? = some (.cells v.cs T (0, 0)) := h
  show (w.setCell ⟨b, j, none⟩ x).heap[b]? = _
  rw [setCell_eq_setRow w b j _ T (0, 0) _ h', setRow_heap w b _ _ T (0, 0) h', he]
/-- Nothing but block b has turned, or is new. -/
def Tn (b : Nat) (w w' : World) : Prop := w'.os = w.os ∧ w'.tape = w.tape ∧ w'.output = w.output ∧ w.heap.size ≤ w'.heap.size ∧ ∀ k, k < w.heap.size → k ≠ b → w'.heap[k]? = w.heap[k]?
theorem Tn.refl (b : Nat) (w : World) : Tn b w w := ⟨rfl, rfl, rfl, Nat.le_refl _, fun _ _ _ => rfl⟩
theorem Tn.trans {b : Nat} {x y z : World} (h : Tn b x y) (k : Tn b y z) : Tn b x z :=
  ⟨k.1.trans h.1, k.2.1.trans h.2.1, k.2.2.1.trans h.2.2.1, Nat.le_trans h.2.2.2.1 k.2.2.2.1, fun j hj hs => (k.2.2.2.2 j (Nat.lt_of_lt_of_le hj h.2.2.2.1) hs).trans (h.2.2.2.2 j hj hs)⟩
theorem Tn.below {b : Nat} {x y : World} (h : Below x.heap.size x y) : Tn b x y := ⟨h.os, h.tape, h.output, h.size, fun k hk _ => h.block k hk⟩
theorem Tn.set {T : Nat} {b : Nat} {w : World} {v : Ev} (h : Rt T w b v) (j : Nat) (x : Value) : Tn b w (w.setCell ⟨b, j, none⟩ x) := by
  rw [setCell_eq_setRow w b j _ T (0, 0) _ h]
  exact ⟨rfl, rfl, rfl, by simp, fun k hk hs => setRow_other w b k _ hs⟩
theorem Tn.toBelow {b n : Nat} {x y : World} (h : Tn b x y) (hn : n ≤ x.heap.size) (hb : n ≤ b) : Below n x y := ⟨h.1, h.2.1, h.2.2.1, h.2.2.2.1, fun k hk => h.2.2.2.2 k (by omega) (by omega)⟩
theorem Tn.rt {T : Nat} {b k : Nat} {x y : World} {v : Ev} (h : Tn b x y) (hr : Rt T x k v) (hk : k ≠ b) : Rt T y k v := (h.2.2.2.2 k hr.lt hk).trans hr
/-- Validations as the calls make them. -/
structure Ev.ok (v : Ev) : Prop where
  s0 : 1 ≤ v.s
  s1 : v.s ≤ 4
  l0 : 0 ≤ v.l
  h0 : 0 ≤ v.h
  n0 : v.l + v.h ≤ v.n
  n1 : v.n ≤ 4611686018427387904
  t1 : v.s = 1 → v.n < 10
  a0 : 0 ≤ v.a
  a1 : v.a ≤ 4611686018427387903
  b0 : v.b = 0
  c0 : 0 ≤ v.c
  c1 : v.c ≤ 4611686018427387903

set_option maxRecDepth 100000 in
theorem none_c (b : Nat) (v : Ev) (w : World) (h : Rt 43 w b v) (ho : v.ok) : Calls Try.prog 17 #[.pointer (some ⟨b, 0, none⟩)] w fun e w' => e = .returned (.bool false) ∧ w' = w := by
  obtain ⟨c0, c1, c2, c3, c4, c5, c6⟩ := h.cells
  have hq := eq43n v.s v.n v.l v.h v.a v.b v.c (by have := ho.s0; omega)
  go_enter Try.func17, Try.ntmps17
  go_wp2
  go_ret
  exact ⟨rfl, rfl⟩
theorem state_c (b : Nat) (v : Ev) (w : World) (h : Rt 43 w b v) (ho : v.ok) : Calls Try.prog 9 #[.pointer (some ⟨b, 0, none⟩)] w fun e w' => e = .returned (.int .i64 v.s) ∧ w' = w := by
  have h1 := none_c b v w h ho
  obtain ⟨c0, c1, c2, c3, c4, c5, c6⟩ := h.cells
  clear h ho
  go_enter Try.func9, Try.ntmps9
  go_wp2_with fail
  refine h1.mono ?_
  rintro e w' ⟨rfl, rfl⟩
  go_wp2
  go_ret
  exact ⟨rfl, rfl⟩

/-- Sent. -/
def Ev.snt (v : Ev) : Bool × Ev := if v.s = 1 then (true, { v with s := if v.n = 9 then 2 else 1, n := v.n + 1 }) else if v.s = 4 then (true, { v with n := v.n + 1 }) else (false, v)
theorem Ev.snt_ok (v : Ev) (h : v.ok) (hn : v.n < 4611686018427387904) : v.snt.2.ok := by
  obtain ⟨h1, h2, h3, h4, h5, h6, h7, h8, h9, h10, h11, h12⟩ := h
  unfold Ev.snt
  split
  · by_cases h9' : v.n = 9
    · simp only [h9', if_true]; constructor <;> simp only <;> omega
    · simp only [h9', if_false]; constructor <;> simp only <;> omega
  · split
    · constructor <;> simp only <;> omega
    · exact ⟨h1, h2, h3, h4, h5, h6, h7, h8, h9, h10, h11, h12⟩
theorem Ev.snt_n (v : Ev) : v.snt.2.n ≤ v.n + 1 := by
  unfold Ev.snt
  split
  · simp only; omega
  · split <;> simp only <;> omega
set_option maxRecDepth 100000 in
theorem sent_c (b : Nat) (v : Ev) (w : World) (h : Rt 43 w b v) (ho : v.ok) (hn : v.n < 4611686018427387904) : Calls Try.prog 11 #[.pointer (some ⟨b, 0, none⟩)] w fun e w' => e = .returned (.bool v.snt.1) ∧ Rt 43 w' b v.snt.2 ∧ Tn b w w' := by
  have h1 := state_c b v w h ho
  have H : Aside (Rt 43 w b v) := h
  have f0 := h.frozen 0
  have f1 := h.frozen 1
  obtain ⟨c0, c1, c2, c3, c4, c5, c6⟩ := h.cells
  have i1 : IntKind.i64.wrap (v.n + 1) = v.n + 1 := wrp _ (by have := ho.n0; have := ho.l0; have := ho.h0; omega) (by omega)
  have hs := ho.s0
  have hs1 := ho.s1
  clear h ho
  obtain ⟨s, n, l, hh, a, bb, c⟩ := v
  dsimp only at *
  by_cases k1 : s = 1
  · subst k1
    by_cases k9 : n = 9
    · subst k9
      have HX : Aside (Rt 43 ((w.setCell ⟨b, 0, none⟩ (.int .i64 2)).setCell ⟨b, 1, none⟩ (.int .i64 10)) b ⟨2, 10, l, hh, a, bb, c⟩ ∧ Tn b w ((w.setCell ⟨b, 0, none⟩ (.int .i64 2)).setCell ⟨b, 1, none⟩ (.int .i64 10))) :=
        ⟨(H.out.set 0 _ ⟨2, 9, l, hh, a, bb, c⟩ rfl).set 1 _ _ rfl, (Tn.set H.out 0 _).trans (Tn.set (H.out.set 0 _ ⟨2, 9, l, hh, a, bb, c⟩ rfl) 1 _)⟩
      clear i1 H
      go_enter Try.func11, Try.ntmps11
      go_wp2_with fail
      refine h1.mono ?_
      rintro e w' ⟨rfl, hw⟩
      subst w'
      go_wp2
      go_ret
      exact ⟨rfl, HX.out⟩
    · have HX : Aside (Rt 43 (w.setCell ⟨b, 1, none⟩ (.int .i64 (n + 1))) b ⟨1, n + 1, l, hh, a, bb, c⟩ ∧ Tn b w (w.setCell ⟨b, 1, none⟩ (.int .i64 (n + 1)))) := ⟨H.out.set 1 _ _ rfl, Tn.set H.out 1 _⟩
      have k10 : (n + 1 == 10) = false := by simp; omega
      have hX : (Ev.mk 1 n l hh a bb c).snt = (true, ⟨1, n + 1, l, hh, a, bb, c⟩) := by simp [Ev.snt, k9]
      rw [hX]
      have k11 : ¬ n + 1 = 10 := by omega
      clear H k9 hX
      go_enter Try.func11, Try.ntmps11
      go_wp2_with fail
      refine h1.mono ?_
      rintro e w' ⟨rfl, hw⟩
      subst w'
      go_wp2
      go_ret
      exact ⟨rfl, HX.out⟩
  · by_cases k4 : s = 4
    · subst k4
      have HX : Aside (Rt 43 (w.setCell ⟨b, 1, none⟩ (.int .i64 (n + 1))) b ⟨4, n + 1, l, hh, a, bb, c⟩ ∧ Tn b w (w.setCell ⟨b, 1, none⟩ (.int .i64 (n + 1)))) := ⟨H.out.set 1 _ _ rfl, Tn.set H.out 1 _⟩
      clear H
      go_enter Try.func11, Try.ntmps11
      go_wp2_with fail
      refine h1.mono ?_
      rintro e w' ⟨rfl, hw⟩
      subst w'
      go_wp2
      go_ret
      exact ⟨rfl, HX.out⟩
    · have hX : (Ev.mk s n l hh a bb c).snt = (false, ⟨s, n, l, hh, a, bb, c⟩) := by simp [Ev.snt, k1, k4]
      rw [hX]
      clear hX
      go_enter Try.func11, Try.ntmps11
      go_wp2_with fail
      refine h1.mono ?_
      rintro e w' ⟨rfl, hw⟩
      subst w'
      go_wp2
      go_ret
      exact ⟨rfl, H.out, Tn.refl _ _⟩
end Go.Proofs.Ythfloemckhbljaa
