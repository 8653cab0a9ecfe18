/- cubic: a window as it lies; none, Told, become, leave, Lost, Collapse, New. -/
import Derived.Test.YtphkgijimbkgeaaRoR
import Derived.Deep.QuietTactic
import Derived.BigQuiet
import Derived.WalkSmall
import Derived.Deep.RegionWith
import Derived.Deep.RegionHeld3
namespace Go.Proofs.Ytphkgijimbkgeaa
open Go.RowKit
set_option linter.unusedVariables false

theorem max_if (a b : Int) : (if a < b then b else a) = max a b := by omega
theorem min_if (a b : Int) : (if b < a then b else a) = min a b := by omega
/-- A window: kind, size, bytes, slow, recovers, peak, epoch, start, est. -/
structure Wv where
  k : Int
  z : Int
  b : Int
  s : Int
  r : Int
  p : Int
  e : Int
  t : Int
  m : Int
def Wv.cs (v : Wv) : Array Value := #[.int .i64 v.k, .int .i64 v.z, .int .i64 v.b, .int .i64 v.s, .int .i64 v.r, .int .i64 v.p, .int .i64 v.e, .int .i64 v.t, .int .i64 v.m]
/-- A window in block b, as the program (45) or the reference (34) has it. -/
def Rt (t : TypeId) (w : World) (b : Nat) (v : Wv) : Prop := w.heap[b]? = some (.cells v.cs t (0, 0))
theorem Rt.lt {t : TypeId} {w : World} {b : Nat} {v : Wv} (h : Rt t w b v) : b < w.heap.size := (Array.getElem?_eq_some_iff.1 h).1
theorem Rt.cells {t : TypeId} {w : World} {b : Nat} {v : Wv} (h : Rt t w b v) : w.cell? ⟨b, 0, none⟩ = some (.int .i64 v.k) ∧ w.cell? ⟨b, 1, none⟩ = some (.int .i64 v.z) ∧ w.cell? ⟨b, 2, none⟩ = some (.int .i64 v.b) ∧ w.cell? ⟨b, 3, none⟩ = some (.int .i64 v.s) ∧ w.cell? ⟨b, 4, none⟩ = some (.int .i64 v.r) ∧ w.cell? ⟨b, 5, none⟩ = some (.int .i64 v.p) ∧ w.cell? ⟨b, 6, none⟩ = some (.int .i64 v.e) ∧ w.cell? ⟨b, 7, none⟩ = some (.int .i64 v.t) ∧ w.cell? ⟨b, 8, none⟩ = some (.int .i64 v.m) := by
  have h' : w.heap[b]? = _ := h
  refine ⟨?_, ?_, ?_, ?_, ?_, ?_, ?_, ?_, ?_⟩ <;> simp [World.cell?, h', Wv.cs]
theorem Rt.frozen {t : TypeId} {w : World} {b : Nat} {v : Wv} (h : Rt t w b v) (j : Nat) : w.frozen? ⟨b, j, none⟩ = false := by
  have h' : w.heap[b]? = _ := h
  simp [World.frozen?, h']
theorem Rt.below {t : TypeId} {w w' : World} {b : Nat} {v : Wv} (h : Rt t w b v) (hb : Below w.heap.size w w') : Rt t w' b v := (hb.block b h.lt).trans h
theorem Rt.set {t : TypeId} {w : World} {b : Nat} {v : Wv} (h : Rt t w b v) (j : Nat) (x : Value) (v' : Wv) (he : v.cs.setIfInBounds j x = v'.cs) : Rt t (w.setCell ⟨b, j, none⟩ x) b v' := by
  have h' : w.heap[b]? = some (.cells v.cs t (0, 0)) := h
  show (w.setCell ⟨b, j, none⟩ x).heap[b]? = _
  rw [setCell_eq_setRow w b j _ t (0, 0) _ h', setRow_heap w b _ _ t (0, 0) h', he]
/-- Nothing but block b has turned, or is new. -/
def Tn (b : Nat) (w w' : World) : Prop := w'.os = w.os ∧ w'.tape = w.tape ∧ w'.output = w.output ∧ w.heap.size ≤ w'.heap.size ∧ ∀ k, k < w.heap.size → k ≠ b → w'.heap[k]? = w.heap[k]?
theorem Tn.refl (b : Nat) (w : World) : Tn b w w := ⟨rfl, rfl, rfl, Nat.le_refl _, fun _ _ _ => rfl⟩
theorem Tn.trans {b : Nat} {x y z : World} (h : Tn b x y) (k : Tn b y z) : Tn b x z :=
  ⟨k.1.trans h.1, k.2.1.trans h.2.1, k.2.2.1.trans h.2.2.1, Nat.le_trans h.2.2.2.1 k.2.2.2.1, fun j hj hs => (k.2.2.2.2 j (Nat.lt_of_lt_of_le hj h.2.2.2.1) hs).trans (h.2.2.2.2 j hj hs)⟩
theorem Tn.below {b : Nat} {x y : World} (h : Below x.heap.size x y) : Tn b x y := ⟨h.os, h.tape, h.output, h.size, fun k hk _ => h.block k hk⟩
theorem Tn.set {t : TypeId} {b : Nat} {w : World} {v : Wv} (h : Rt t w b v) (j : Nat) (x : Value) : Tn b w (w.setCell ⟨b, j, none⟩ x) := by
  rw [setCell_eq_setRow w b j _ t (0, 0) _ h]
  exact ⟨rfl, rfl, rfl, by simp, fun k hk hs => setRow_other w b k _ hs⟩
theorem Tn.toBelow {b n : Nat} {x y : World} (h : Tn b x y) (hn : n ≤ x.heap.size) (hb : n ≤ b) : Below n x y := ⟨h.1, h.2.1, h.2.2.1, h.2.2.2.1, fun k hk => h.2.2.2.2 k (by omega) (by omega)⟩
theorem Tn.rt {t : TypeId} {b c : Nat} {x y : World} {v : Wv} (h : Tn b x y) (hv : Rt t x c v) (hc : c ≠ b) : Rt t y c v := (h.2.2.2.2 c (Rt.lt hv) hc).trans hv
/-- Windows as New and the calls make them. -/
structure Wv.ok (v : Wv) : Prop where
  k0 : v.k = 0 ∨ v.k = 1
  z0 : 1200 ≤ v.z
  z1 : v.z ≤ 65535
  b0 : 2 * v.z ≤ v.b
  b1 : v.b ≤ 1073741824
  s0 : v.s = -1 ∨ 2 * v.z ≤ v.s
  e0 : v.e = -1 ∨ 0 ≤ v.e

/-- The closest number from lo to hi. -/
def cl (n lo hi : Int) : Int := min (max n lo) hi
set_option maxRecDepth 100000 in
theorem between_c (n lo hi : Int) (w : World) : Calls Try.prog 21 #[.int .i64 n, .int .i64 lo, .int .i64 hi] w fun e w' => e = .returned (.int .i64 (cl n lo hi)) ∧ w' = w := by
  have i2 := max_if n lo
  have i3 := min_if (max n lo) hi
  go_enter Try.func21, Try.ntmps21
  go_wp2
  go_ret
  exact ⟨rfl, rfl⟩
set_option maxRecDepth 100000 in
theorem isTime_c (n : Int) (w : World) : Calls Try.prog 22 #[.int .i64 n] w fun e w' => e = .returned (.bool (decide (0 ≤ n ∧ n ≤ 1125899906842624))) ∧ w' = w := by
  go_enter Try.func22, Try.ntmps22
  go_wp2_with fail
  refine (between_c n 0 1125899906842624 w).mono ?_
  rintro e w' ⟨rfl, h⟩
  subst w'
  generalize hm : cl n 0 1125899906842624 = mm
  go_wp2
  go_ret
  refine ⟨congrArg (fun b => Ending.returned (.bool b)) (?_ : (mm == n) = decide (0 ≤ n ∧ n ≤ 1125899906842624)), rfl⟩
  unfold cl at hm
  rw [Bool.eq_iff_iff]
  simp only [beq_iff_eq, decide_eq_true_eq]
  omega
set_option maxRecDepth 100000 in
theorem none_c (b : Nat) (v : Wv) (w : World) (h : Rt 45 w b v) (ho : v.ok) : Calls Try.prog 20 #[.pointer (some ⟨b, 0, none⟩)] w fun e w' => e = .returned (.bool false) ∧ w' = w := by
  obtain ⟨c0, c1, c2, c3, c4, c5, c6, c7, c8⟩ := h.cells
  have hq : ∀ w, (binOp .eql 45 (.agg #[.int .i64 v.k, .int .i64 v.z, .int .i64 v.b, .int .i64 v.s, .int .i64 v.r, .int .i64 v.p, .int .i64 v.e, .int .i64 v.t, .int .i64 v.m]) (.agg #[.int .i64 0, .int .i64 0, .int .i64 0, .int .i64 0, .int .i64 0, .int .i64 0, .int .i64 0, .int .i64 0, .int .i64 0])).run Try.prog w = .ok (.bool false) w := by
    intro w
    rw [eq45, decide_eq_false]
    rintro ⟨_, hz, _⟩
    have := ho.z0
    omega
  go_enter Try.func20, Try.ntmps20
  go_wp2
  go_ret
  exact ⟨rfl, rfl⟩
set_option maxRecDepth 100000 in
theorem told_c (b : Nat) (v : Wv) (w : World) (h : Rt 45 w b v) (ho : v.ok) : Calls Try.prog 11 #[.pointer (some ⟨b, 0, none⟩)] w fun e w' => e = .returned (.tuple #[.int .i64 v.b, .int .i64 v.s, .int .i64 v.r]) ∧ Below w.heap.size w w' := by
  obtain ⟨c0, c1, c2, c3, c4, c5, c6, c7, c8⟩ := h.cells
  have hn := none_c b v w h ho
  clear h
  go_enter Try.func11, Try.ntmps11
  go_wp2_with fail
  refine hn.mono ?_
  rintro e w' ⟨rfl, hw⟩
  subst w'
  clear hn
  go_wp2_with fail
  go_quiet (fail)
  go_wp2
  refine bodyPost_ret (results_3 (fn := Try.f11) (a := 2) (b := 3) (c := 4) rfl _ _) rfl ?_
  exact ⟨rfl, below_drewN (Below.refl _ w) _⟩
/-- So many bytes, or the closest that a window may have. -/
def Wv.become (v : Wv) (x : Int) : Wv := { v with b := cl x (2 * v.z) 1073741824 }
set_option maxRecDepth 100000 in
theorem become_c (b : Nat) (v : Wv) (x : Int) (w : World) (h : Rt 45 w b v) (z0 : 0 ≤ v.z) (z1 : v.z ≤ 65535) : Calls Try.prog 23 #[.pointer (some ⟨b, 0, none⟩), .int .i64 x] w fun e w' => e = .returned (.tuple #[]) ∧ Rt 45 w' b (v.become x) ∧ Tn b w w' := by
  obtain ⟨c0, c1, c2, c3, c4, c5, c6, c7, c8⟩ := h.cells
  have f2 := h.frozen 2
  have i1 : IntKind.i64.wrap (2 * v.z) = 2 * v.z := wrp _ (by omega) (by omega)
  have HR : Aside (Rt 45 _ b (v.become x)) := h.set 2 (.int .i64 (cl x (2 * v.z) 1073741824)) (v.become x) rfl
  have HT : Aside _ := Tn.set h 2 (.int .i64 (cl x (2 * v.z) 1073741824))
  have hb := between_c x (2 * v.z) 1073741824 w
  clear h
  go_enter Try.func23, Try.ntmps23
  go_wp2_with fail
  refine hb.mono ?_
  rintro e w' ⟨rfl, hw⟩
  subst w'
  go_wp2
  go_end0
  exact ⟨rfl, HR.out, HT.out⟩
theorem Wv.become_ok (v : Wv) (x : Int) (h : v.ok) : (v.become x).ok := by
  obtain ⟨k0, z0, z1, b0, b1, s0, e0⟩ := h
  refine ⟨k0, z0, z1, ?_, ?_, s0, e0⟩ <;> simp only [Wv.become, cl] <;> omega
/-- A cubic's window leaves its curve. -/
def Wv.leave (v : Wv) : Wv := { ({ v with p := if v.b < v.p then 17 * v.b / 20 else v.b } : Wv).become (7 * v.b / 10) with e := -1 }
theorem Wv.leave_ok (v : Wv) (h : v.ok) : v.leave.ok := by
  have h1 : ({ v with p := if v.b < v.p then 17 * v.b / 20 else v.b } : Wv).ok := ⟨h.k0, h.z0, h.z1, h.b0, h.b1, h.s0, h.e0⟩
  obtain ⟨k0, z0, z1, b0, b1, s0, e0⟩ := Wv.become_ok _ (7 * v.b / 10) h1
  exact ⟨k0, z0, z1, b0, b1, s0, .inl rfl⟩
set_option maxRecDepth 100000 in
theorem leave_c (b : Nat) (v : Wv) (w : World) (h : Rt 45 w b v) (ho : v.ok) : Calls Try.prog 27 #[.pointer (some ⟨b, 0, none⟩)] w fun e w' => e = .returned (.tuple #[]) ∧ Rt 45 w' b v.leave ∧ Tn b w w' := by
  obtain ⟨c0, c1, c2, c3, c4, c5, c6, c7, c8⟩ := h.cells
  obtain ⟨k0, z0, z1, b0, b1, s0, e0⟩ := ho
  have i1 : IntKind.i64.wrap (17 * v.b) = 17 * v.b := wrp _ (by omega) (by omega)
  have i2 : (17 * v.b).tdiv 20 = 17 * v.b / 20 := Int.tdiv_eq_ediv_of_nonneg (by omega)
  have i3 : IntKind.i64.wrap (17 * v.b / 20) = 17 * v.b / 20 := wrp _ (by omega) (by omega)
  have i4 : IntKind.i64.wrap (7 * v.b) = 7 * v.b := wrp _ (by omega) (by omega)
  have i5 : (7 * v.b).tdiv 10 = 7 * v.b / 10 := Int.tdiv_eq_ediv_of_nonneg (by omega)
  have i6 : IntKind.i64.wrap (7 * v.b / 10) = 7 * v.b / 10 := wrp _ (by omega) (by omega)
  obtain ⟨P, hP⟩ : ∃ P, (if v.b < v.p then 17 * v.b / 20 else v.b) = P := ⟨_, rfl⟩
  have HL : Aside (v.leave = { ({ v with p := P } : Wv).become (7 * v.b / 10) with e := -1 }) := by show v.leave = _; unfold Wv.leave; rw [hP]
  have HH : Aside (∀ X : World, Below w.heap.size w X → ∃ X', X' = X.setCell ⟨b, 5, none⟩ (.int .i64 P) ∧ X.frozen? ⟨b, 5, none⟩ = false ∧ X.cell? ⟨b, 5, none⟩ = some (.int .i64 v.p) ∧ X.cell? ⟨b, 2, none⟩ = some (.int .i64 v.b) ∧ X'.cell? ⟨b, 2, none⟩ = some (.int .i64 v.b) ∧ Aside (Calls Try.prog 23 #[.pointer (some ⟨b, 0, none⟩), .int .i64 (7 * v.b / 10)] X' fun e w' => e = .returned (.tuple #[]) ∧ Rt 45 w' b (({ v with p := P } : Wv).become (7 * v.b / 10)) ∧ Tn b w w')) := by
    intro X hX
    have hx := h.below hX
    have r1 := hx.set 5 (.int .i64 P) { v with p := P } rfl
    have t1 := (Tn.below hX).trans (Tn.set hx 5 (.int .i64 P))
    refine ⟨_, rfl, hx.frozen 5, hx.cells.2.2.2.2.2.1, hx.cells.2.2.1, r1.cells.2.2.1, ?_⟩
    refine (become_c b _ (7 * v.b / 10) _ r1 (by simp only; omega) (by simp only; omega)).mono ?_
    rintro e w' ⟨rfl, hr, ht⟩
    exact ⟨rfl, hr, t1.trans ht⟩
  clear h
  by_cases hc : v.b < v.p
  · rw [if_pos hc] at hP
    subst hP
    go_enter Try.func27, Try.ntmps27
    go_wp2_with fail
    go_quiet (fail)
    obtain ⟨X', hX', g1, g2, g3, g4, HC⟩ := HH.out (w.drewN nq) (below_drewN (Below.refl _ w) _)
    clear HH
    generalize w.drewN nq = X at *
    subst hX'
    have HC' : Aside _ := HC.out
    go_wp2_with fail
    refine Calls.mono HC'.out ?_
    rintro e w3 ⟨rfl, hr3, ht3⟩
    have f6 := hr3.frozen 6
    have d6 := hr3.cells.2.2.2.2.2.2.1
    have HR : Aside (Rt 45 (w3.setCell ⟨b, 6, none⟩ (.int .i64 (-1))) b v.leave) := by show Rt 45 _ b v.leave; rw [HL.out]; exact hr3.set 6 (.int .i64 (-1)) _ rfl
    have HT : Aside _ := Tn.trans ht3 (Tn.set hr3 6 (.int .i64 (-1)))
    clear hr3 ht3
    go_wp2
    go_end0
    exact ⟨rfl, HR.out, HT.out⟩
  · rw [if_neg hc] at hP
    subst hP
    go_enter Try.func27, Try.ntmps27
    go_wp2_with fail
    go_quiet (fail)
    obtain ⟨X', hX', g1, g2, g3, g4, HC⟩ := HH.out (w.drewN nq) (below_drewN (Below.refl _ w) _)
    clear HH
    generalize w.drewN nq = X at *
    subst hX'
    have HC' : Aside _ := HC.out
    go_wp2_with fail
    refine Calls.mono HC'.out ?_
    rintro e w3 ⟨rfl, hr3, ht3⟩
    have f6 := hr3.frozen 6
    have d6 := hr3.cells.2.2.2.2.2.2.1
    have HR : Aside (Rt 45 (w3.setCell ⟨b, 6, none⟩ (.int .i64 (-1))) b v.leave) := by show Rt 45 _ b v.leave; rw [HL.out]; exact hr3.set 6 (.int .i64 (-1)) _ rfl
    have HT : Aside _ := Tn.trans ht3 (Tn.set hr3 6 (.int .i64 (-1)))
    clear hr3 ht3
    go_wp2
    go_end0
    exact ⟨rfl, HR.out, HT.out⟩
/-- Nothing arrived for long. -/
def Wv.coll (v : Wv) : Wv := { v.become 0 with r := -1, e := -1 }
theorem Wv.coll_ok (v : Wv) (h : v.ok) : v.coll.ok := by
  obtain ⟨k0, z0, z1, b0, b1, s0, e0⟩ := Wv.become_ok v 0 h
  exact ⟨k0, z0, z1, b0, b1, s0, .inl rfl⟩
set_option maxRecDepth 100000 in
theorem collapse_c (b : Nat) (v : Wv) (w : World) (h : Rt 45 w b v) (ho : v.ok) : Calls Try.prog 16 #[.pointer (some ⟨b, 0, none⟩)] w fun e w' => e = .returned (.tuple #[]) ∧ Rt 45 w' b v.coll ∧ Tn b w w' := by
  have hn := none_c b v w h ho
  have hbc := become_c b v 0 w h (by have := ho.z0; omega) ho.z1
  go_enter Try.func16, Try.ntmps16
  go_wp2_with fail
  refine hn.mono ?_
  rintro e w' ⟨rfl, hw⟩
  subst w'
  go_wp2_with fail
  refine hbc.mono ?_
  rintro e w1 ⟨rfl, hr, ht⟩
  have f4 := hr.frozen 4
  have f6 := hr.frozen 6
  obtain ⟨d0, d1, d2, d3, d4, d5, d6, d7, d8⟩ := hr.cells
  have r1 := hr.set 4 (.int .i64 (-1)) { v.become 0 with r := -1 } rfl
  have r2 := r1.set 6 (.int .i64 (-1)) v.coll rfl
  have HR : Aside _ := r2
  have HT : Aside _ := (ht.trans (Tn.set hr 4 (.int .i64 (-1)))).trans (Tn.set r1 6 (.int .i64 (-1)))
  clear hr ht r1 r2 hn hbc h
  go_wp2
  go_end0
  exact ⟨rfl, HR.out, HT.out⟩
/-- Something was lost. -/
def Wv.lost1 (v : Wv) : Wv := if v.k = 0 then v.become (v.b / 2) else v.leave
def Wv.lost (v : Wv) (s t : Int) : Int × Wv :=
  if ¬ ((0 ≤ s ∧ s ≤ 1125899906842624) ∧ 0 ≤ t ∧ t ≤ 1125899906842624) then (2, v)
  else if s ≤ v.r then (0, v)
  else (0, { v.lost1 with r := t, s := v.lost1.b })
theorem Wv.lost1_ok (v : Wv) (h : v.ok) : v.lost1.ok ∧ v.lost1.z = v.z := by
  unfold Wv.lost1
  split
  · exact ⟨v.become_ok _ h, rfl⟩
  · exact ⟨v.leave_ok h, rfl⟩
theorem Wv.lost_ok (v : Wv) (s t : Int) (h : v.ok) : (v.lost s t).2.ok := by
  unfold Wv.lost
  split
  · exact h
  · split
    · exact h
    · obtain ⟨⟨k0, z0, z1, b0, b1, s0, e0⟩, _⟩ := v.lost1_ok h
      exact ⟨k0, z0, z1, b0, b1, .inr b0, e0⟩
set_option maxRecDepth 100000 in
theorem lost_end (b : Nat) (v : Wv) (t : Int) (w w1 : World) (hr : Rt 45 w1 b v) (ht : Tn b w w1) :
    Rt 45 ((w1.setCell ⟨b, 4, none⟩ (.int .i64 t)).setCell ⟨b, 3, none⟩ (.int .i64 v.b)) b { v with r := t, s := v.b } ∧ Tn b w ((w1.setCell ⟨b, 4, none⟩ (.int .i64 t)).setCell ⟨b, 3, none⟩ (.int .i64 v.b)) := by
  have r1 := hr.set 4 (.int .i64 t) { v with r := t } rfl
  have r2 := r1.set 3 (.int .i64 v.b) { v with r := t, s := v.b } rfl
  exact ⟨r2, (ht.trans (Tn.set hr 4 (.int .i64 t))).trans (Tn.set r1 3 (.int .i64 v.b))⟩
set_option maxRecDepth 100000 in
theorem lost_c (b : Nat) (v : Wv) (s t : Int) (w : World) (h : Rt 45 w b v) (ho : v.ok) : Calls Try.prog 14 #[.pointer (some ⟨b, 0, none⟩), .int .i64 s, .int .i64 t] w fun e w' => e = .returned (.int .i64 (v.lost s t).1) ∧ Rt 45 w' b (v.lost s t).2 ∧ Tn b w w' := by
  have hn := none_c b v w h ho
  have hs := isTime_c s w
  have ht := isTime_c t w
  obtain ⟨c0, c1, c2, c3, c4, c5, c6, c7, c8⟩ := h.cells
  have HL : Aside (v.lost s t = if ¬ ((0 ≤ s ∧ s ≤ 1125899906842624) ∧ 0 ≤ t ∧ t ≤ 1125899906842624) then (2, v) else if s ≤ v.r then (0, v) else (0, { v.lost1 with r := t, s := v.lost1.b })) := rfl
  generalize v.lost s t = Q at *
  have HH : Aside _ := h
  clear h
  by_cases q1 : 0 ≤ s ∧ s ≤ 1125899906842624
  · rw [decide_eq_true q1] at hs
    by_cases q2 : 0 ≤ t ∧ t ≤ 1125899906842624
    · rw [decide_eq_true q2] at ht
      have HL2 : Aside (Q = if s ≤ v.r then (0, v) else (0, { v.lost1 with r := t, s := v.lost1.b })) := by
        show Q = _
        rw [HL.out, if_neg (by intro hq; exact hq ⟨q1, q2⟩)]
      clear HL
      by_cases q3 : s ≤ v.r
      · have HF : Aside (Q = (0, v)) := by show Q = _; rw [HL2.out, if_pos q3]
        clear HL2 q1 q2
        go_enter Try.func14, Try.ntmps14
        go_wp2_with fail
        refine hn.mono ?_
        rintro e w' ⟨rfl, hw⟩
        subst w'
        go_wp2_with fail
        refine hs.mono ?_
        rintro e w' ⟨rfl, hw⟩
        subst w'
        go_wp2_with fail
        refine ht.mono ?_
        rintro e w' ⟨rfl, hw⟩
        subst w'
        clear hn hs ht
        go_wp2
        go_ret
        rw [HF.out]
        exact ⟨rfl, HH.out, Tn.refl _ _⟩
      · have HF : Aside (Q = (0, { v.lost1 with r := t, s := v.lost1.b })) := by show Q = _; rw [HL2.out, if_neg q3]
        have hok1 := v.lost1_ok ho
        have hv1 : v.lost1 = if v.k = 0 then v.become (v.b / 2) else v.leave := rfl
        generalize v.lost1 = V at *
        clear HL2 q1 q2
        by_cases q4 : v.k = 0
        · rw [if_pos q4] at hv1
          have hbc := become_c b v (v.b / 2) w HH.out (by have := ho.z0; omega) ho.z1
          rw [← hv1] at hbc
          have i1 : v.b.tdiv 2 = v.b / 2 := Int.tdiv_eq_ediv_of_nonneg (by have := ho.z0; have := ho.b0; omega)
          have i2 : IntKind.i64.wrap (v.b / 2) = v.b / 2 := wrp _ (by have := ho.z0; have := ho.b0; omega) (by have := ho.b1; omega)
          have HV : Aside _ := hv1
          clear hv1 hok1 ho
          go_enter Try.func14, Try.ntmps14
          go_wp2_with fail
          refine hn.mono ?_
          rintro e w' ⟨rfl, hw⟩
          subst w'
          go_wp2_with fail
          refine hs.mono ?_
          rintro e w' ⟨rfl, hw⟩
          subst w'
          go_wp2_with fail
          refine ht.mono ?_
          rintro e w' ⟨rfl, hw⟩
          subst w'
          clear hn hs ht
          go_wp2_with fail
          refine hbc.mono ?_
          rintro e w1 ⟨rfl, hr, htn⟩
          obtain ⟨d0, d1, d2, d3, d4, d5, d6, d7, d8⟩ := hr.cells
          have f4 := hr.frozen 4
          have f3 := hr.frozen 3
          have HE : Aside _ := lost_end b V t w w1 hr htn
          clear hr htn hbc c0 c1 c2 c3 c4 c5 c6 c7 c8
          go_wp2
          go_ret
          rw [HF.out]
          exact ⟨rfl, HE.out⟩
        · rw [if_neg q4] at hv1
          have hbc := leave_c b v w HH.out ho
          rw [← hv1] at hbc
          have HV : Aside _ := hv1
          clear hv1 hok1 ho
          go_enter Try.func14, Try.ntmps14
          go_wp2_with fail
          refine hn.mono ?_
          rintro e w' ⟨rfl, hw⟩
          subst w'
          go_wp2_with fail
          refine hs.mono ?_
          rintro e w' ⟨rfl, hw⟩
          subst w'
          go_wp2_with fail
          refine ht.mono ?_
          rintro e w' ⟨rfl, hw⟩
          subst w'
          clear hn hs ht
          go_wp2_with fail
          refine hbc.mono ?_
          rintro e w1 ⟨rfl, hr, htn⟩
          obtain ⟨d0, d1, d2, d3, d4, d5, d6, d7, d8⟩ := hr.cells
          have f4 := hr.frozen 4
          have f3 := hr.frozen 3
          have HE : Aside _ := lost_end b V t w w1 hr htn
          clear hr htn hbc c0 c1 c2 c3 c4 c5 c6 c7 c8
          go_wp2
          go_ret
          rw [HF.out]
          exact ⟨rfl, HE.out⟩
    · have HF : Aside (Q = (2, v)) := by show Q = _; rw [HL.out, if_pos (fun hq => q2 hq.2)]
      rw [decide_eq_false q2] at ht
      clear HL q1 q2
      go_enter Try.func14, Try.ntmps14
      go_wp2_with fail
      refine hn.mono ?_
      rintro e w' ⟨rfl, hw⟩
      subst w'
      go_wp2_with fail
      refine hs.mono ?_
      rintro e w' ⟨rfl, hw⟩
      subst w'
      go_wp2_with fail
      refine ht.mono ?_
      rintro e w' ⟨rfl, hw⟩
      subst w'
      clear hn hs ht
      go_wp2
      go_ret
      rw [HF.out]
      exact ⟨rfl, HH.out, Tn.refl _ _⟩
  · have HF : Aside (Q = (2, v)) := by show Q = _; rw [HL.out, if_pos (fun hq => q1 hq.1)]
    rw [decide_eq_false q1] at hs
    clear HL q1 ht
    go_enter Try.func14, Try.ntmps14
    go_wp2_with fail
    refine hn.mono ?_
    rintro e w' ⟨rfl, hw⟩
    subst w'
    go_wp2_with fail
    refine hs.mono ?_
    rintro e w' ⟨rfl, hw⟩
    subst w'
    clear hn hs
    go_wp2
    go_ret
    rw [HF.out]
    exact ⟨rfl, HH.out, Tn.refl _ _⟩
/-- A new window. -/
def wv0 (k z : Int) : Wv := ⟨k, z, min (10 * z) (max (2 * z) 14720), -1, -1, 0, -1, 0, 0⟩
theorem wv0_ok (k z : Int) (hk : k = 0 ∨ k = 1) (h0 : 1200 ≤ z) (h1 : z ≤ 65535) : (wv0 k z).ok := by
  unfold wv0
  refine ⟨hk, h0, h1, ?_, ?_, .inl rfl, .inl rfl⟩ <;> simp only <;> omega
set_option maxRecDepth 100000 in
theorem new_no (k z : Int) (w : World) (h : ¬ ((k = 0 ∨ k = 1) ∧ 1200 ≤ z ∧ z ≤ 65535)) : Calls Try.prog 8 #[.int .i64 k, .int .i64 z] w fun e w' => e = .returned (.tuple #[.pointer none, .int .i64 2]) ∧ w' = w := by
  by_cases h0 : k = 0
  · subst h0
    by_cases h2 : z < 1200
    · clear h
      go_enter Try.func8, Try.ntmps8
      go_wp2
      go_ret2
      exact ⟨rfl, rfl⟩
    · have h3 : 65535 < z := by omega
      clear h
      go_enter Try.func8, Try.ntmps8
      go_wp2
      go_ret2
      exact ⟨rfl, rfl⟩
  · by_cases h1 : k = 1
    · subst h1
      by_cases h2 : z < 1200
      · clear h
        go_enter Try.func8, Try.ntmps8
        go_wp2
        go_ret2
        exact ⟨rfl, rfl⟩
      · have h3 : 65535 < z := by omega
        clear h
        go_enter Try.func8, Try.ntmps8
        go_wp2
        go_ret2
        exact ⟨rfl, rfl⟩
    · clear h
      go_enter Try.func8, Try.ntmps8
      go_wp2
      go_ret2
      exact ⟨rfl, rfl⟩
set_option maxRecDepth 100000 in
theorem new_c (k z : Int) (w : World) (hk : k = 0 ∨ k = 1) (h0 : 1200 ≤ z) (h1 : z ≤ 65535) : Calls Try.prog 8 #[.int .i64 k, .int .i64 z] w fun e w' => e = .returned (.tuple #[.pointer (some ⟨w.heap.size, 0, none⟩), .int .i64 0]) ∧ Rt 45 w' w.heap.size (wv0 k z) ∧ Below w.heap.size w w' := by
  have i1 : IntKind.i64.wrap (10 * z) = 10 * z := wrp _ (by omega) (by omega)
  have i2 : IntKind.i64.wrap (2 * z) = 2 * z := wrp _ (by omega) (by omega)
  have i3 := max_if (2 * z) 14720
  have i4 := min_if (10 * z) (max (2 * z) 14720)
  have n0 : ¬ z < 1200 := by omega
  have n1 : ¬ 65535 < z := by omega
  have HN : Aside (Rt 45 (w.alloc (.cells (wv0 k z).cs 45)) w.heap.size (wv0 k z)) := heap_alloc_new w _
  rcases hk with rfl | rfl
  · go_enter Try.func8, Try.ntmps8
    go_wp2
    go_ret2
    exact ⟨rfl, HN.out, bel1 w _⟩
  · go_enter Try.func8, Try.ntmps8
    go_wp2
    go_ret2
    exact ⟨rfl, HN.out, bel1 w _⟩
end Go.Proofs.Ytphkgijimbkgeaa
