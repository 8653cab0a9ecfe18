/- pacer: a pacer as it lies; none, rate, coming and its closure, Budget. -/
import Derived.Test.YtogoifaoblbejaaNob
import Derived.Deep.QuietTactic
import Derived.BigQuiet
import Derived.WalkSmall
import Derived.Deep.RegionWith
import Derived.Deep.RegionHeld3
namespace Go.Proofs.Ytogoifaoblbejaa
open Go.RowKit
set_option linter.unusedVariables false

theorem wrp (x : Int) (h0 : -9223372036854775808 ≤ x) (h1 : x ≤ 9223372036854775807) : IntKind.i64.wrap x = x := by rw [IntKind.wrap_i64]; omega
theorem max_if (a b : Int) : (if a < b then b else a) = max a b := by omega
theorem min_if (a b : Int) : (if b < a then b else a) = min a b := by omega
/-- A pacer: burst, bytes, at. -/
structure Pv where
  z : Int
  b : Int
  t : Int
def Pv.cs (v : Pv) : Array Value := #[.int .i64 v.z, .int .i64 v.b, .int .i64 v.t]
/-- A pacer in block b. -/
def Rt (w : World) (b : Nat) (v : Pv) : Prop := w.heap[b]? = some (.cells v.cs 42 (0, 0))
theorem Rt.lt {w : World} {b : Nat} {v : Pv} (h : Rt w b v) : b < w.heap.size := (Array.getElem?_eq_some_iff.1 h).1
theorem Rt.cells {w : World} {b : Nat} {v : Pv} (h : Rt w b v) : w.cell? ⟨b, 0, none⟩ = some (.int .i64 v.z) ∧ w.cell? ⟨b, 1, none⟩ = some (.int .i64 v.b) ∧ w.cell? ⟨b, 2, none⟩ = some (.int .i64 v.t) := by
  have h' : w.heap[b]? = _ := h
  refine ⟨?_, ?_, ?_⟩ <;> simp [World.cell?, h', Pv.cs]
theorem Rt.frozen {w : World} {b : Nat} {v : Pv} (h : Rt w b v) (j : Nat) : w.frozen? ⟨b, j, none⟩ = false := by
  have h' : w.heap[b]? = _ := h
  simp [World.frozen?, h']
theorem Rt.below {w w' : World} {b : Nat} {v : Pv} (h : Rt w b v) (hb : Below w.heap.size w w') : Rt w' b v := (hb.block b h.lt).trans h
theorem Rt.set {w : World} {b : Nat} {v : Pv} (h : Rt w b v) (j : Nat) (x : Value) (v' : Pv) (he : v.cs.setIfInBounds j x = v'.cs) : Rt (w.setCell ⟨b, j, none⟩ x) b v' := by
  have h' : w.heap[b]? = some (.cells v.cs 42 (0, 0)) := h
  show (w.setCell ⟨b, j, none⟩ x).heap[b]? = _
  rw [setCell_eq_setRow w b j _ 42 (0, 0) _ h', setRow_heap w b _ _ 42 (0, 0) h', he]
/-- Nothing but block b has turned, or is new. -/
def Tn (b : Nat) (w w' : World) : Prop := w'.os = w.os ∧ w'.tape = w.tape ∧ w'.output = w.output ∧ w.heap.size ≤ w'.heap.size ∧ ∀ k, k < w.heap.size → k ≠ b → w'.heap[k]? = w.heap[k]?
theorem Tn.refl (b : Nat) (w : World) : Tn b w w := ⟨rfl, rfl, rfl, Nat.le_refl _, fun _ _ _ => rfl⟩
theorem Tn.trans {b : Nat} {x y z : World} (h : Tn b x y) (k : Tn b y z) : Tn b x z :=
  ⟨k.1.trans h.1, k.2.1.trans h.2.1, k.2.2.1.trans h.2.2.1, Nat.le_trans h.2.2.2.1 k.2.2.2.1, fun j hj hs => (k.2.2.2.2 j (Nat.lt_of_lt_of_le hj h.2.2.2.1) hs).trans (h.2.2.2.2 j hj hs)⟩
theorem Tn.below {b : Nat} {x y : World} (h : Below x.heap.size x y) : Tn b x y := ⟨h.os, h.tape, h.output, h.size, fun k hk _ => h.block k hk⟩
theorem Tn.set {b : Nat} {w : World} {v : Pv} (h : Rt w b v) (j : Nat) (x : Value) : Tn b w (w.setCell ⟨b, j, none⟩ x) := by
  rw [setCell_eq_setRow w b j _ 42 (0, 0) _ h]
  exact ⟨rfl, rfl, rfl, by simp, fun k hk hs => setRow_other w b k _ hs⟩
theorem Tn.toBelow {b n : Nat} {x y : World} (h : Tn b x y) (hn : n ≤ x.heap.size) (hb : n ≤ b) : Below n x y := ⟨h.1, h.2.1, h.2.2.1, h.2.2.2.1, fun k hk => h.2.2.2.2 k (by omega) (by omega)⟩
/-- Pacers as New and Sent make them. -/
structure Pv.ok (v : Pv) : Prop where
  z0 : 12000 ≤ v.z
  z1 : v.z ≤ 655350
  b0 : 0 ≤ v.b
  b1 : v.b ≤ v.z
  t0 : 0 ≤ v.t
  t1 : v.t ≤ 1125899906842624

/-- The closest number from lo to hi. -/
def cl (n lo hi : Int) : Int := min (max n lo) hi
set_option maxRecDepth 100000 in
theorem between_c (n lo hi : Int) (w : World) : Calls Try.prog 16 #[.int .i64 n, .int .i64 lo, .int .i64 hi] w fun e w' => e = .returned (.int .i64 (cl n lo hi)) ∧ w' = w := by
  have i2 := max_if n lo
  have i3 := min_if (max n lo) hi
  go_enter Try.func16, Try.ntmps16
  go_wp2
  go_ret
  exact ⟨rfl, rfl⟩
set_option maxRecDepth 100000 in
theorem none_c (b : Nat) (v : Pv) (w : World) (h : Rt w b v) (ho : v.ok) : Calls Try.prog 17 #[.pointer (some ⟨b, 0, none⟩)] w fun e w' => e = .returned (.bool false) ∧ w' = w := by
  obtain ⟨c0, c1, c2⟩ := h.cells
  have hq : ∀ w, (binOp .eql 42 (.agg #[.int .i64 v.z, .int .i64 v.b, .int .i64 v.t]) (.agg #[.int .i64 0, .int .i64 0, .int .i64 0])).run Try.prog w = .ok (.bool false) w := by
    intro w
    rw [eq42, decide_eq_false]
    rintro ⟨hz, _⟩
    have := ho.z0
    omega
  go_enter Try.func17, Try.ntmps17
  go_wp2
  go_ret
  exact ⟨rfl, rfl⟩
/-- How many bytes come in, in how many microseconds. -/
def pt (w : Int) : Int := 5 * min w 1073741824
def rd (r : Int) : Int := 4 * cl r 1 1125899906842624
theorem pt_b {w : Int} (h : 0 ≤ w) : 0 ≤ pt w ∧ pt w ≤ 5368709120 := by unfold pt; omega
theorem rd_b (r : Int) : 4 ≤ rd r ∧ rd r ≤ 4503599627370496 := by unfold rd cl; omega
set_option maxRecDepth 100000 in
theorem rate_c (v r : Int) (w : World) (h : 0 ≤ v) : Calls Try.prog 22 #[.int .i64 v, .int .i64 r] w fun e w' => e = .returned (.tuple #[.int .i64 (pt v), .int .i64 (rd r)]) ∧ w' = w := by
  have i1 := min_if v 1073741824
  have i2 : IntKind.i64.wrap (5 * min v 1073741824) = pt v := wrp _ (by omega) (by omega)
  have i3 : IntKind.i64.wrap (4 * cl r 1 1125899906842624) = rd r := wrp _ (by unfold cl; omega) (by unfold cl; omega)
  go_enter Try.func22, Try.ntmps22
  go_wp2_with fail
  refine (between_c r 1 1125899906842624 w).mono ?_
  rintro e w' ⟨rfl, hw⟩
  subst w'
  go_wp2
  go_ret2
  exact ⟨rfl, rfl⟩
set_option maxRecDepth 100000 in
theorem coming_c (b : Nat) (v r : Int) (w : World) (h : 0 ≤ v) : Calls Try.prog 20 #[.pointer (some ⟨b, 0, none⟩), .int .i64 v, .int .i64 r] w fun e w' => e = .returned (.func (.func 23) #[] #[.pointer (some ⟨w.heap.size, 0, none⟩), .pointer (some ⟨w.heap.size + 1, 0, none⟩), .pointer (some ⟨w.heap.size + 1 + 1, 0, none⟩)]) ∧ Below w.heap.size w w' ∧ w'.cell? ⟨w.heap.size, 0, none⟩ = some (.pointer (some ⟨b, 0, none⟩)) ∧ w'.cell? ⟨w.heap.size + 1, 0, none⟩ = some (.int .i64 (pt v)) ∧ w'.cell? ⟨w.heap.size + 1 + 1, 0, none⟩ = some (.int .i64 (rd r)) := by
  have hmf : ∀ (fn : Fn) (first cap : Array Value) (w : World), (Instr.makeFunc fn first cap).run Try.prog w = .ok (.func fn first cap) w := fun _ _ _ _ => rfl
  have hrt := rate_c v r (w.alloc (.cells #[.pointer (some ⟨b, 0, none⟩)] 23)) h
  generalize pt v = P at *
  generalize rd r = R at *
  go_enter Try.func20, Try.ntmps20
  go_wp2_with fail
  refine hrt.mono ?_
  rintro e w' ⟨rfl, hw⟩
  subst w'
  go_wp2
  go_ret
  refine ⟨rfl, ((bel_trans (bel_trans (bel1 _ _) (bel1 _ _)) (bel1 _ _))), ?_, ?_, ?_⟩ <;> simp [go_sem]
/-- What came in. -/
def inn (t0 t v r : Int) : Int := cl (t - t0) 0 1073741824 * pt v / rd r
theorem inn_b {t0 t v r : Int} (h : 0 ≤ v) : 0 ≤ inn t0 t v r ∧ inn t0 t v r ≤ 1441151880758558720 ∧ 0 ≤ cl (t - t0) 0 1073741824 * pt v ∧ cl (t - t0) 0 1073741824 * pt v ≤ 5764607523034234880 := by
  obtain ⟨p0, p1⟩ := pt_b h
  obtain ⟨r0, r1⟩ := rd_b r
  have c0 : 0 ≤ cl (t - t0) 0 1073741824 := by unfold cl; omega
  have c1 : cl (t - t0) 0 1073741824 ≤ 1073741824 := by unfold cl; omega
  have m0 : 0 ≤ cl (t - t0) 0 1073741824 * pt v := Int.mul_nonneg c0 p0
  have m1 : cl (t - t0) 0 1073741824 * pt v ≤ 1073741824 * 5368709120 := Int.mul_le_mul c1 p1 p0 (by decide)
  refine ⟨Int.ediv_nonneg m0 (by omega), ?_, m0, by omega⟩
  unfold inn
  refine Int.ediv_le_of_le_mul (by omega) ?_
  have : 1441151880758558720 * 4 ≤ 1441151880758558720 * rd r := Int.mul_le_mul_of_nonneg_left r0 (by decide)
  omega
set_option maxRecDepth 100000 in
theorem clos_c (b a c d : Nat) (t0 t v r : Int) (w : World) (hv : 0 ≤ v) (a0 : 0 ≤ t0) (a1 : t0 ≤ 1125899906842624) (t0' : 0 ≤ t) (t1 : t ≤ 9223372036854775807)
    (hb : w.cell? ⟨b, 2, none⟩ = some (.int .i64 t0)) (ha : w.cell? ⟨a, 0, none⟩ = some (.pointer (some ⟨b, 0, none⟩))) (hc : w.cell? ⟨c, 0, none⟩ = some (.int .i64 (pt v))) (hd : w.cell? ⟨d, 0, none⟩ = some (.int .i64 (rd r))) :
    Calls Try.prog 23 #[.int .i64 t, .pointer (some ⟨a, 0, none⟩), .pointer (some ⟨c, 0, none⟩), .pointer (some ⟨d, 0, none⟩)] w fun e w' => e = .returned (.int .i64 (inn t0 t v r)) ∧ Below w.heap.size w w' := by
  obtain ⟨q0, q1, q2, q3⟩ := inn_b (t0 := t0) (t := t) (v := v) (r := r) hv
  have i1 : IntKind.i64.wrap (t - t0) = t - t0 := wrp _ (by omega) (by omega)
  have i2 : IntKind.i64.wrap (cl (t - t0) 0 1073741824 * pt v) = cl (t - t0) 0 1073741824 * pt v := wrp _ (by omega) (by omega)
  have i3 : (cl (t - t0) 0 1073741824 * pt v).tdiv (rd r) = inn t0 t v r := Int.tdiv_eq_ediv_of_nonneg q2
  have i4 : IntKind.i64.wrap (inn t0 t v r) = inn t0 t v r := wrp _ (by omega) (by omega)
  have i5 : (rd r == 0) = false := by have := (rd_b r).1; simp; omega
  have HBt : Aside (∀ X, Calls Try.prog 16 #[.int .i64 (t - t0), .int .i64 0, .int .i64 1073741824] X fun e w' => e = .returned (.int .i64 (cl (t - t0) 0 1073741824)) ∧ w' = X) := fun X => between_c _ _ _ X
  generalize inn t0 t v r = I at *
  generalize cl (t - t0) 0 1073741824 = C at *
  generalize pt v = P at *
  have i6 : ¬ rd r = 0 := by have := (rd_b r).1; omega
  generalize rd r = R at *
  have hb' : w.drew.cell? ⟨b, 2, none⟩ = some (.int .i64 t0) := hb
  have ha' : w.drew.cell? ⟨a, 0, none⟩ = some (.pointer (some ⟨b, 0, none⟩)) := ha
  have hc' : w.drew.cell? ⟨c, 0, none⟩ = some (.int .i64 P) := hc
  have hd' : w.drew.cell? ⟨d, 0, none⟩ = some (.int .i64 R) := hd
  clear hb ha hc hd q0 q1 q2 q3
  go_enter Try.func23, Try.ntmps23
  go_wp2_with fail
  go_region_held3 (fun w' => w'.cell? ⟨b, 2, none⟩ = some (.int .i64 t0) ∧ w'.cell? ⟨a, 0, none⟩ = some (.pointer (some ⟨b, 0, none⟩)) ∧ w'.cell? ⟨c, 0, none⟩ = some (.int .i64 P) ∧ w'.cell? ⟨d, 0, none⟩ = some (.int .i64 R)) (exact ⟨hb', ha', hc', hd'⟩) (first | (go_at_call 16; refine Calls.mono (HBt.out _) ?_; rintro e w4 ⟨rfl, hw4⟩; subst w4))
  go_wp2
  go_ret
  exact ⟨rfl, (Below.refl _ _).drew⟩
end Go.Proofs.Ytogoifaoblbejaa
