/- rtt: an estimate as it lies; none, Told, Wait, Late, New. -/
import Derived.Test.YthjfhckpgindfaaBt
import Derived.WalkSmall
namespace Go.Proofs.Ythjfhckpgindfaa
open Go.RowKit
set_option linter.unusedVariables false

/-- An estimate: most, whether there is a sample, last, least, smooth, vary. -/
structure Rv where
  m : Int
  h : Bool
  a : Int
  l : Int
  s : Int
  y : Int
def Rv.cs (v : Rv) : Array Value := #[.int .i64 v.m, .bool v.h, .int .i64 v.a, .int .i64 v.l, .int .i64 v.s, .int .i64 v.y]
/-- An estimate in block b, as the program (43) or the reference (34) has it. -/
def Rt (t : TypeId) (w : World) (b : Nat) (v : Rv) : Prop := w.heap[b]? = some (.cells v.cs t (0, 0))
theorem Rt.lt {t : TypeId} {w : World} {b : Nat} {v : Rv} (h : Rt t w b v) : b < w.heap.size := (Array.getElem?_eq_some_iff.1 h).1
theorem Rt.cells {t : TypeId} {w : World} {b : Nat} {v : Rv} (h : Rt t w b v) : w.cell? ⟨b, 0, none⟩ = some (.int .i64 v.m) ∧ w.cell? ⟨b, 1, none⟩ = some (.bool v.h) ∧ w.cell? ⟨b, 2, none⟩ = some (.int .i64 v.a) ∧ w.cell? ⟨b, 3, none⟩ = some (.int .i64 v.l) ∧ w.cell? ⟨b, 4, none⟩ = some (.int .i64 v.s) ∧ w.cell? ⟨b, 5, none⟩ = some (.int .i64 v.y) := by
  have h' : w.heap[b]? = _ := h
  refine ⟨?_, ?_, ?_, ?_, ?_, ?_⟩ <;> simp [World.cell?, h', Rv.cs]
theorem Rt.frozen {t : TypeId} {w : World} {b : Nat} {v : Rv} (h : Rt t w b v) (j : Nat) : w.frozen? ⟨b, j, none⟩ = false := by
  have h' : w.heap[b]? = _ := h
  simp [World.frozen?, h']
theorem Rt.below {t : TypeId} {w w' : World} {b : Nat} {v : Rv} (h : Rt t w b v) (hb : Below w.heap.size w w') : Rt t w' b v := (hb.block b h.lt).trans h
theorem Rt.set {t : TypeId} {w : World} {b : Nat} {v : Rv} (h : Rt t w b v) (j : Nat) (x : Value) (v' : Rv) (he : v.cs.setIfInBounds j x = v'.cs) : Rt t (w.setCell ⟨b, j, none⟩ x) b v' := by
  have h' : w.heap[b]? = some (.cells v.cs t (0, 0)) := h
  show (w.setCell ⟨b, j, none⟩ x).heap[b]? = _
  rw [setCell_eq_setRow w b j _ t (0, 0) _ h', setRow_heap w b _ _ t (0, 0) h', he]
/-- Nothing but block b has turned, or is new. -/
def Tn (b : Nat) (w w' : World) : Prop := w'.os = w.os ∧ w'.tape = w.tape ∧ w'.output = w.output ∧ w.heap.size ≤ w'.heap.size ∧ ∀ k, k < w.heap.size → k ≠ b → w'.heap[k]? = w.heap[k]?
theorem Tn.refl (b : Nat) (w : World) : Tn b w w := ⟨rfl, rfl, rfl, Nat.le_refl _, fun _ _ _ => rfl⟩
theorem Tn.trans {b : Nat} {x y z : World} (h : Tn b x y) (k : Tn b y z) : Tn b x z :=
  ⟨k.1.trans h.1, k.2.1.trans h.2.1, k.2.2.1.trans h.2.2.1, Nat.le_trans h.2.2.2.1 k.2.2.2.1, fun j hj hs => (k.2.2.2.2 j (Nat.lt_of_lt_of_le hj h.2.2.2.1) hs).trans (h.2.2.2.2 j hj hs)⟩
theorem Tn.below {b : Nat} {x y : World} (h : Below x.heap.size x y) : Tn b x y := ⟨h.os, h.tape, h.output, h.size, fun k hk _ => h.block k hk⟩
theorem Tn.set {t : TypeId} {b : Nat} {w : World} {v : Rv} (h : Rt t w b v) (j : Nat) (x : Value) : Tn b w (w.setCell ⟨b, j, none⟩ x) := by
  rw [setCell_eq_setRow w b j _ t (0, 0) _ h]
  exact ⟨rfl, rfl, rfl, by simp, fun k hk hs => setRow_other w b k _ hs⟩
theorem Tn.toBelow {b n : Nat} {x y : World} (h : Tn b x y) (hn : n ≤ x.heap.size) (hb : n ≤ b) : Below n x y := ⟨h.1, h.2.1, h.2.2.1, h.2.2.2.1, fun k hk => h.2.2.2.2 k (by omega) (by omega)⟩
theorem Tn.rt {t : TypeId} {b c : Nat} {x y : World} {v : Rv} (h : Tn b x y) (hv : Rt t x c v) (hc : c ≠ b) : Rt t y c v := (h.2.2.2.2 c (Rt.lt hv) hc).trans hv

/-- The numbers are such as New and Sample make them. -/
structure Rv.ok (v : Rv) : Prop where
  m0 : 0 ≤ v.m
  m1 : v.m ≤ 1125899906842624
  a0 : 0 ≤ v.a
  a1 : v.a ≤ 1125899906842624
  l0 : 0 ≤ v.l
  l1 : v.l ≤ 1125899906842624
  s0 : 0 ≤ v.s
  s1 : v.s ≤ 1125899906842624
  y0 : 0 ≤ v.y
  y1 : v.y ≤ 1125899906842624
  al : v.h = true ∨ v.s = 333000

set_option maxRecDepth 100000 in
theorem none_c (b : Nat) (v : Rv) (w : World) (h : Rt 43 w b v) (ho : v.ok) : Calls Try.prog 18 #[.pointer (some ⟨b, 0, none⟩)] w fun e w' => e = .returned (.bool false) ∧ w' = w := by
  obtain ⟨c0, c1, c2, c3, c4, c5⟩ := h.cells
  have hq : ∀ w, (binOp .eql 43 (.agg #[.int .i64 v.m, .bool v.h, .int .i64 v.a, .int .i64 v.l, .int .i64 v.s, .int .i64 v.y]) (.agg #[.int .i64 0, .bool false, .int .i64 0, .int .i64 0, .int .i64 0, .int .i64 0])).run Try.prog w = .ok (.bool false) w := by
    intro w
    rw [eq43]
    congr 2
    rcases ho.al with e | e <;> simp [e]
  go_enter Try.func18, Try.ntmps18
  go_wp2
  go_ret
  exact ⟨rfl, rfl⟩

set_option maxRecDepth 100000 in
theorem told_c (b : Nat) (v : Rv) (w : World) (h : Rt 43 w b v) (ho : v.ok) : Calls Try.prog 10 #[.pointer (some ⟨b, 0, none⟩)] w fun e w' => e = .returned (.tuple #[.int .i64 v.a, .int .i64 v.l, .int .i64 v.s, .int .i64 v.y]) ∧ Below w.heap.size w w' := by
  obtain ⟨c0, c1, c2, c3, c4, c5⟩ := h.cells
  have hn := none_c b v w h ho
  clear h
  go_enter Try.func10, Try.ntmps10
  go_wp2_with fail
  refine hn.mono ?_
  rintro e w' ⟨rfl, hw⟩
  subst w'
  clear hn
  go_wp2_with fail
  go_quiet (fail)
  go_wp2
  refine bodyPost_ret (results_4 (fn := Try.f10) (a := 2) (b := 3) (c := 4) (d := 5) rfl _ _) rfl ?_
  exact ⟨rfl, below_drewN (Below.refl _ w) _⟩

def Rv.late (v : Rv) : Int := max (9 * max v.s v.a / 8) 1000
def Rv.base (v : Rv) (d : Bool) : Int := v.s + max (4 * v.y) 1000 + if d = true then v.m else 0
def Rv.wait (v : Rv) (t : Int) (d : Bool) : Int := v.base d * 2 ^ (min (max t 0) 10).toNat
theorem Rv.ok.base0 {v : Rv} (h : v.ok) (d : Bool) : 0 ≤ v.base d ∧ v.base d ≤ 7000000000000000 := by
  obtain ⟨_, _, _, _, _, _, _, _, _, _, _⟩ := h
  unfold Rv.base
  split <;> omega
theorem pow_le (K : Nat) (h : K ≤ 10) : (1 : Int) ≤ 2 ^ K ∧ (2 : Int) ^ K ≤ 1024 := by
  have : K = 0 ∨ K = 1 ∨ K = 2 ∨ K = 3 ∨ K = 4 ∨ K = 5 ∨ K = 6 ∨ K = 7 ∨ K = 8 ∨ K = 9 ∨ K = 10 := by omega
  rcases this with rfl | rfl | rfl | rfl | rfl | rfl | rfl | rfl | rfl | rfl | rfl <;> decide
theorem mul_pow (X : Int) (K : Nat) (h : K ≤ 10) (h0 : 0 ≤ X) (h1 : X ≤ 7000000000000000) : 0 ≤ X * 2 ^ K ∧ X * 2 ^ K ≤ 7168000000000000000 := by
  have : K = 0 ∨ K = 1 ∨ K = 2 ∨ K = 3 ∨ K = 4 ∨ K = 5 ∨ K = 6 ∨ K = 7 ∨ K = 8 ∨ K = 9 ∨ K = 10 := by omega
  rcases this with rfl | rfl | rfl | rfl | rfl | rfl | rfl | rfl | rfl | rfl | rfl <;> omega

set_option maxRecDepth 100000 in
theorem late_c (b : Nat) (v : Rv) (w : World) (h : Rt 43 w b v) (ho : v.ok) : Calls Try.prog 13 #[.pointer (some ⟨b, 0, none⟩)] w fun e w' => e = .returned (.int .i64 v.late) ∧ Below w.heap.size w w' := by
  obtain ⟨c0, c1, c2, c3, c4, c5⟩ := h.cells
  have hn := none_c b v w h ho
  obtain ⟨m0, m1, a0, a1, l0, l1, s0, s1, y0, y1, al⟩ := ho
  have i1 := max_if v.s v.a
  have i2 : IntKind.i64.wrap (9 * max v.s v.a) = 9 * max v.s v.a := wrp _ (by omega) (by omega)
  have i3 : (9 * max v.s v.a).tdiv 8 = 9 * max v.s v.a / 8 := Int.tdiv_eq_ediv_of_nonneg (by omega)
  have i4 : IntKind.i64.wrap (9 * max v.s v.a / 8) = 9 * max v.s v.a / 8 := wrp _ (by omega) (by omega)
  have i5 := max_if (9 * max v.s v.a / 8) 1000
  clear h
  go_enter Try.func13, Try.ntmps13
  go_wp2_with fail
  refine hn.mono ?_
  rintro e w' ⟨rfl, hw⟩
  subst w'
  clear hn
  go_wp2_with fail
  go_quiet (fail)
  go_wp2
  go_ret
  exact ⟨rfl, below_drewN (Below.refl _ w) _⟩

set_option maxRecDepth 100000 in
theorem wait_c (b : Nat) (v : Rv) (t : Int) (d : Bool) (w : World) (h : Rt 43 w b v) (ho : v.ok) : Calls Try.prog 11 #[.pointer (some ⟨b, 0, none⟩), .int .i64 t, .bool d] w fun e w' => e = .returned (.int .i64 (v.wait t d)) ∧ Below w.heap.size w w' := by
  obtain ⟨c0, c1, c2, c3, c4, c5⟩ := h.cells
  have hn := none_c b v w h ho
  obtain ⟨K, hK, hK10⟩ : ∃ K : Nat, min (max t 0) 10 = (K : Int) ∧ K ≤ 10 := ⟨(min (max t 0) 10).toNat, by omega, by omega⟩
  obtain ⟨X, hX, hX0, hX1⟩ : ∃ X, v.base d = X ∧ 0 ≤ X ∧ X ≤ 7000000000000000 := ⟨_, rfl, (ho.base0 d).1, (ho.base0 d).2⟩
  have HR : Aside (v.wait t d = X * 2 ^ K) := by
    show v.wait t d = _
    unfold Rv.wait
    rw [hX, hK]
    rfl
  have hp := mul_pow X K hK10 hX0 hX1
  have i9 : IntKind.i64.wrap (X * 2 ^ K) = X * 2 ^ K := wrp _ (by omega) (by omega)
  obtain ⟨m0, m1, a0, a1, l0, l1, s0, s1, y0, y1, al⟩ := ho
  have i1 := max_if (4 * v.y) 1000
  have i2 : IntKind.i64.wrap (4 * v.y) = 4 * v.y := wrp _ (by omega) (by omega)
  have i3 : IntKind.i64.wrap (v.s + max (4 * v.y) 1000) = v.s + max (4 * v.y) 1000 := wrp _ (by omega) (by omega)
  have k0 : (0 : Int) ≤ (K : Int) := by omega
  have k1 : (K : Int) ≤ 64 := by omega
  clear h hp
  have HK : Aside _ := hK
  clear hK
  cases d with
  | false =>
    have e1 : v.s + max (4 * v.y) 1000 = X := by rw [← hX]; simp [Rv.base]
    clear hX
    go_enter Try.func11, Try.ntmps11
    go_wp2_with fail
    refine hn.mono ?_
    rintro e w' ⟨rfl, hw⟩
    subst w'
    clear hn
    go_wp2_with fail
    go_quiet (fail)
    have hu : Below w.heap.size w (w.drewN nq) := below_drewN (Below.refl _ w) _
    generalize w.drewN nq = u at hu ⊢
    obtain ⟨b1, b2, hb⟩ := bt_cells 0 10 u
    have hcl := clos_c 0 10 t _ _ _ b1 b2
    rw [HK.out] at hcl
    have HB : Aside _ := hu.trans (hb.mono hu.size)
    clear b1 b2 hb hu c0 c1 c2 c3 c4 c5
    go_wp2_with fail
    refine (between_c 0 10 u).mono ?_
    rintro e w' ⟨rfl, hw⟩
    subst w'
    go_wp2_with fail
    refine hcl.mono ?_
    rintro e w' ⟨rfl, hw⟩
    subst w'
    clear hcl
    go_wp2
    go_ret
    exact ⟨by rw [HR.out]; rfl, HB.out⟩
  | true =>
    have e1 : IntKind.i64.wrap (v.s + max (4 * v.y) 1000 + v.m) = X := by rw [← hX]; simp only [Rv.base, if_true]; exact wrp _ (by omega) (by omega)
    clear hX
    go_enter Try.func11, Try.ntmps11
    go_wp2_with fail
    refine hn.mono ?_
    rintro e w' ⟨rfl, hw⟩
    subst w'
    clear hn
    go_wp2_with fail
    go_quiet (fail)
    have hu : Below w.heap.size w (w.drewN nq) := below_drewN (Below.refl _ w) _
    have d0 : (w.drewN nq).cell? ⟨b, 0, none⟩ = some (.int .i64 v.m) := c0
    generalize w.drewN nq = u at hu d0 ⊢
    obtain ⟨b1, b2, hb⟩ := bt_cells 0 10 u
    have hcl := clos_c 0 10 t _ _ _ b1 b2
    rw [HK.out] at hcl
    have HB : Aside _ := hu.trans (hb.mono hu.size)
    clear b1 b2 hb hu c0 c1 c2 c3 c4 c5
    go_wp2_with fail
    refine (between_c 0 10 u).mono ?_
    rintro e w' ⟨rfl, hw⟩
    subst w'
    go_wp2_with fail
    refine hcl.mono ?_
    rintro e w' ⟨rfl, hw⟩
    subst w'
    clear hcl
    go_wp2
    go_ret
    exact ⟨by rw [HR.out]; rfl, HB.out⟩

set_option maxRecDepth 100000 in
theorem new_no (m : Int) (w : World) (h : m < 0 ∨ 1125899906842624 < m) : Calls Try.prog 7 #[.int .i64 m] w fun e w' => e = .returned (.tuple #[.pointer none, .int .i64 2]) ∧ Below w.heap.size w w' := by
  have ht := isTime_c m w
  rw [decide_eq_false (by omega)] at ht
  go_enter Try.func7, Try.ntmps7
  go_wp2_with fail
  refine ht.mono ?_
  rintro e w' ⟨rfl, hw⟩
  have HW : Aside _ := hw
  clear hw ht
  go_wp2
  go_ret2
  exact ⟨rfl, HW.out⟩
def rv0 (m : Int) : Rv := ⟨m, false, 0, 0, 333000, 166500⟩
theorem rv0_ok (m : Int) (h0 : 0 ≤ m) (h1 : m ≤ 1125899906842624) : (rv0 m).ok := by
  unfold rv0
  exact ⟨h0, h1, by simp, by simp, by simp, by simp, by simp, by simp, by simp, by simp, .inr rfl⟩
set_option maxRecDepth 100000 in
theorem new_c (m : Int) (w : World) (h0 : 0 ≤ m) (h1 : m ≤ 1125899906842624) : Calls Try.prog 7 #[.int .i64 m] w fun e w' => ∃ b, e = .returned (.tuple #[.pointer (some ⟨b, 0, none⟩), .int .i64 0]) ∧ Rt 43 w' b (rv0 m) ∧ w.heap.size ≤ b ∧ Below w.heap.size w w' := by
  have ht := isTime_c m w
  rw [decide_eq_true (And.intro h0 h1)] at ht
  go_enter Try.func7, Try.ntmps7
  go_wp2_with fail
  refine ht.mono ?_
  rintro e w' ⟨rfl, hw⟩
  have HW : Aside _ := hw
  clear hw ht
  go_wp2
  go_ret2
  exact ⟨w'.heap.size, rfl, heap_alloc_new w' _, HW.out.size, HW.out.alloc HW.out.size _⟩
end Go.Proofs.Ythjfhckpgindfaa
