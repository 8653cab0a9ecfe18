/- mtu: a search as it lies, of either side; what each call does to it. -/
import Derived.Test.YtpafgoikhkidbaaNob
import Derived.Deep.QuietTactic
import Derived.BigQuiet
import Derived.WalkSmall
import Derived.Deep.RegionWith
import Derived.Deep.RegionHeld3
namespace Go.Proofs.Ytpafgoikhkidbaa
open Go.RowKit
set_option linter.unusedVariables false

theorem norm_any' {φ : Act → World → Prop} {a : Act} {w : World} (h : ∀ K : Act → World → Prop, (∀ a w, φ a w → K a w) → K a w) : φ a w := h φ (fun _ _ h => h)
theorem wrp (x : Int) (h0 : -9223372036854775808 ≤ x) (h1 : x ≤ 9223372036854775807) : IntKind.i64.wrap x = x := by rw [IntKind.wrap_i64]; omega
theorem max_if (a b : Int) : (if a < b then b else a) = max a b := by omega
theorem min_if (a b : Int) : (if b < a then b else a) = min a b := by omega
/-- A search: base, size, ceiling, lost. -/
structure Mv where
  b : Int
  s : Int
  c : Int
  l : Int
def Mv.cs (v : Mv) : Array Value := #[.int .i64 v.b, .int .i64 v.s, .int .i64 v.c, .int .i64 v.l]
/-- A search of type T in block b. -/
def Rt (T : Nat) (w : World) (b : Nat) (v : Mv) : Prop := w.heap[b]? = some (.cells v.cs T (0, 0))
theorem Rt.lt {T : Nat} {w : World} {b : Nat} {v : Mv} (h : Rt T w b v) : b < w.heap.size := (Array.getElem?_eq_some_iff.1 h).1
theorem Rt.cells {T : Nat} {w : World} {b : Nat} {v : Mv} (h : Rt T w b v) : w.cell? ⟨b, 0, none⟩ = some (.int .i64 v.b) ∧ w.cell? ⟨b, 1, none⟩ = some (.int .i64 v.s) ∧ w.cell? ⟨b, 2, none⟩ = some (.int .i64 v.c) ∧ w.cell? ⟨b, 3, none⟩ = some (.int .i64 v.l) := by
  have h' : w.heap[b]? = _ := h
  refine ⟨?_, ?_, ?_, ?_⟩ <;> simp [World.cell?, h', Mv.cs]
theorem Rt.frozen {T : Nat} {w : World} {b : Nat} {v : Mv} (h : Rt T w b v) (j : Nat) : w.frozen? ⟨b, j, none⟩ = false := by
  have h' : w.heap[b]? = _ := h
  simp [World.frozen?, h']
theorem Rt.below {T : Nat} {w w' : World} {b : Nat} {v : Mv} (h : Rt T w b v) (hb : Below w.heap.size w w') : Rt T w' b v := (hb.block b h.lt).trans h
theorem Rt.set {T : Nat} {w : World} {b : Nat} {v : Mv} (h : Rt T w b v) (j : Nat) (x : Value) (v' : Mv) (he : v.cs.setIfInBounds j x = v'.cs) : Rt T (w.setCell ⟨b, j, none⟩ x) b v' := by
  have h' : w.heap[b]? = some (.cells v.cs T (0, 0)) := h
  show (w.setCell ⟨b, j, none⟩ x).heap[b]? = _
  rw [setCell_eq_setRow w b j _ T (0, 0) _ h', setRow_heap w b _ _ T (0, 0) h', he]
/-- Nothing but block b has turned, or is new. -/
def Tn (b : Nat) (w w' : World) : Prop := w'.os = w.os ∧ w'.tape = w.tape ∧ w'.output = w.output ∧ w.heap.size ≤ w'.heap.size ∧ ∀ k, k < w.heap.size → k ≠ b → w'.heap[k]? = w.heap[k]?
theorem Tn.refl (b : Nat) (w : World) : Tn b w w := ⟨rfl, rfl, rfl, Nat.le_refl _, fun _ _ _ => rfl⟩
theorem Tn.trans {b : Nat} {x y z : World} (h : Tn b x y) (k : Tn b y z) : Tn b x z :=
  ⟨k.1.trans h.1, k.2.1.trans h.2.1, k.2.2.1.trans h.2.2.1, Nat.le_trans h.2.2.2.1 k.2.2.2.1, fun j hj hs => (k.2.2.2.2 j (Nat.lt_of_lt_of_le hj h.2.2.2.1) hs).trans (h.2.2.2.2 j hj hs)⟩
theorem Tn.below {b : Nat} {x y : World} (h : Below x.heap.size x y) : Tn b x y := ⟨h.os, h.tape, h.output, h.size, fun k hk _ => h.block k hk⟩
theorem Tn.set {T : Nat} {b : Nat} {w : World} {v : Mv} (h : Rt T w b v) (j : Nat) (x : Value) : Tn b w (w.setCell ⟨b, j, none⟩ x) := by
  rw [setCell_eq_setRow w b j _ T (0, 0) _ h]
  exact ⟨rfl, rfl, rfl, by simp, fun k hk hs => setRow_other w b k _ hs⟩
theorem Tn.toBelow {b n : Nat} {x y : World} (h : Tn b x y) (hn : n ≤ x.heap.size) (hb : n ≤ b) : Below n x y := ⟨h.1, h.2.1, h.2.2.1, h.2.2.2.1, fun k hk => h.2.2.2.2 k (by omega) (by omega)⟩
theorem Tn.rt {T : Nat} {b k : Nat} {x y : World} {v : Mv} (h : Tn b x y) (hr : Rt T x k v) (hk : k ≠ b) : Rt T y k v := (h.2.2.2.2 k hr.lt hk).trans hr
/-- Searches as the calls make them. -/
structure Mv.ok (v : Mv) : Prop where
  b0 : 1200 ≤ v.b
  s0 : v.b ≤ v.s
  c0 : v.s ≤ v.c
  c1 : v.c ≤ 65527
  l0 : 0 ≤ v.l
  l1 : v.l ≤ 2
/-- The probe of now: 0 where there is none. -/
def Mv.prb (v : Mv) : Int := if v.c - v.s < 20 then 0 else (v.s + v.c + 1) / 2
def Mv.on (v : Mv) : Bool := decide (20 ≤ v.c - v.s)
theorem Mv.prb_b (v : Mv) (h : v.ok) (hn : v.on = true) : v.s + 10 ≤ v.prb ∧ v.prb + 9 ≤ v.c ∧ v.prb ≤ 65527 := by
  have := of_decide_eq_true hn
  have := h.c1
  unfold Mv.prb
  rw [if_neg (by omega)]
  omega
/-- Acked. -/
def Mv.wr (v : Mv) (n : Int) : Bool := !v.on || n != v.prb
def Mv.ack (v : Mv) (n : Int) : Int × Mv := if v.wr n then (2, v) else (0, { v with s := n, l := 0 })
/-- Lost. -/
def Mv.lose (v : Mv) (n : Int) : Int × Mv := if v.wr n then (2, v) else (0, if v.l = 2 then { v with c := n - 1, l := 0 } else { v with l := v.l + 1 })
/-- Hole. -/
def Mv.hole (v : Mv) : Mv := { v with c := max (v.s - 1) v.b, s := v.b, l := 0 }
theorem Mv.wr_no {v : Mv} {n : Int} (h : v.wr n = false) : v.on = true ∧ n = v.prb := by
  simpa [Mv.wr] using h
theorem Mv.ack_ok (v : Mv) (n : Int) (h : v.ok) : (v.ack n).2.ok := by
  unfold Mv.ack
  by_cases hw : v.wr n = true
  · rw [if_pos hw]; exact h
  · rw [if_neg hw]
    obtain ⟨h1, h2⟩ := Mv.wr_no (by simpa using hw)
    obtain ⟨a, b, c⟩ := v.prb_b h h1
    obtain ⟨p, q, r, s, t, u⟩ := h
    constructor <;> simp only <;> omega
theorem Mv.lose_ok (v : Mv) (n : Int) (h : v.ok) : (v.lose n).2.ok := by
  unfold Mv.lose
  by_cases hw : v.wr n = true
  · rw [if_pos hw]; exact h
  · rw [if_neg hw]
    obtain ⟨h1, h2⟩ := Mv.wr_no (by simpa using hw)
    obtain ⟨a, b, c⟩ := v.prb_b h h1
    obtain ⟨p, q, r, s, t, u⟩ := h
    by_cases hl : v.l = 2
    · simp only [hl, if_true]
      constructor <;> simp only <;> omega
    · simp only [hl, if_false]
      constructor <;> simp only <;> omega
theorem Mv.hole_ok (v : Mv) (h : v.ok) : v.hole.ok := by
  obtain ⟨p, q, r, s, t, u⟩ := h
  unfold Mv.hole
  constructor <;> simp only <;> omega

set_option maxRecDepth 100000 in
theorem none_c (b : Nat) (v : Mv) (w : World) (h : Rt 42 w b v) (ho : v.ok) : Calls Try.prog 20 #[.pointer (some ⟨b, 0, none⟩)] w fun e w' => e = .returned (.bool false) ∧ w' = w := by
  obtain ⟨c0, c1, c2, c3⟩ := h.cells
  have hq := eq42n v.b v.s v.c v.l (by have := ho.b0; omega)
  go_enter Try.func20, Try.ntmps20
  go_wp2
  go_ret
  exact ⟨rfl, rfl⟩
theorem size_c (b : Nat) (v : Mv) (w : World) (h : Rt 42 w b v) (ho : v.ok) : Calls Try.prog 12 #[.pointer (some ⟨b, 0, none⟩)] w fun e w' => e = .returned (.int .i64 v.s) ∧ w' = w := by
  have h1 := none_c b v w h ho
  obtain ⟨c0, c1, c2, c3⟩ := h.cells
  clear h ho
  go_enter Try.func12, Try.ntmps12
  go_wp2_with fail
  refine h1.mono ?_
  rintro e w' ⟨rfl, rfl⟩
  go_wp2
  go_ret
  exact ⟨rfl, rfl⟩
set_option maxRecDepth 100000 in
/-- Whether the search goes on. -/
theorem clos_c (b a : Nat) (v : Mv) (w : World) (h : Rt 42 w b v) (ho : v.ok) (ha : w.cell? ⟨a, 0, none⟩ = some (.pointer (some ⟨b, 0, none⟩))) :
    Calls Try.prog 19 #[.pointer (some ⟨a, 0, none⟩)] w fun e w' => e = .returned (.bool v.on) ∧ w' = w.drew := by
  obtain ⟨c0, c1, c2, c3⟩ := h.cells
  have i1 : IntKind.i64.wrap (v.c - v.s) = v.c - v.s := wrp _ (by have := ho.c0; have := ho.c1; omega) (by have := ho.s0; have := ho.b0; have := ho.c1; omega)
  have d1 : w.drew.cell? ⟨b, 1, none⟩ = some (.int .i64 v.s) := c1
  have d2 : w.drew.cell? ⟨b, 2, none⟩ = some (.int .i64 v.c) := c2
  have da : w.drew.cell? ⟨a, 0, none⟩ = some (.pointer (some ⟨b, 0, none⟩)) := ha
  have hon : Aside (v.on = decide (20 ≤ v.c - v.s)) := rfl
  generalize v.on = ON at *
  clear c0 c1 c2 c3 h ho ha
  go_enter Try.func19, Try.ntmps19
  go_wp2_with fail
  go_region_held3 (fun w' => w'.cell? ⟨b, 1, none⟩ = some (.int .i64 v.s) ∧ w'.cell? ⟨b, 2, none⟩ = some (.int .i64 v.c) ∧ w'.cell? ⟨a, 0, none⟩ = some (.pointer (some ⟨b, 0, none⟩))) (exact ⟨d1, d2, da⟩) (fail)
  go_wp2
  go_ret
  rw [hon.out]
  exact ⟨rfl, rfl⟩
set_option maxRecDepth 100000 in
theorem probe_c (b : Nat) (v : Mv) (w : World) (h : Rt 42 w b v) (ho : v.ok) : Calls Try.prog 10 #[.pointer (some ⟨b, 0, none⟩)] w fun e w' => e = .returned (.tuple #[.int .i64 v.prb, .bool v.on]) ∧ Below w.heap.size w w' := by
  have hmf : ∀ (fn : Fn) (first cap : Array Value) (w : World), (Instr.makeFunc fn first cap).run Try.prog w = .ok (.func fn first cap) w := fun _ _ _ _ => rfl
  obtain ⟨W, hW⟩ : ∃ W, w.alloc (.cells #[.pointer (some ⟨b, 0, none⟩)] 23) = W := ⟨_, rfl⟩
  have HB : Aside (Below w.heap.size w W) := by show Below _ _ _; rw [← hW]; exact bel1 _ _
  have HR : Aside (Rt 42 W b v) := h.below HB.out
  have ha : W.cell? ⟨w.heap.size, 0, none⟩ = some (.pointer (some ⟨b, 0, none⟩)) := by rw [← hW]; simp [go_sem]
  have hn := none_c b v W HR.out ho
  have hc := clos_c b w.heap.size v W HR.out ho ha
  have i1 : IntKind.i64.wrap (v.s + v.c) = v.s + v.c := wrp _ (by have := ho.c0; have := ho.s0; have := ho.b0; omega) (by have := ho.c0; have := ho.c1; omega)
  have i2 : IntKind.i64.wrap (v.s + v.c + 1) = v.s + v.c + 1 := wrp _ (by have := ho.c0; have := ho.s0; have := ho.b0; omega) (by have := ho.c0; have := ho.c1; omega)
  have i3 : (v.s + v.c + 1).tdiv 2 = (v.s + v.c + 1) / 2 := Int.tdiv_eq_ediv_of_nonneg (by have := ho.c0; have := ho.s0; have := ho.b0; omega)
  have i4 : IntKind.i64.wrap ((v.s + v.c + 1) / 2) = (v.s + v.c + 1) / 2 := wrp _ (by have := ho.c0; have := ho.s0; have := ho.b0; omega) (by have := ho.c0; have := ho.c1; omega)
  have hp0 : Aside (v.on = false → v.prb = 0) := fun hx => by have := of_decide_eq_false hx; unfold Mv.prb; rw [if_pos (by omega)]
  have hp1 : Aside (v.on = true → v.prb = (v.s + v.c + 1) / 2) := fun hx => by have := of_decide_eq_true hx; unfold Mv.prb; rw [if_neg (by omega)]
  obtain ⟨c0, c1, c2, c3⟩ := HR.out.cells
  have HBd : Aside (Below w.heap.size w (W.drewN 2)) := HB.out.trans ((Below.refl _ _).drew.drew)
  have HBd1 : Aside (Below w.heap.size w (W.drew)) := HB.out.trans ((Below.refl _ _).drew)
  generalize v.prb = P at *
  generalize v.on = ON at *
  clear h ho c0 c3
  cases ON
  · obtain rfl : P = 0 := hp0.out rfl
    clear hp0 hp1
    go_enter Try.func10, Try.ntmps10
    go_wp2_with fail
    refine hn.mono ?_
    rintro e w' ⟨rfl, hw⟩
    subst w'
    go_wp2_with fail
    refine hc.mono ?_
    rintro e w' ⟨rfl, hw⟩
    subst w'
    go_wp2
    go_ret2
    exact ⟨rfl, HBd1.out⟩
  · rw [hp1.out rfl]
    clear hp0 hp1
    generalize (v.s + v.c + 1) / 2 = Q at *
    go_enter Try.func10, Try.ntmps10
    go_wp2_with fail
    refine hn.mono ?_
    rintro e w' ⟨rfl, hw⟩
    subst w'
    go_wp2_with fail
    refine hc.mono ?_
    rintro e w' ⟨rfl, hw⟩
    subst w'
    have d1 : W.drew.drew.cell? ⟨b, 1, none⟩ = some (.int .i64 v.s) := c1
    have d2 : W.drew.drew.cell? ⟨b, 2, none⟩ = some (.int .i64 v.c) := c2
    have da : W.drew.drew.cell? ⟨w.heap.size, 0, none⟩ = some (.pointer (some ⟨b, 0, none⟩)) := ha
    clear c1 c2 ha
    generalize hA : w.heap.size = A at HBd d1 d2 da
    go_wp2_with fail
    go_region_held3 (fun w' => w'.cell? ⟨b, 1, none⟩ = some (.int .i64 v.s) ∧ w'.cell? ⟨b, 2, none⟩ = some (.int .i64 v.c) ∧ w'.cell? ⟨A, 0, none⟩ = some (.pointer (some ⟨b, 0, none⟩))) (exact ⟨d1, d2, da⟩) (fail)
    go_wp2
    go_ret2
    rw [hA]
    exact ⟨rfl, HBd.out⟩
end Go.Proofs.Ytpafgoikhkidbaa
