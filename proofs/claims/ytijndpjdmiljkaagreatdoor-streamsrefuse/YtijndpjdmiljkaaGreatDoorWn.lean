/- flow: a Give as it lies, of either side; what each call does to it. -/
import Derived.Test.YtijndpjdmiljkaaGreatDoorFb
namespace Go.Proofs.YtijndpjdmiljkaaGreatDoor
open Go.RowKit
set_option linter.unusedVariables false

theorem wrp (x : Int) (h0 : -9223372036854775808 ≤ x) (h1 : x ≤ 9223372036854775807) : IntKind.i64.wrap x = x := by rw [IntKind.wrap_i64]; omega
theorem max_if (a b : Int) : (if a < b then b else a) = max a b := by omega
theorem min_if (a b : Int) : (if b < a then b else a) = min a b := by omega
/-- Cells cs of type T in block b. -/
def Rt (T : Nat) (cs : Array Value) (w : World) (b : Nat) : Prop := w.heap[b]? = some (.cells cs T (0, 0))
section
variable {T : Nat} {cs : Array Value} {w w' : World} {b : Nat}
theorem Rt.lt (h : Rt T cs w b) : b < w.heap.size := (Array.getElem?_eq_some_iff.1 h).1
theorem Rt.cell (h : Rt T cs w b) (j : Nat) : w.cell? ⟨b, j, none⟩ = cs[j]? := by
  have h' : w.heap[b]? = _ := h
  simp [World.cell?, h']
theorem Rt.frozen (h : Rt T cs w b) (j : Nat) : w.frozen? ⟨b, j, none⟩ = false := by
  have h' : w.heap[b]? = _ := h
  simp [World.frozen?, h']
theorem Rt.below (h : Rt T cs w b) (hb : Below w.heap.size w w') : Rt T cs w' b := (hb.block b h.lt).trans h
theorem Rt.set (h : Rt T cs w b) (j : Nat) (x : Value) : Rt T (cs.setIfInBounds j x) (w.setCell ⟨b, j, none⟩ x) b := by
  have h' : w.heap[b]? = some (.cells cs T (0, 0)) := h
  show (w.setCell ⟨b, j, none⟩ x).heap[b]? = _
  rw [setCell_eq_setRow w b j _ T (0, 0) _ h', setRow_heap w b _ _ T (0, 0) h']
end
/-- Nothing but block b has turned, or is new. -/
def Tn (b : Nat) (w w' : World) : Prop := w'.os = w.os ∧ w'.tape = w.tape ∧ w'.output = w.output ∧ w.heap.size ≤ w'.heap.size ∧ ∀ k, k < w.heap.size → k ≠ b → w'.heap[k]? = w.heap[k]?
theorem Tn.refl (b : Nat) (w : World) : Tn b w w := ⟨rfl, rfl, rfl, Nat.le_refl _, fun _ _ _ => rfl⟩
theorem Tn.trans {b : Nat} {x y z : World} (h : Tn b x y) (k : Tn b y z) : Tn b x z :=
  ⟨k.1.trans h.1, k.2.1.trans h.2.1, k.2.2.1.trans h.2.2.1, Nat.le_trans h.2.2.2.1 k.2.2.2.1, fun j hj hs => (k.2.2.2.2 j (Nat.lt_of_lt_of_le hj h.2.2.2.1) hs).trans (h.2.2.2.2 j hj hs)⟩
theorem Tn.below {b : Nat} {x y : World} (h : Below x.heap.size x y) : Tn b x y := ⟨h.os, h.tape, h.output, h.size, fun k hk _ => h.block k hk⟩
theorem Tn.drew (b : Nat) (w : World) : Tn b w w.drew := Tn.below (Below.refl _ _).drew
theorem Tn.set {T : Nat} {b : Nat} {w : World} {cs : Array Value} (h : Rt T cs w b) (j : Nat) (x : Value) : Tn b w (w.setCell ⟨b, j, none⟩ x) := by
  rw [setCell_eq_setRow w b j _ T (0, 0) _ h]
  exact ⟨rfl, rfl, rfl, by simp, fun k hk hs => setRow_other w b k _ hs⟩
theorem Tn.toBelow {b n : Nat} {x y : World} (h : Tn b x y) (hn : n ≤ x.heap.size) (hb : n ≤ b) : Below n x y := ⟨h.1, h.2.1, h.2.2.1, h.2.2.2.1, fun k hk => h.2.2.2.2 k (by omega) (by omega)⟩
theorem Tn.rt {T : Nat} {b k : Nat} {x y : World} {cs : Array Value} (h : Tn b x y) (hr : Rt T cs x k) (hk : k ≠ b) : Rt T cs y k := (h.2.2.2.2 k hr.lt hk).trans hr
/-- A Give: limit, spent, and the limit that was told blocked last (-1: none was). -/
structure Gv where
  l : Int
  s : Int
  d : Int
/-- The program's cells, and the reference's. -/
def Gv.p (v : Gv) : Array Value := #[.bool true, .int .i64 v.l, .int .i64 v.s, .bool (decide (v.d = v.l))]
def Gv.r (v : Gv) : Array Value := #[.int .i64 v.l, .int .i64 v.s, .int .i64 v.d]
def Gv.ok (v : Gv) : Prop := v.d ≤ v.l
/-- Raise. -/
def Gv.rai (v : Gv) (n : Int) : Int × Gv := if n < 0 ∨ 4611686018427387903 < n then (2, v) else (0, if v.l < n then { v with l := n } else v)
/-- Spend. -/
def Gv.spe (v : Gv) (n : Int) : Int × Gv := if n < 0 then (2, v) else if IntKind.i64.wrap (v.l - v.s) < n then (30, v) else (0, { v with s := IntKind.i64.wrap (v.s + n) })
/-- Blocked. -/
def Gv.blk (v : Gv) : Int × Bool × Gv := if v.s < v.l ∨ v.d = v.l then (0, false, v) else (v.l, true, { v with d := v.l })
theorem Gv.rai_ok (v : Gv) (n : Int) (h : v.ok) : (v.rai n).2.ok := by
  unfold Gv.rai
  have h' : v.d ≤ v.l := h
  split
  · exact h
  · split
    · show v.d ≤ n
      omega
    · exact h
theorem Gv.spe_ok (v : Gv) (n : Int) (h : v.ok) : (v.spe n).2.ok := by
  unfold Gv.spe
  split
  · exact h
  · split
    · exact h
    · exact h
theorem Gv.blk_ok (v : Gv) (h : v.ok) : v.blk.2.2.ok := by
  unfold Gv.blk
  split
  · exact h
  · exact Int.le_refl _
def may (n : Int) : Bool := decide (0 ≤ n) && decide (n ≤ 4611686018427387903)
def gv0 (n : Int) : Gv := ⟨n, 0, -1⟩
theorem gv0_ok {n : Int} (h : may n = true) : (gv0 n).ok := by
  simp only [may, Bool.and_eq_true, decide_eq_true_eq] at h
  show (-1 : Int) ≤ n
  omega
theorem lim_c (n : Int) (w : World) : Calls Tryz.prog 99 #[.int .i64 n] w fun e w' => e = .returned (.bool (may n)) ∧ w' = w := by
  unfold may
  by_cases h1 : 0 ≤ n
  · rw [decide_eq_true h1]
    by_cases h2 : n ≤ 4611686018427387903
    · rw [decide_eq_true h2]
      go_enter Tryz.func99, Tryz.ntmps99
      go_wp2
      go_ret
      exact ⟨rfl, rfl⟩
    · rw [decide_eq_false h2]
      go_enter Tryz.func99, Tryz.ntmps99
      go_wp2
      go_ret
      exact ⟨rfl, rfl⟩
  · rw [decide_eq_false h1]
    go_enter Tryz.func99, Tryz.ntmps99
    go_wp2
    go_ret
    exact ⟨rfl, rfl⟩
theorem newg_no (n : Int) (w : World) (h : may n = false) : Calls Tryz.prog 45 #[.int .i64 n] w fun e w' => e = .returned (.tuple #[.pointer none, .int .i64 2]) ∧ w' = w := by
  have h1 := lim_c n w
  rw [h] at h1
  clear h
  go_enter Tryz.func45, Tryz.ntmps45
  go_wp2_with fail
  refine h1.mono ?_
  rintro e w' ⟨rfl, hw⟩
  subst w'
  go_wp2
  go_ret2
  exact ⟨rfl, rfl⟩
theorem newg_c (n : Int) (w : World) (h : may n = true) : Calls Tryz.prog 45 #[.int .i64 n] w fun e w' => e = .returned (.tuple #[.pointer (some ⟨w.heap.size, 0, none⟩), .int .i64 0]) ∧ Rt 174 (gv0 n).p w' w.heap.size ∧ Below w.heap.size w w' := by
  have h1 := lim_c n w
  have h2 : Rt 174 (gv0 n).p (w.alloc (.cells #[.bool true, .int .i64 n, .int .i64 0, .bool false] 174)) w.heap.size := by
    have hd : decide (-1 = n) = false := by simp only [may, Bool.and_eq_true, decide_eq_true_eq] at h; exact decide_eq_false (by omega)
    show _ = some (Obj.cells #[.bool true, .int .i64 n, .int .i64 0, .bool (decide (-1 = n))] 174 (0, 0))
    rw [hd]
    exact heap_alloc_new w _
  rw [h] at h1
  clear h
  go_enter Tryz.func45, Tryz.ntmps45
  go_wp2_with fail
  refine h1.mono ?_
  rintro e w' ⟨rfl, hw⟩
  subst w'
  go_wp2
  go_ret2
  exact ⟨rfl, h2, bel1 _ _⟩
set_option maxRecDepth 100000 in
theorem none28_c (b : Nat) (v : Gv) (w : World) (h : Rt 174 v.p w b) : Calls Tryz.prog 101 #[.pointer (some ⟨b, 0, none⟩)] w fun e w' => e = .returned (.bool false) ∧ w' = w := by
  have c0 : w.cell? ⟨b, 0, none⟩ = some (.bool true) := h.cell 0
  have c1 : w.cell? ⟨b, 1, none⟩ = some (.int .i64 v.l) := h.cell 1
  have c2 : w.cell? ⟨b, 2, none⟩ = some (.int .i64 v.s) := h.cell 2
  have c3 : w.cell? ⟨b, 3, none⟩ = some (.bool (decide (v.d = v.l))) := h.cell 3
  have hq := eq53n v.l v.s (decide (v.d = v.l))
  clear h
  generalize decide (v.d = v.l) = t at *
  go_enter Tryz.func101, Tryz.ntmps101
  go_wp2
  go_ret
  exact ⟨rfl, rfl⟩
set_option maxRecDepth 100000 in
theorem gleft_c (b : Nat) (v : Gv) (w : World) (h : Rt 174 v.p w b) : Calls Tryz.prog 100 #[.pointer (some ⟨b, 0, none⟩)] w fun e w' => e = .returned (.tuple #[.int .i64 (IntKind.i64.wrap (v.l - v.s)), .int .i64 v.l]) ∧ w' = w.drew := by
  have h1 := none28_c b v w h
  have d1 : w.drew.cell? ⟨b, 1, none⟩ = some (.int .i64 v.l) := h.cell 1
  have d2 : w.drew.cell? ⟨b, 2, none⟩ = some (.int .i64 v.s) := h.cell 2
  obtain ⟨l, s, d⟩ := v
  dsimp only at *
  clear h
  go_enter Tryz.func100, Tryz.ntmps100
  go_wp2_with fail
  refine h1.mono ?_
  rintro e w' ⟨rfl, hw⟩
  subst w'
  clear h1
  go_wp2_with fail
  go_region_held3 (fun X => X.cell? ⟨b, 1, none⟩ = some (.int .i64 l) ∧ X.cell? ⟨b, 2, none⟩ = some (.int .i64 s)) (exact ⟨d1, d2⟩) (fail)
  go_wp2
  go_ret2
  exact ⟨rfl, rfl⟩
set_option maxRecDepth 100000 in
theorem graise_c (b : Nat) (v : Gv) (n : Int) (w : World) (h : Rt 174 v.p w b) (ho : v.ok) : Calls Tryz.prog 59 #[.pointer (some ⟨b, 0, none⟩), .int .i64 n] w fun e w' => e = .returned (.int .i64 (v.rai n).1) ∧ Rt 174 (v.rai n).2.p w' b ∧ Tn b w w' := by
  have h1 := none28_c b v w h
  have h2 := lim_c n w
  have c1 : w.cell? ⟨b, 1, none⟩ = some (.int .i64 v.l) := h.cell 1
  have f1 := h.frozen 1
  have f3 := h.frozen 3
  have c3 : w.cell? ⟨b, 3, none⟩ = some (.bool (decide (v.d = v.l))) := h.cell 3
  have HR : Aside (Rt 174 v.p w b) := h
  have hd : Aside (v.d ≤ v.l) := ho
  obtain ⟨l, s, d⟩ := v
  dsimp only at *
  clear h ho
  cases hm : may n
  · have hE : (Gv.mk l s d).rai n = (2, ⟨l, s, d⟩) := by
      simp only [may, Bool.and_eq_false_iff, decide_eq_false_iff_not] at hm
      unfold Gv.rai
      rw [if_pos (by omega)]
    rw [hE]
    rw [hm] at h2
    clear hE hm c1 f1 f3
    go_enter Tryz.func59, Tryz.ntmps59
    go_wp2_with fail
    refine h1.mono ?_
    rintro e w' ⟨rfl, hw⟩
    subst w'
    clear h1
    go_wp2_with fail
    refine h2.mono ?_
    rintro e w' ⟨rfl, hw⟩
    subst w'
    go_wp2
    go_ret
    exact ⟨rfl, HR.out, Tn.refl _ _⟩
  · have hE : (Gv.mk l s d).rai n = (0, if l < n then ⟨n, s, d⟩ else ⟨l, s, d⟩) := by
      simp only [may, Bool.and_eq_true, decide_eq_true_eq] at hm
      unfold Gv.rai
      rw [if_neg (by omega)]
    rw [hE]
    rw [hm] at h2
    clear hE hm
    by_cases hl : l < n
    · rw [if_pos hl]
      have r1 := HR.out.set 1 (.int .i64 n)
      have r2 := r1.set 3 (.bool false)
      have e2 : decide (d = n) = false := decide_eq_false (by have := hd.out; omega)
      have R2 : Aside (Rt 174 (Gv.mk n s d).p ((w.setCell ⟨b, 1, none⟩ (.int .i64 n)).setCell ⟨b, 3, none⟩ (.bool false)) b) := by
        show Rt 174 #[.bool true, .int .i64 n, .int .i64 s, .bool (decide (d = n))] _ b
        rw [e2]
        exact r2
      have HT : Aside (Tn b w ((w.setCell ⟨b, 1, none⟩ (.int .i64 n)).setCell ⟨b, 3, none⟩ (.bool false))) := (Tn.set HR.out 1 _).trans (Tn.set r1 3 _)
      clear r1 r2 e2 hd HR
      generalize decide (d = l) = t at c3
      go_enter Tryz.func59, Tryz.ntmps59
      go_wp2_with fail
      refine h1.mono ?_
      rintro e w' ⟨rfl, hw⟩
      subst w'
      clear h1
      go_wp2_with fail
      refine h2.mono ?_
      rintro e w' ⟨rfl, hw⟩
      subst w'
      go_wp2
      go_ret
      exact ⟨rfl, R2.out, HT.out⟩
    · rw [if_neg hl]
      go_enter Tryz.func59, Tryz.ntmps59
      go_wp2_with fail
      refine h1.mono ?_
      rintro e w' ⟨rfl, hw⟩
      subst w'
      clear h1
      go_wp2_with fail
      refine h2.mono ?_
      rintro e w' ⟨rfl, hw⟩
      subst w'
      go_wp2
      go_ret
      exact ⟨rfl, HR.out, Tn.refl _ _⟩
set_option maxRecDepth 100000 in
theorem spend_c (b : Nat) (v : Gv) (n : Int) (w : World) (h : Rt 174 v.p w b) : Calls Tryz.prog 50 #[.pointer (some ⟨b, 0, none⟩), .int .i64 n] w fun e w' => e = .returned (.int .i64 (v.spe n).1) ∧ Rt 174 (v.spe n).2.p w' b ∧ Tn b w w' := by
  have h1 := none28_c b v w h
  have d1 : w.drew.cell? ⟨b, 1, none⟩ = some (.int .i64 v.l) := h.cell 1
  have d2 : w.drew.cell? ⟨b, 2, none⟩ = some (.int .i64 v.s) := h.cell 2
  have f2 : w.drew.frozen? ⟨b, 2, none⟩ = false := h.frozen 2
  have HR : Aside (Rt 174 v.p w b) := h
  obtain ⟨l, s, d⟩ := v
  dsimp only at *
  clear h
  by_cases hn : n < 0
  · have hE : (Gv.mk l s d).spe n = (2, ⟨l, s, d⟩) := by unfold Gv.spe; rw [if_pos hn]
    rw [hE]
    clear hE
    go_enter Tryz.func50, Tryz.ntmps50
    go_wp2_with fail
    refine h1.mono ?_
    rintro e w' ⟨rfl, hw⟩
    subst w'
    clear h1
    go_wp2
    go_ret
    exact ⟨rfl, HR.out, Tn.refl _ _⟩
  · by_cases hl : IntKind.i64.wrap (l - s) < n
    · have hE : (Gv.mk l s d).spe n = (30, ⟨l, s, d⟩) := by unfold Gv.spe; rw [if_neg hn, if_pos hl]
      rw [hE]
      clear hE
      go_enter Tryz.func50, Tryz.ntmps50
      go_wp2_with fail
      refine h1.mono ?_
      rintro e w' ⟨rfl, hw⟩
      subst w'
      clear h1
      go_wp2_with fail
      go_region_held3 (fun X => X.cell? ⟨b, 1, none⟩ = some (.int .i64 l) ∧ X.cell? ⟨b, 2, none⟩ = some (.int .i64 s)) (exact ⟨d1, d2⟩) (fail)
      go_wp2
      go_ret
      exact ⟨rfl, HR.out.below (Below.refl _ _).drew, Tn.drew _ _⟩
    · have hE : (Gv.mk l s d).spe n = (0, ⟨l, IntKind.i64.wrap (s + n), d⟩) := by unfold Gv.spe; rw [if_neg hn, if_neg hl]
      rw [hE]
      clear hE
      have r0 : Rt 174 (Gv.mk l s d).p w.drew b := HR.out.below (Below.refl _ _).drew
      have R2 : Aside (Rt 174 (Gv.mk l (IntKind.i64.wrap (s + n)) d).p (w.drew.setCell ⟨b, 2, none⟩ (.int .i64 (IntKind.i64.wrap (s + n)))) b) := r0.set 2 _
      have HT : Aside (Tn b w (w.drew.setCell ⟨b, 2, none⟩ (.int .i64 (IntKind.i64.wrap (s + n))))) := (Tn.drew _ _).trans (Tn.set r0 2 _)
      clear r0 HR
      generalize hu : IntKind.i64.wrap (s + n) = u at *
      go_enter Tryz.func50, Tryz.ntmps50
      go_wp2_with fail
      refine h1.mono ?_
      rintro e w' ⟨rfl, hw⟩
      subst w'
      clear h1
      go_wp2_with fail
      go_region_held3 (fun X => X.cell? ⟨b, 1, none⟩ = some (.int .i64 l) ∧ X.cell? ⟨b, 2, none⟩ = some (.int .i64 s)) (exact ⟨d1, d2⟩) (fail)
      generalize w.drew = X at *
      go_wp2
      go_ret
      exact ⟨rfl, R2.out, HT.out⟩
end Go.Proofs.YtijndpjdmiljkaaGreatDoor
