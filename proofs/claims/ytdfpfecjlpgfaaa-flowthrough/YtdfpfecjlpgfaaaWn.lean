/- flow: a Give as it lies, of either side; what each call does to it. -/
import Derived.Test.YtdfpfecjlpgfaaaNob
namespace Go.Proofs.Ytdfpfecjlpgfaaa
open Go.RowKit
set_option linter.unusedVariables false

theorem wrp (x : Int) (h0 : -9223372036854775808 ≤ x) (h1 : x ≤ 9223372036854775807) : IntKind.i64.wrap x = x := by rw [IntKind.wrap_i64]; omega
theorem max_if (a b : Int) : (if a < b then b else a) = max a b := by omega
theorem min_if (a b : Int) : (if b < a then b else a) = min a b := by omega
/-- Cells cs of type T in block b. -/
def Rt (T : Nat) (cs : Array Value) (w : World) (b : Nat) : Prop := w.heap[b]? = some (.cells cs T (0, 0))
section
variable {T : Nat} {cs : Array Value} {w w' : World} {b : Nat}
theorem Rt.lt (h : Rt T cs w b) : b < w.heap.size := (Array.getElem?_eq_some_iff.1 h).1
theorem Rt.cell (h : Rt T cs w b) (j : Nat) : w.cell? ⟨b, j, none⟩ = cs[j]? := by
  have h' : w.heap[b]? = _ := h
  simp [World.cell?, h']
theorem Rt.frozen (h : Rt T cs w b) (j : Nat) : w.frozen? ⟨b, j, none⟩ = false := by
  have h' : w.heap[b]? = _ := h
  simp [World.frozen?, h']
theorem Rt.below (h : Rt T cs w b) (hb : Below w.heap.size w w') : Rt T cs w' b := (hb.block b h.lt).trans h
theorem Rt.set (h : Rt T cs w b) (j : Nat) (x : Value) : Rt T (cs.setIfInBounds j x) (w.setCell ⟨b, j, none⟩ x) b := by
  have h' : w.heap[b]? = some (.cells cs T (0, 0)) := h
  show (w.setCell ⟨b, j, none⟩ x).heap[b]? = _
  rw [setCell_eq_setRow w b j _ T (0, 0) _ h', setRow_heap w b _ _ T (0, 0) h']
end
/-- Nothing but block b has turned, or is new. -/
def Tn (b : Nat) (w w' : World) : Prop := w'.os = w.os ∧ w'.tape = w.tape ∧ w'.output = w.output ∧ w.heap.size ≤ w'.heap.size ∧ ∀ k, k < w.heap.size → k ≠ b → w'.heap[k]? = w.heap[k]?
theorem Tn.refl (b : Nat) (w : World) : Tn b w w := ⟨rfl, rfl, rfl, Nat.le_refl _, fun _ _ _ => rfl⟩
theorem Tn.trans {b : Nat} {x y z : World} (h : Tn b x y) (k : Tn b y z) : Tn b x z :=
  ⟨k.1.trans h.1, k.2.1.trans h.2.1, k.2.2.1.trans h.2.2.1, Nat.le_trans h.2.2.2.1 k.2.2.2.1, fun j hj hs => (k.2.2.2.2 j (Nat.lt_of_lt_of_le hj h.2.2.2.1) hs).trans (h.2.2.2.2 j hj hs)⟩
theorem Tn.below {b : Nat} {x y : World} (h : Below x.heap.size x y) : Tn b x y := ⟨h.os, h.tape, h.output, h.size, fun k hk _ => h.block k hk⟩
theorem Tn.drew (b : Nat) (w : World) : Tn b w w.drew := Tn.below (Below.refl _ _).drew
theorem Tn.set {T : Nat} {b : Nat} {w : World} {cs : Array Value} (h : Rt T cs w b) (j : Nat) (x : Value) : Tn b w (w.setCell ⟨b, j, none⟩ x) := by
  rw [setCell_eq_setRow w b j _ T (0, 0) _ h]
  exact ⟨rfl, rfl, rfl, by simp, fun k hk hs => setRow_other w b k _ hs⟩
theorem Tn.toBelow {b n : Nat} {x y : World} (h : Tn b x y) (hn : n ≤ x.heap.size) (hb : n ≤ b) : Below n x y := ⟨h.1, h.2.1, h.2.2.1, h.2.2.2.1, fun k hk => h.2.2.2.2 k (by omega) (by omega)⟩
theorem Tn.rt {T : Nat} {b k : Nat} {x y : World} {cs : Array Value} (h : Tn b x y) (hr : Rt T cs x k) (hk : k ≠ b) : Rt T cs y k := (h.2.2.2.2 k hr.lt hk).trans hr
/-- A Give: limit, spent, and the limit that was told blocked last (-1: none was). -/
structure Gv where
  l : Int
  s : Int
  d : Int
/-- The program's cells, and the reference's. -/
def Gv.p (v : Gv) : Array Value := #[.bool true, .int .i64 v.l, .int .i64 v.s, .bool (decide (v.d = v.l))]
def Gv.r (v : Gv) : Array Value := #[.int .i64 v.l, .int .i64 v.s, .int .i64 v.d]
def Gv.ok (v : Gv) : Prop := v.d ≤ v.l
/-- Raise. -/
def Gv.rai (v : Gv) (n : Int) : Int × Gv := if n < 0 ∨ 4611686018427387903 < n then (2, v) else (0, if v.l < n then { v with l := n } else v)
/-- Spend. -/
def Gv.spe (v : Gv) (n : Int) : Int × Gv := if n < 0 then (2, v) else if IntKind.i64.wrap (v.l - v.s) < n then (30, v) else (0, { v with s := IntKind.i64.wrap (v.s + n) })
/-- Blocked. -/
def Gv.blk (v : Gv) : Int × Bool × Gv := if v.s < v.l ∨ v.d = v.l then (0, false, v) else (v.l, true, { v with d := v.l })
theorem Gv.rai_ok (v : Gv) (n : Int) (h : v.ok) : (v.rai n).2.ok := by
  unfold Gv.rai
  have h' : v.d ≤ v.l := h
  split
  · exact h
  · split
    · show v.d ≤ n
      omega
    · exact h
theorem Gv.spe_ok (v : Gv) (n : Int) (h : v.ok) : (v.spe n).2.ok := by
  unfold Gv.spe
  split
  · exact h
  · split
    · exact h
    · exact h
theorem Gv.blk_ok (v : Gv) (h : v.ok) : v.blk.2.2.ok := by
  unfold Gv.blk
  split
  · exact h
  · exact Int.le_refl _
def may (n : Int) : Bool := decide (0 ≤ n) && decide (n ≤ 4611686018427387903)
def gv0 (n : Int) : Gv := ⟨n, 0, -1⟩
theorem gv0_ok {n : Int} (h : may n = true) : (gv0 n).ok := by
  simp only [may, Bool.and_eq_true, decide_eq_true_eq] at h
  show (-1 : Int) ≤ n
  omega
theorem lim_c (n : Int) (w : World) : Calls Try.prog 27 #[.int .i64 n] w fun e w' => e = .returned (.bool (may n)) ∧ w' = w := by
  unfold may
  by_cases h1 : 0 ≤ n
  · rw [decide_eq_true h1]
    by_cases h2 : n ≤ 4611686018427387903
    · rw [decide_eq_true h2]
      go_enter Try.func27, Try.ntmps27
      go_wp2
      go_ret
      exact ⟨rfl, rfl⟩
    · rw [decide_eq_false h2]
      go_enter Try.func27, Try.ntmps27
      go_wp2
      go_ret
      exact ⟨rfl, rfl⟩
  · rw [decide_eq_false h1]
    go_enter Try.func27, Try.ntmps27
    go_wp2
    go_ret
    exact ⟨rfl, rfl⟩
theorem newg_no (n : Int) (w : World) (h : may n = false) : Calls Try.prog 8 #[.int .i64 n] w fun e w' => e = .returned (.tuple #[.pointer none, .int .i64 2]) ∧ w' = w := by
  have h1 := lim_c n w
  rw [h] at h1
  clear h
  go_enter Try.func8, Try.ntmps8
  go_wp2_with fail
  refine h1.mono ?_
  rintro e w' ⟨rfl, hw⟩
  subst w'
  go_wp2
  go_ret2
  exact ⟨rfl, rfl⟩
theorem newg_c (n : Int) (w : World) (h : may n = true) : Calls Try.prog 8 #[.int .i64 n] w fun e w' => e = .returned (.tuple #[.pointer (some ⟨w.heap.size, 0, none⟩), .int .i64 0]) ∧ Rt 53 (gv0 n).p w' w.heap.size ∧ Below w.heap.size w w' := by
  have h1 := lim_c n w
  have h2 : Rt 53 (gv0 n).p (w.alloc (.cells #[.bool true, .int .i64 n, .int .i64 0, .bool false] 53)) w.heap.size := by
    have hd : decide (-1 = n) = false := by simp only [may, Bool.and_eq_true, decide_eq_true_eq] at h; exact decide_eq_false (by omega)
    show _ = some (Obj.cells #[.bool true, .int .i64 n, .int .i64 0, .bool (decide (-1 = n))] 53 (0, 0))
    rw [hd]
    exact heap_alloc_new w _
  rw [h] at h1
  clear h
  go_enter Try.func8, Try.ntmps8
  go_wp2_with fail
  refine h1.mono ?_
  rintro e w' ⟨rfl, hw⟩
  subst w'
  go_wp2
  go_ret2
  exact ⟨rfl, h2, bel1 _ _⟩
theorem rnewg_no (n : Int) (w : World) (h : may n = false) : Calls Try.prog 9 #[.int .i64 n] w fun e w' => e = .returned (.tuple #[.pointer none, .int .i64 2]) ∧ w' = w := by
  simp only [may, Bool.and_eq_false_iff, decide_eq_false_iff_not] at h
  by_cases h1 : n < 0
  · clear h
    go_enter Try.func9, Try.ntmps9
    go_wp2
    go_ret2
    exact ⟨rfl, rfl⟩
  · have h3 : 4611686018427387903 < n := by omega
    clear h
    go_enter Try.func9, Try.ntmps9
    go_wp2
    go_ret2
    exact ⟨rfl, rfl⟩
theorem rnewg_c (n : Int) (w : World) (h : may n = true) : Calls Try.prog 9 #[.int .i64 n] w fun e w' => e = .returned (.tuple #[.pointer (some ⟨w.heap.size, 0, none⟩), .int .i64 0]) ∧ Rt 40 (gv0 n).r w' w.heap.size ∧ Below w.heap.size w w' := by
  simp only [may, Bool.and_eq_true, decide_eq_true_eq] at h
  have h0 : ¬ n < 0 := by omega
  have h3 : ¬ 4611686018427387903 < n := by omega
  have h1 : Rt 40 (gv0 n).r (w.alloc (.cells #[.int .i64 n, .int .i64 0, .int .i64 (-1)] 40)) w.heap.size := heap_alloc_new w _
  clear h
  go_enter Try.func9, Try.ntmps9
  go_wp2
  go_ret2
  exact ⟨rfl, h1, bel1 _ _⟩
set_option maxRecDepth 100000 in
theorem none28_c (b : Nat) (v : Gv) (w : World) (h : Rt 53 v.p w b) : Calls Try.prog 28 #[.pointer (some ⟨b, 0, none⟩)] w fun e w' => e = .returned (.bool false) ∧ w' = w := by
  have c0 : w.cell? ⟨b, 0, none⟩ = some (.bool true) := h.cell 0
  have c1 : w.cell? ⟨b, 1, none⟩ = some (.int .i64 v.l) := h.cell 1
  have c2 : w.cell? ⟨b, 2, none⟩ = some (.int .i64 v.s) := h.cell 2
  have c3 : w.cell? ⟨b, 3, none⟩ = some (.bool (decide (v.d = v.l))) := h.cell 3
  have hq := eq53n v.l v.s (decide (v.d = v.l))
  clear h
  generalize decide (v.d = v.l) = t at *
  go_enter Try.func28, Try.ntmps28
  go_wp2
  go_ret
  exact ⟨rfl, rfl⟩
set_option maxRecDepth 100000 in
theorem left_c (b : Nat) (v : Gv) (w : World) (h : Rt 53 v.p w b) : Calls Try.prog 17 #[.pointer (some ⟨b, 0, none⟩)] w fun e w' => e = .returned (.tuple #[.int .i64 (IntKind.i64.wrap (v.l - v.s)), .int .i64 v.l]) ∧ w' = w.drew := by
  have h1 := none28_c b v w h
  have d1 : w.drew.cell? ⟨b, 1, none⟩ = some (.int .i64 v.l) := h.cell 1
  have d2 : w.drew.cell? ⟨b, 2, none⟩ = some (.int .i64 v.s) := h.cell 2
  obtain ⟨l, s, d⟩ := v
  dsimp only at *
  clear h
  go_enter Try.func17, Try.ntmps17
  go_wp2_with fail
  refine h1.mono ?_
  rintro e w' ⟨rfl, hw⟩
  subst w'
  clear h1
  go_wp2_with fail
  go_region_held3 (fun X => X.cell? ⟨b, 1, none⟩ = some (.int .i64 l) ∧ X.cell? ⟨b, 2, none⟩ = some (.int .i64 s)) (exact ⟨d1, d2⟩) (fail)
  go_wp2
  go_ret2
  exact ⟨rfl, rfl⟩
set_option maxRecDepth 100000 in
theorem raise_c (b : Nat) (v : Gv) (n : Int) (w : World) (h : Rt 53 v.p w b) (ho : v.ok) : Calls Try.prog 11 #[.pointer (some ⟨b, 0, none⟩), .int .i64 n] w fun e w' => e = .returned (.int .i64 (v.rai n).1) ∧ Rt 53 (v.rai n).2.p w' b ∧ Tn b w w' := by
  have h1 := none28_c b v w h
  have h2 := lim_c n w
  have c1 : w.cell? ⟨b, 1, none⟩ = some (.int .i64 v.l) := h.cell 1
  have f1 := h.frozen 1
  have f3 := h.frozen 3
  have c3 : w.cell? ⟨b, 3, none⟩ = some (.bool (decide (v.d = v.l))) := h.cell 3
  have HR : Aside (Rt 53 v.p w b) := h
  have hd : Aside (v.d ≤ v.l) := ho
  obtain ⟨l, s, d⟩ := v
  dsimp only at *
  clear h ho
  cases hm : may n
  · have hE : (Gv.mk l s d).rai n = (2, ⟨l, s, d⟩) := by
      simp only [may, Bool.and_eq_false_iff, decide_eq_false_iff_not] at hm
      unfold Gv.rai
      rw [if_pos (by omega)]
    rw [hE]
    rw [hm] at h2
    clear hE hm c1 f1 f3
    go_enter Try.func11, Try.ntmps11
    go_wp2_with fail
    refine h1.mono ?_
    rintro e w' ⟨rfl, hw⟩
    subst w'
    clear h1
    go_wp2_with fail
    refine h2.mono ?_
    rintro e w' ⟨rfl, hw⟩
    subst w'
    go_wp2
    go_ret
    exact ⟨rfl, HR.out, Tn.refl _ _⟩
  · have hE : (Gv.mk l s d).rai n = (0, if l < n then ⟨n, s, d⟩ else ⟨l, s, d⟩) := by
      simp only [may, Bool.and_eq_true, decide_eq_true_eq] at hm
      unfold Gv.rai
      rw [if_neg (by omega)]
    rw [hE]
    rw [hm] at h2
    clear hE hm
    by_cases hl : l < n
    · rw [if_pos hl]
      have r1 := HR.out.set 1 (.int .i64 n)
      have r2 := r1.set 3 (.bool false)
      have e2 : decide (d = n) = false := decide_eq_false (by have := hd.out; omega)
      have R2 : Aside (Rt 53 (Gv.mk n s d).p ((w.setCell ⟨b, 1, none⟩ (.int .i64 n)).setCell ⟨b, 3, none⟩ (.bool false)) b) := by
        show Rt 53 #[.bool true, .int .i64 n, .int .i64 s, .bool (decide (d = n))] _ b
        rw [e2]
        exact r2
      have HT : Aside (Tn b w ((w.setCell ⟨b, 1, none⟩ (.int .i64 n)).setCell ⟨b, 3, none⟩ (.bool false))) := (Tn.set HR.out 1 _).trans (Tn.set r1 3 _)
      clear r1 r2 e2 hd HR
      generalize decide (d = l) = t at c3
      go_enter Try.func11, Try.ntmps11
      go_wp2_with fail
      refine h1.mono ?_
      rintro e w' ⟨rfl, hw⟩
      subst w'
      clear h1
      go_wp2_with fail
      refine h2.mono ?_
      rintro e w' ⟨rfl, hw⟩
      subst w'
      go_wp2
      go_ret
      exact ⟨rfl, R2.out, HT.out⟩
    · rw [if_neg hl]
      go_enter Try.func11, Try.ntmps11
      go_wp2_with fail
      refine h1.mono ?_
      rintro e w' ⟨rfl, hw⟩
      subst w'
      clear h1
      go_wp2_with fail
      refine h2.mono ?_
      rintro e w' ⟨rfl, hw⟩
      subst w'
      go_wp2
      go_ret
      exact ⟨rfl, HR.out, Tn.refl _ _⟩
set_option maxRecDepth 100000 in
theorem spend_c (b : Nat) (v : Gv) (n : Int) (w : World) (h : Rt 53 v.p w b) : Calls Try.prog 13 #[.pointer (some ⟨b, 0, none⟩), .int .i64 n] w fun e w' => e = .returned (.int .i64 (v.spe n).1) ∧ Rt 53 (v.spe n).2.p w' b ∧ Tn b w w' := by
  have h1 := none28_c b v w h
  have d1 : w.drew.cell? ⟨b, 1, none⟩ = some (.int .i64 v.l) := h.cell 1
  have d2 : w.drew.cell? ⟨b, 2, none⟩ = some (.int .i64 v.s) := h.cell 2
  have f2 : w.drew.frozen? ⟨b, 2, none⟩ = false := h.frozen 2
  have HR : Aside (Rt 53 v.p w b) := h
  obtain ⟨l, s, d⟩ := v
  dsimp only at *
  clear h
  by_cases hn : n < 0
  · have hE : (Gv.mk l s d).spe n = (2, ⟨l, s, d⟩) := by unfold Gv.spe; rw [if_pos hn]
    rw [hE]
    clear hE
    go_enter Try.func13, Try.ntmps13
    go_wp2_with fail
    refine h1.mono ?_
    rintro e w' ⟨rfl, hw⟩
    subst w'
    clear h1
    go_wp2
    go_ret
    exact ⟨rfl, HR.out, Tn.refl _ _⟩
  · by_cases hl : IntKind.i64.wrap (l - s) < n
    · have hE : (Gv.mk l s d).spe n = (30, ⟨l, s, d⟩) := by unfold Gv.spe; rw [if_neg hn, if_pos hl]
      rw [hE]
      clear hE
      go_enter Try.func13, Try.ntmps13
      go_wp2_with fail
      refine h1.mono ?_
      rintro e w' ⟨rfl, hw⟩
      subst w'
      clear h1
      go_wp2_with fail
      go_region_held3 (fun X => X.cell? ⟨b, 1, none⟩ = some (.int .i64 l) ∧ X.cell? ⟨b, 2, none⟩ = some (.int .i64 s)) (exact ⟨d1, d2⟩) (fail)
      go_wp2
      go_ret
      exact ⟨rfl, HR.out.below (Below.refl _ _).drew, Tn.drew _ _⟩
    · have hE : (Gv.mk l s d).spe n = (0, ⟨l, IntKind.i64.wrap (s + n), d⟩) := by unfold Gv.spe; rw [if_neg hn, if_neg hl]
      rw [hE]
      clear hE
      have r0 : Rt 53 (Gv.mk l s d).p w.drew b := HR.out.below (Below.refl _ _).drew
      have R2 : Aside (Rt 53 (Gv.mk l (IntKind.i64.wrap (s + n)) d).p (w.drew.setCell ⟨b, 2, none⟩ (.int .i64 (IntKind.i64.wrap (s + n)))) b) := r0.set 2 _
      have HT : Aside (Tn b w (w.drew.setCell ⟨b, 2, none⟩ (.int .i64 (IntKind.i64.wrap (s + n))))) := (Tn.drew _ _).trans (Tn.set r0 2 _)
      clear r0 HR
      generalize hu : IntKind.i64.wrap (s + n) = u at *
      go_enter Try.func13, Try.ntmps13
      go_wp2_with fail
      refine h1.mono ?_
      rintro e w' ⟨rfl, hw⟩
      subst w'
      clear h1
      go_wp2_with fail
      go_region_held3 (fun X => X.cell? ⟨b, 1, none⟩ = some (.int .i64 l) ∧ X.cell? ⟨b, 2, none⟩ = some (.int .i64 s)) (exact ⟨d1, d2⟩) (fail)
      generalize w.drew = X at *
      go_wp2
      go_ret
      exact ⟨rfl, R2.out, HT.out⟩
set_option maxRecDepth 100000 in
theorem rspend_c (b : Nat) (v : Gv) (n : Int) (w : World) (h : Rt 40 v.r w b) : Calls Try.prog 14 #[.pointer (some ⟨b, 0, none⟩), .int .i64 n] w fun e w' => e = .returned (.int .i64 (v.spe n).1) ∧ Rt 40 (v.spe n).2.r w' b ∧ Tn b w w' := by
  have d1 : w.drew.cell? ⟨b, 0, none⟩ = some (.int .i64 v.l) := h.cell 0
  have d2 : w.drew.cell? ⟨b, 1, none⟩ = some (.int .i64 v.s) := h.cell 1
  have f2 : w.drew.frozen? ⟨b, 1, none⟩ = false := h.frozen 1
  have HR : Aside (Rt 40 v.r w b) := h
  obtain ⟨l, s, d⟩ := v
  dsimp only at *
  clear h
  by_cases hn : n < 0
  · have hE : (Gv.mk l s d).spe n = (2, ⟨l, s, d⟩) := by unfold Gv.spe; rw [if_pos hn]
    rw [hE]
    clear hE
    go_enter Try.func14, Try.ntmps14
    go_wp2
    go_ret
    exact ⟨rfl, HR.out, Tn.refl _ _⟩
  · by_cases hl : IntKind.i64.wrap (l - s) < n
    · have hE : (Gv.mk l s d).spe n = (30, ⟨l, s, d⟩) := by unfold Gv.spe; rw [if_neg hn, if_pos hl]
      rw [hE]
      clear hE
      go_enter Try.func14, Try.ntmps14
      go_wp2_with fail
      go_region_held3 (fun X => X.cell? ⟨b, 0, none⟩ = some (.int .i64 l) ∧ X.cell? ⟨b, 1, none⟩ = some (.int .i64 s)) (exact ⟨d1, d2⟩) (fail)
      go_wp2
      go_ret
      exact ⟨rfl, HR.out.below (Below.refl _ _).drew, Tn.drew _ _⟩
    · have hE : (Gv.mk l s d).spe n = (0, ⟨l, IntKind.i64.wrap (s + n), d⟩) := by unfold Gv.spe; rw [if_neg hn, if_neg hl]
      rw [hE]
      clear hE
      have r0 : Rt 40 (Gv.mk l s d).r w.drew b := HR.out.below (Below.refl _ _).drew
      have R2 : Aside (Rt 40 (Gv.mk l (IntKind.i64.wrap (s + n)) d).r (w.drew.setCell ⟨b, 1, none⟩ (.int .i64 (IntKind.i64.wrap (s + n)))) b) := r0.set 1 _
      have HT : Aside (Tn b w (w.drew.setCell ⟨b, 1, none⟩ (.int .i64 (IntKind.i64.wrap (s + n))))) := (Tn.drew _ _).trans (Tn.set r0 1 _)
      clear r0 HR
      generalize hu : IntKind.i64.wrap (s + n) = u at *
      go_enter Try.func14, Try.ntmps14
      go_wp2_with fail
      go_region_held3 (fun X => X.cell? ⟨b, 0, none⟩ = some (.int .i64 l) ∧ X.cell? ⟨b, 1, none⟩ = some (.int .i64 s)) (exact ⟨d1, d2⟩) (fail)
      generalize w.drew = X at *
      go_wp2
      go_ret
      exact ⟨rfl, R2.out, HT.out⟩
set_option maxRecDepth 100000 in
theorem rraise_c (b : Nat) (v : Gv) (n : Int) (w : World) (h : Rt 40 v.r w b) : Calls Try.prog 12 #[.pointer (some ⟨b, 0, none⟩), .int .i64 n] w fun e w' => e = .returned (.int .i64 (v.rai n).1) ∧ Rt 40 (v.rai n).2.r w' b ∧ Tn b w w' := by
  have c1 : w.cell? ⟨b, 0, none⟩ = some (.int .i64 v.l) := h.cell 0
  have f1 := h.frozen 0
  have HR : Aside (Rt 40 v.r w b) := h
  obtain ⟨l, s, d⟩ := v
  dsimp only at *
  clear h
  by_cases h1 : n < 0
  · have hE : (Gv.mk l s d).rai n = (2, ⟨l, s, d⟩) := by unfold Gv.rai; rw [if_pos (.inl h1)]
    rw [hE]
    clear hE
    go_enter Try.func12, Try.ntmps12
    go_wp2
    go_ret
    exact ⟨rfl, HR.out, Tn.refl _ _⟩
  by_cases h2 : 4611686018427387903 < n
  · have hE : (Gv.mk l s d).rai n = (2, ⟨l, s, d⟩) := by unfold Gv.rai; rw [if_pos (.inr h2)]
    rw [hE]
    clear hE
    go_enter Try.func12, Try.ntmps12
    go_wp2
    go_ret
    exact ⟨rfl, HR.out, Tn.refl _ _⟩
  have hE : (Gv.mk l s d).rai n = (0, if l < n then ⟨n, s, d⟩ else ⟨l, s, d⟩) := by unfold Gv.rai; rw [if_neg (by omega)]
  rw [hE]
  clear hE
  by_cases hl : l < n
  · rw [if_pos hl]
    have R2 : Aside (Rt 40 (Gv.mk n s d).r (w.setCell ⟨b, 0, none⟩ (.int .i64 n)) b) := HR.out.set 0 _
    have HT : Aside (Tn b w (w.setCell ⟨b, 0, none⟩ (.int .i64 n))) := Tn.set HR.out 0 _
    clear HR
    go_enter Try.func12, Try.ntmps12
    go_wp2
    go_ret
    exact ⟨rfl, R2.out, HT.out⟩
  · rw [if_neg hl]
    go_enter Try.func12, Try.ntmps12
    go_wp2
    go_ret
    exact ⟨rfl, HR.out, Tn.refl _ _⟩
set_option maxRecDepth 100000 in
set_option maxHeartbeats 1000000 in
theorem blocked_c (b : Nat) (v : Gv) (w : World) (h : Rt 53 v.p w b) : Calls Try.prog 15 #[.pointer (some ⟨b, 0, none⟩)] w fun e w' => e = .returned (.tuple #[.int .i64 v.blk.1, .bool v.blk.2.1]) ∧ Rt 53 v.blk.2.2.p w' b ∧ Tn b w w' := by
  have r0 : Rt 53 v.p w.drew b := h.below (Below.refl _ _).drew
  have h1 := none28_c b v w.drew r0
  have d1 : w.drew.cell? ⟨b, 1, none⟩ = some (.int .i64 v.l) := h.cell 1
  have d2 : w.drew.cell? ⟨b, 2, none⟩ = some (.int .i64 v.s) := h.cell 2
  have d3 : w.drew.cell? ⟨b, 3, none⟩ = some (.bool (decide (v.d = v.l))) := h.cell 3
  have f3 : w.drew.frozen? ⟨b, 3, none⟩ = false := h.frozen 3
  have HR : Aside (Rt 53 v.p w.drew b) := r0
  have HT : Aside (Tn b w w.drew) := Tn.drew _ _
  obtain ⟨l, s, d⟩ := v
  dsimp only at *
  clear h r0
  by_cases hd : d = l
  · have hE : (Gv.mk l s d).blk = (0, false, ⟨l, s, d⟩) := by unfold Gv.blk; rw [if_pos (.inr hd)]
    rw [hE]
    rw [decide_eq_true hd] at d3
    clear hE hd
    go_enter Try.func15, Try.ntmps15
    go_wp2_with fail
    refine wp_region_held_drew (S := fun X => X.cell? ⟨b, 1, none⟩ = some (.int .i64 l) ∧ X.cell? ⟨b, 2, none⟩ = some (.int .i64 s) ∧ X.cell? ⟨b, 3, none⟩ = some (.bool true)) (by kernel_rfl) ⟨d1, d2, d3⟩ (fun hHeld => ?_)
    refine wpAnyH_take (i := 0) (v := .pointer (some ⟨b, 0, none⟩)) rfl (by kernel_rfl) (by kernel_rfl) (by kernel_rfl) (fun _ _ _ h => h) (Or.inl ⟨by rfl, by intro w hs; go_simp⟩) hHeld ?_
    refine norm_any' (fun K hK => ?_)
    go_simp
    refine hK _ _ ?_
    clear hK K
    refine wpAnyH_ready (rs := [1]) (by kernel_rfl) (by simp) (AllReadyH.cons rfl (fun K hK => ?_) AllReadyH.nil)
    go_simp
    refine h1.mono ?_
    rintro e w' ⟨rfl, hw⟩
    subst w'
    refine hK.out _ _ hHeld (fun hHeld => ?_)
    clear hK K
    refine norm_any' (fun K hK => ?_)
    go_simp
    refine hK _ _ ?_
    clear hK K
    refine wpAnyH_take (i := 2) (v := .bool false) rfl (by kernel_rfl) (by kernel_rfl) (by kernel_rfl) (fun _ _ _ h => h) (Or.inl ⟨by rfl, by intro w hs; go_simp⟩) hHeld ?_
    refine norm_any' (fun K hK => ?_)
    go_simp
    refine hK _ _ ?_
    clear hK K
    refine wpAnyH_take (i := 3) (v := .pointer (some ⟨b, 0, none⟩)) rfl (by kernel_rfl) (by kernel_rfl) (by kernel_rfl) (fun _ _ _ h => h) (Or.inl ⟨by rfl, by intro w hs; go_simp⟩) hHeld ?_
    refine norm_any' (fun K hK => ?_)
    go_simp
    refine hK _ _ ?_
    clear hK K
    refine wpAnyH_take (i := 4) (v := .pointer (some ⟨b, 0, none⟩)) rfl (by kernel_rfl) (by kernel_rfl) (by kernel_rfl) (fun _ _ _ h => h) (Or.inl ⟨by rfl, by intro w hs; go_simp⟩) hHeld ?_
    refine norm_any' (fun K hK => ?_)
    go_simp
    refine hK _ _ ?_
    clear hK K
    refine wpAnyH_take (i := 5) (v := .pointer (some ⟨b, 3, none⟩)) rfl (by kernel_rfl) (by kernel_rfl) (by kernel_rfl) (fun _ _ _ h => h) (Or.inl ⟨by rfl, by intro w hs; go_simp⟩) hHeld ?_
    refine norm_any' (fun K hK => ?_)
    go_simp
    refine hK _ _ ?_
    clear hK K
    refine wpAnyH_take (i := 6) (v := .bool true) rfl (by kernel_rfl) (by kernel_rfl) (by kernel_rfl) (fun _ _ _ h => h) (Or.inl ⟨by rfl, by rintro w ⟨s1, s2, s3⟩; go_simp⟩) hHeld ?_
    refine norm_any' (fun K hK => ?_)
    go_simp
    refine hK _ _ ?_
    clear hK K
    refine wpAnyH_take (i := 7) (v := .bool true) rfl (by kernel_rfl) (by kernel_rfl) (by kernel_rfl) (fun _ _ _ h => h) (Or.inl ⟨by rfl, by intro w hs; go_simp⟩) hHeld ?_
    refine norm_any' (fun K hK => ?_)
    go_simp
    refine hK _ _ ?_
    clear hK K
    refine wpAnyH_take (i := 8) (v := .bool true) rfl (by kernel_rfl) (by kernel_rfl) (by kernel_rfl) (fun _ _ _ h => h) (Or.inl ⟨by rfl, by intro w hs; go_simp⟩) hHeld ?_
    refine norm_any' (fun K hK => ?_)
    go_simp
    refine hK _ _ ?_
    clear hK K
    refine wpAnyH_take (i := 9) (v := undef) rfl (by kernel_rfl) (by kernel_rfl) (by kernel_rfl) (fun _ _ _ h => h) (Or.inr ⟨by rfl, rfl⟩) hHeld ?_
    refine norm_any' (fun K hK => ?_)
    go_simp
    refine hK _ _ ?_
    clear hK K
    refine wpAnyH_take (i := 10) (v := undef) rfl (by kernel_rfl) (by kernel_rfl) (by kernel_rfl) (fun _ _ _ h => h) (Or.inr ⟨by rfl, rfl⟩) hHeld ?_
    refine norm_any' (fun K hK => ?_)
    go_simp
    refine hK _ _ ?_
    clear hK K
    refine wpAnyH_take (i := 11) (v := undef) rfl (by kernel_rfl) (by kernel_rfl) (by kernel_rfl) (fun _ _ _ h => h) (Or.inr ⟨by rfl, rfl⟩) hHeld ?_
    refine norm_any' (fun K hK => ?_)
    go_simp
    refine hK _ _ ?_
    clear hK K
    refine wpAnyH_take (i := 12) (v := undef) rfl (by kernel_rfl) (by kernel_rfl) (by kernel_rfl) (fun _ _ _ h => h) (Or.inr ⟨by rfl, rfl⟩) hHeld ?_
    refine norm_any' (fun K hK => ?_)
    go_simp
    refine hK _ _ ?_
    clear hK K
    refine wpAnyH_take (i := 13) (v := undef) rfl (by kernel_rfl) (by kernel_rfl) (by kernel_rfl) (fun _ _ _ h => h) (Or.inr ⟨by rfl, rfl⟩) hHeld ?_
    refine norm_any' (fun K hK => ?_)
    go_simp
    refine hK _ _ ?_
    clear hK K
    refine wpAnyH_take (i := 14) (v := undef) rfl (by kernel_rfl) (by kernel_rfl) (by kernel_rfl) (fun _ _ _ h => h) (Or.inr ⟨by rfl, rfl⟩) hHeld ?_
    refine norm_any' (fun K hK => ?_)
    go_simp
    refine hK _ _ ?_
    clear hK K
    refine wpAnyH_take (i := 15) (v := undef) rfl (by kernel_rfl) (by kernel_rfl) (by kernel_rfl) (fun _ _ _ h => h) (Or.inr ⟨by rfl, rfl⟩) hHeld ?_
    refine norm_any' (fun K hK => ?_)
    go_simp
    refine hK _ _ ?_
    clear hK K
    refine wpAnyH_take (i := 16) (v := undef) rfl (by kernel_rfl) (by kernel_rfl) (by kernel_rfl) (fun _ _ _ h => h) (Or.inr ⟨by rfl, rfl⟩) hHeld ?_
    refine norm_any' (fun K hK => ?_)
    go_simp
    refine hK _ _ ?_
    clear hK K
    refine wpAnyH_take (i := 17) (v := undef) rfl (by kernel_rfl) (by kernel_rfl) (by kernel_rfl) (fun _ _ _ h => h) (Or.inr ⟨by rfl, rfl⟩) hHeld ?_
    refine norm_any' (fun K hK => ?_)
    go_simp
    refine hK _ _ ?_
    clear hK K
    refine wpAnyH_take (i := 18) (v := .bool true) rfl (by kernel_rfl) (by kernel_rfl) (by kernel_rfl) (fun _ _ _ h => h) (Or.inl ⟨by rfl, by intro w hs; go_simp⟩) hHeld ?_
    refine norm_any' (fun K hK => ?_)
    go_simp
    refine hK _ _ ?_
    clear hK K
    refine wpAnyH_done (by kernel_rfl) ?_ _
    clear hHeld
    go_wp2
    go_ret2
    exact ⟨rfl, HR.out, HT.out⟩
  rw [decide_eq_false hd] at d3
  by_cases hs : s < l
  · have hE : (Gv.mk l s d).blk = (0, false, ⟨l, s, d⟩) := by unfold Gv.blk; rw [if_pos (.inl hs)]
    rw [hE]
    have hs' : decide (s < l) = true := decide_eq_true hs
    clear hE hd
    go_enter Try.func15, Try.ntmps15
    go_wp2_with fail
    refine wp_region_held_drew (S := fun X => X.cell? ⟨b, 1, none⟩ = some (.int .i64 l) ∧ X.cell? ⟨b, 2, none⟩ = some (.int .i64 s) ∧ X.cell? ⟨b, 3, none⟩ = some (.bool false)) (by kernel_rfl) ⟨d1, d2, d3⟩ (fun hHeld => ?_)
    refine wpAnyH_take (i := 0) (v := .pointer (some ⟨b, 0, none⟩)) rfl (by kernel_rfl) (by kernel_rfl) (by kernel_rfl) (fun _ _ _ h => h) (Or.inl ⟨by rfl, by intro w hs; go_simp⟩) hHeld ?_
    refine norm_any' (fun K hK => ?_)
    go_simp
    refine hK _ _ ?_
    clear hK K
    refine wpAnyH_ready (rs := [1]) (by kernel_rfl) (by simp) (AllReadyH.cons rfl (fun K hK => ?_) AllReadyH.nil)
    go_simp
    refine h1.mono ?_
    rintro e w' ⟨rfl, hw⟩
    subst w'
    refine hK.out _ _ hHeld (fun hHeld => ?_)
    clear hK K
    refine norm_any' (fun K hK => ?_)
    go_simp
    refine hK _ _ ?_
    clear hK K
    refine wpAnyH_take (i := 2) (v := .bool false) rfl (by kernel_rfl) (by kernel_rfl) (by kernel_rfl) (fun _ _ _ h => h) (Or.inl ⟨by rfl, by intro w hs; go_simp⟩) hHeld ?_
    refine norm_any' (fun K hK => ?_)
    go_simp
    refine hK _ _ ?_
    clear hK K
    refine wpAnyH_take (i := 3) (v := .pointer (some ⟨b, 0, none⟩)) rfl (by kernel_rfl) (by kernel_rfl) (by kernel_rfl) (fun _ _ _ h => h) (Or.inl ⟨by rfl, by intro w hs; go_simp⟩) hHeld ?_
    refine norm_any' (fun K hK => ?_)
    go_simp
    refine hK _ _ ?_
    clear hK K
    refine wpAnyH_take (i := 4) (v := .pointer (some ⟨b, 0, none⟩)) rfl (by kernel_rfl) (by kernel_rfl) (by kernel_rfl) (fun _ _ _ h => h) (Or.inl ⟨by rfl, by intro w hs; go_simp⟩) hHeld ?_
    refine norm_any' (fun K hK => ?_)
    go_simp
    refine hK _ _ ?_
    clear hK K
    refine wpAnyH_take (i := 5) (v := .pointer (some ⟨b, 3, none⟩)) rfl (by kernel_rfl) (by kernel_rfl) (by kernel_rfl) (fun _ _ _ h => h) (Or.inl ⟨by rfl, by intro w hs; go_simp⟩) hHeld ?_
    refine norm_any' (fun K hK => ?_)
    go_simp
    refine hK _ _ ?_
    clear hK K
    refine wpAnyH_take (i := 6) (v := .bool false) rfl (by kernel_rfl) (by kernel_rfl) (by kernel_rfl) (fun _ _ _ h => h) (Or.inl ⟨by rfl, by rintro w ⟨s1, s2, s3⟩; go_simp⟩) hHeld ?_
    refine norm_any' (fun K hK => ?_)
    go_simp
    refine hK _ _ ?_
    clear hK K
    refine wpAnyH_take (i := 7) (v := .bool false) rfl (by kernel_rfl) (by kernel_rfl) (by kernel_rfl) (fun _ _ _ h => h) (Or.inl ⟨by rfl, by intro w hs; go_simp⟩) hHeld ?_
    refine norm_any' (fun K hK => ?_)
    go_simp
    refine hK _ _ ?_
    clear hK K
    refine wpAnyH_take (i := 8) (v := .bool false) rfl (by kernel_rfl) (by kernel_rfl) (by kernel_rfl) (fun _ _ _ h => h) (Or.inl ⟨by rfl, by intro w hs; go_simp⟩) hHeld ?_
    refine norm_any' (fun K hK => ?_)
    go_simp
    refine hK _ _ ?_
    clear hK K
    refine wpAnyH_take (i := 9) (v := .pointer (some ⟨b, 0, none⟩)) rfl (by kernel_rfl) (by kernel_rfl) (by kernel_rfl) (fun _ _ _ h => h) (Or.inl ⟨by rfl, by intro w hs; go_simp⟩) hHeld ?_
    refine norm_any' (fun K hK => ?_)
    go_simp
    refine hK _ _ ?_
    clear hK K
    refine wpAnyH_take (i := 10) (v := .pointer (some ⟨b, 0, none⟩)) rfl (by kernel_rfl) (by kernel_rfl) (by kernel_rfl) (fun _ _ _ h => h) (Or.inl ⟨by rfl, by intro w hs; go_simp⟩) hHeld ?_
    refine norm_any' (fun K hK => ?_)
    go_simp
    refine hK _ _ ?_
    clear hK K
    refine wpAnyH_take (i := 11) (v := .pointer (some ⟨b, 2, none⟩)) rfl (by kernel_rfl) (by kernel_rfl) (by kernel_rfl) (fun _ _ _ h => h) (Or.inl ⟨by rfl, by intro w hs; go_simp⟩) hHeld ?_
    refine norm_any' (fun K hK => ?_)
    go_simp
    refine hK _ _ ?_
    clear hK K
    refine wpAnyH_take (i := 12) (v := .int .i64 s) rfl (by kernel_rfl) (by kernel_rfl) (by kernel_rfl) (fun _ _ _ h => h) (Or.inl ⟨by rfl, by rintro w ⟨s1, s2, s3⟩; go_simp⟩) hHeld ?_
    refine norm_any' (fun K hK => ?_)
    go_simp
    refine hK _ _ ?_
    clear hK K
    refine wpAnyH_take (i := 13) (v := .pointer (some ⟨b, 0, none⟩)) rfl (by kernel_rfl) (by kernel_rfl) (by kernel_rfl) (fun _ _ _ h => h) (Or.inl ⟨by rfl, by intro w hs; go_simp⟩) hHeld ?_
    refine norm_any' (fun K hK => ?_)
    go_simp
    refine hK _ _ ?_
    clear hK K
    refine wpAnyH_take (i := 14) (v := .pointer (some ⟨b, 0, none⟩)) rfl (by kernel_rfl) (by kernel_rfl) (by kernel_rfl) (fun _ _ _ h => h) (Or.inl ⟨by rfl, by intro w hs; go_simp⟩) hHeld ?_
    refine norm_any' (fun K hK => ?_)
    go_simp
    refine hK _ _ ?_
    clear hK K
    refine wpAnyH_take (i := 15) (v := .pointer (some ⟨b, 1, none⟩)) rfl (by kernel_rfl) (by kernel_rfl) (by kernel_rfl) (fun _ _ _ h => h) (Or.inl ⟨by rfl, by intro w hs; go_simp⟩) hHeld ?_
    refine norm_any' (fun K hK => ?_)
    go_simp
    refine hK _ _ ?_
    clear hK K
    refine wpAnyH_take (i := 16) (v := .int .i64 l) rfl (by kernel_rfl) (by kernel_rfl) (by kernel_rfl) (fun _ _ _ h => h) (Or.inl ⟨by rfl, by rintro w ⟨s1, s2, s3⟩; go_simp⟩) hHeld ?_
    refine norm_any' (fun K hK => ?_)
    go_simp
    refine hK _ _ ?_
    clear hK K
    refine wpAnyH_take (i := 17) (v := .bool true) rfl (by kernel_rfl) (by kernel_rfl) (by kernel_rfl) (fun _ _ _ h => h) (Or.inl ⟨by rfl, by intro w hs; go_simp⟩) hHeld ?_
    refine norm_any' (fun K hK => ?_)
    go_simp
    refine hK _ _ ?_
    clear hK K
    refine wpAnyH_take (i := 18) (v := .bool true) rfl (by kernel_rfl) (by kernel_rfl) (by kernel_rfl) (fun _ _ _ h => h) (Or.inl ⟨by rfl, by intro w hs; go_simp⟩) hHeld ?_
    refine norm_any' (fun K hK => ?_)
    go_simp
    refine hK _ _ ?_
    clear hK K
    refine wpAnyH_done (by kernel_rfl) ?_ _
    clear hHeld
    go_wp2
    go_ret2
    exact ⟨rfl, HR.out, HT.out⟩
  · have hE : (Gv.mk l s d).blk = (l, true, ⟨l, s, l⟩) := by unfold Gv.blk; rw [if_neg (by simp only; omega)]
    rw [hE]
    have hs' : decide (s < l) = false := decide_eq_false hs
    have R2 : Aside (Rt 53 (Gv.mk l s l).p (w.drew.setCell ⟨b, 3, none⟩ (.bool true)) b) := by
      show Rt 53 #[.bool true, .int .i64 l, .int .i64 s, .bool (decide (l = l))] _ b
      rw [decide_eq_true (rfl : l = l)]
      exact HR.out.set 3 _
    have HT2 : Aside (Tn b w (w.drew.setCell ⟨b, 3, none⟩ (.bool true))) := HT.out.trans (Tn.set HR.out 3 _)
    clear hE hd HR HT
    go_enter Try.func15, Try.ntmps15
    go_wp2_with fail
    refine wp_region_held_drew (S := fun X => X.cell? ⟨b, 1, none⟩ = some (.int .i64 l) ∧ X.cell? ⟨b, 2, none⟩ = some (.int .i64 s) ∧ X.cell? ⟨b, 3, none⟩ = some (.bool false)) (by kernel_rfl) ⟨d1, d2, d3⟩ (fun hHeld => ?_)
    refine wpAnyH_take (i := 0) (v := .pointer (some ⟨b, 0, none⟩)) rfl (by kernel_rfl) (by kernel_rfl) (by kernel_rfl) (fun _ _ _ h => h) (Or.inl ⟨by rfl, by intro w hs; go_simp⟩) hHeld ?_
    refine norm_any' (fun K hK => ?_)
    go_simp
    refine hK _ _ ?_
    clear hK K
    refine wpAnyH_ready (rs := [1]) (by kernel_rfl) (by simp) (AllReadyH.cons rfl (fun K hK => ?_) AllReadyH.nil)
    go_simp
    refine h1.mono ?_
    rintro e w' ⟨rfl, hw⟩
    subst w'
    refine hK.out _ _ hHeld (fun hHeld => ?_)
    clear hK K
    refine norm_any' (fun K hK => ?_)
    go_simp
    refine hK _ _ ?_
    clear hK K
    refine wpAnyH_take (i := 2) (v := .bool false) rfl (by kernel_rfl) (by kernel_rfl) (by kernel_rfl) (fun _ _ _ h => h) (Or.inl ⟨by rfl, by intro w hs; go_simp⟩) hHeld ?_
    refine norm_any' (fun K hK => ?_)
    go_simp
    refine hK _ _ ?_
    clear hK K
    refine wpAnyH_take (i := 3) (v := .pointer (some ⟨b, 0, none⟩)) rfl (by kernel_rfl) (by kernel_rfl) (by kernel_rfl) (fun _ _ _ h => h) (Or.inl ⟨by rfl, by intro w hs; go_simp⟩) hHeld ?_
    refine norm_any' (fun K hK => ?_)
    go_simp
    refine hK _ _ ?_
    clear hK K
    refine wpAnyH_take (i := 4) (v := .pointer (some ⟨b, 0, none⟩)) rfl (by kernel_rfl) (by kernel_rfl) (by kernel_rfl) (fun _ _ _ h => h) (Or.inl ⟨by rfl, by intro w hs; go_simp⟩) hHeld ?_
    refine norm_any' (fun K hK => ?_)
    go_simp
    refine hK _ _ ?_
    clear hK K
    refine wpAnyH_take (i := 5) (v := .pointer (some ⟨b, 3, none⟩)) rfl (by kernel_rfl) (by kernel_rfl) (by kernel_rfl) (fun _ _ _ h => h) (Or.inl ⟨by rfl, by intro w hs; go_simp⟩) hHeld ?_
    refine norm_any' (fun K hK => ?_)
    go_simp
    refine hK _ _ ?_
    clear hK K
    refine wpAnyH_take (i := 6) (v := .bool false) rfl (by kernel_rfl) (by kernel_rfl) (by kernel_rfl) (fun _ _ _ h => h) (Or.inl ⟨by rfl, by rintro w ⟨s1, s2, s3⟩; go_simp⟩) hHeld ?_
    refine norm_any' (fun K hK => ?_)
    go_simp
    refine hK _ _ ?_
    clear hK K
    refine wpAnyH_take (i := 7) (v := .bool false) rfl (by kernel_rfl) (by kernel_rfl) (by kernel_rfl) (fun _ _ _ h => h) (Or.inl ⟨by rfl, by intro w hs; go_simp⟩) hHeld ?_
    refine norm_any' (fun K hK => ?_)
    go_simp
    refine hK _ _ ?_
    clear hK K
    refine wpAnyH_take (i := 8) (v := .bool false) rfl (by kernel_rfl) (by kernel_rfl) (by kernel_rfl) (fun _ _ _ h => h) (Or.inl ⟨by rfl, by intro w hs; go_simp⟩) hHeld ?_
    refine norm_any' (fun K hK => ?_)
    go_simp
    refine hK _ _ ?_
    clear hK K
    refine wpAnyH_take (i := 9) (v := .pointer (some ⟨b, 0, none⟩)) rfl (by kernel_rfl) (by kernel_rfl) (by kernel_rfl) (fun _ _ _ h => h) (Or.inl ⟨by rfl, by intro w hs; go_simp⟩) hHeld ?_
    refine norm_any' (fun K hK => ?_)
    go_simp
    refine hK _ _ ?_
    clear hK K
    refine wpAnyH_take (i := 10) (v := .pointer (some ⟨b, 0, none⟩)) rfl (by kernel_rfl) (by kernel_rfl) (by kernel_rfl) (fun _ _ _ h => h) (Or.inl ⟨by rfl, by intro w hs; go_simp⟩) hHeld ?_
    refine norm_any' (fun K hK => ?_)
    go_simp
    refine hK _ _ ?_
    clear hK K
    refine wpAnyH_take (i := 11) (v := .pointer (some ⟨b, 2, none⟩)) rfl (by kernel_rfl) (by kernel_rfl) (by kernel_rfl) (fun _ _ _ h => h) (Or.inl ⟨by rfl, by intro w hs; go_simp⟩) hHeld ?_
    refine norm_any' (fun K hK => ?_)
    go_simp
    refine hK _ _ ?_
    clear hK K
    refine wpAnyH_take (i := 12) (v := .int .i64 s) rfl (by kernel_rfl) (by kernel_rfl) (by kernel_rfl) (fun _ _ _ h => h) (Or.inl ⟨by rfl, by rintro w ⟨s1, s2, s3⟩; go_simp⟩) hHeld ?_
    refine norm_any' (fun K hK => ?_)
    go_simp
    refine hK _ _ ?_
    clear hK K
    refine wpAnyH_take (i := 13) (v := .pointer (some ⟨b, 0, none⟩)) rfl (by kernel_rfl) (by kernel_rfl) (by kernel_rfl) (fun _ _ _ h => h) (Or.inl ⟨by rfl, by intro w hs; go_simp⟩) hHeld ?_
    refine norm_any' (fun K hK => ?_)
    go_simp
    refine hK _ _ ?_
    clear hK K
    refine wpAnyH_take (i := 14) (v := .pointer (some ⟨b, 0, none⟩)) rfl (by kernel_rfl) (by kernel_rfl) (by kernel_rfl) (fun _ _ _ h => h) (Or.inl ⟨by rfl, by intro w hs; go_simp⟩) hHeld ?_
    refine norm_any' (fun K hK => ?_)
    go_simp
    refine hK _ _ ?_
    clear hK K
    refine wpAnyH_take (i := 15) (v := .pointer (some ⟨b, 1, none⟩)) rfl (by kernel_rfl) (by kernel_rfl) (by kernel_rfl) (fun _ _ _ h => h) (Or.inl ⟨by rfl, by intro w hs; go_simp⟩) hHeld ?_
    refine norm_any' (fun K hK => ?_)
    go_simp
    refine hK _ _ ?_
    clear hK K
    refine wpAnyH_take (i := 16) (v := .int .i64 l) rfl (by kernel_rfl) (by kernel_rfl) (by kernel_rfl) (fun _ _ _ h => h) (Or.inl ⟨by rfl, by rintro w ⟨s1, s2, s3⟩; go_simp⟩) hHeld ?_
    refine norm_any' (fun K hK => ?_)
    go_simp
    refine hK _ _ ?_
    clear hK K
    refine wpAnyH_take (i := 17) (v := .bool false) rfl (by kernel_rfl) (by kernel_rfl) (by kernel_rfl) (fun _ _ _ h => h) (Or.inl ⟨by rfl, by intro w hs; go_simp⟩) hHeld ?_
    refine norm_any' (fun K hK => ?_)
    go_simp
    refine hK _ _ ?_
    clear hK K
    refine wpAnyH_take (i := 18) (v := .bool false) rfl (by kernel_rfl) (by kernel_rfl) (by kernel_rfl) (fun _ _ _ h => h) (Or.inl ⟨by rfl, by intro w hs; go_simp⟩) hHeld ?_
    refine norm_any' (fun K hK => ?_)
    go_simp
    refine hK _ _ ?_
    clear hK K
    refine wpAnyH_done (by kernel_rfl) ?_ _
    clear hHeld
    generalize w.drew = X at *
    go_wp2
    go_ret2
    exact ⟨rfl, R2.out, HT2.out⟩
set_option maxRecDepth 100000 in
set_option maxHeartbeats 1000000 in
theorem rblocked_c (b : Nat) (v : Gv) (w : World) (h : Rt 40 v.r w b) : Calls Try.prog 16 #[.pointer (some ⟨b, 0, none⟩)] w fun e w' => e = .returned (.tuple #[.int .i64 v.blk.1, .bool v.blk.2.1]) ∧ Rt 40 v.blk.2.2.r w' b ∧ Tn b w w' := by
  have r0 : Rt 40 v.r w.drew b := h.below (Below.refl _ _).drew
  have d1 : w.drew.cell? ⟨b, 0, none⟩ = some (.int .i64 v.l) := h.cell 0
  have d2 : w.drew.cell? ⟨b, 1, none⟩ = some (.int .i64 v.s) := h.cell 1
  have d3 : w.drew.cell? ⟨b, 2, none⟩ = some (.int .i64 v.d) := h.cell 2
  have f3 : w.drew.frozen? ⟨b, 2, none⟩ = false := h.frozen 2
  have HR : Aside (Rt 40 v.r w.drew b) := r0
  have HT : Aside (Tn b w w.drew) := Tn.drew _ _
  obtain ⟨l, s, d⟩ := v
  dsimp only at *
  clear h r0
  by_cases hs : s < l
  · have hE : (Gv.mk l s d).blk = (0, false, ⟨l, s, d⟩) := by unfold Gv.blk; rw [if_pos (.inl hs)]
    rw [hE]
    have hs' : decide (s < l) = true := decide_eq_true hs
    clear hE
    go_enter Try.func16, Try.ntmps16
    go_wp2_with fail
    refine wp_region_held_drew (S := fun X => X.cell? ⟨b, 0, none⟩ = some (.int .i64 l) ∧ X.cell? ⟨b, 1, none⟩ = some (.int .i64 s) ∧ X.cell? ⟨b, 2, none⟩ = some (.int .i64 d)) (by kernel_rfl) ⟨d1, d2, d3⟩ (fun hHeld => ?_)
    refine wpAnyH_take (i := 0) (v := .pointer (some ⟨b, 0, none⟩)) rfl (by kernel_rfl) (by kernel_rfl) (by kernel_rfl) (fun _ _ _ h => h) (Or.inl ⟨by rfl, by intro w hs; go_simp⟩) hHeld ?_
    refine norm_any' (fun K hK => ?_)
    go_simp
    refine hK _ _ ?_
    clear hK K
    refine wpAnyH_take (i := 1) (v := .pointer (some ⟨b, 0, none⟩)) rfl (by kernel_rfl) (by kernel_rfl) (by kernel_rfl) (fun _ _ _ h => h) (Or.inl ⟨by rfl, by intro w hs; go_simp⟩) hHeld ?_
    refine norm_any' (fun K hK => ?_)
    go_simp
    refine hK _ _ ?_
    clear hK K
    refine wpAnyH_take (i := 2) (v := .pointer (some ⟨b, 1, none⟩)) rfl (by kernel_rfl) (by kernel_rfl) (by kernel_rfl) (fun _ _ _ h => h) (Or.inl ⟨by rfl, by intro w hs; go_simp⟩) hHeld ?_
    refine norm_any' (fun K hK => ?_)
    go_simp
    refine hK _ _ ?_
    clear hK K
    refine wpAnyH_take (i := 3) (v := .int .i64 s) rfl (by kernel_rfl) (by kernel_rfl) (by kernel_rfl) (fun _ _ _ h => h) (Or.inl ⟨by rfl, by rintro w ⟨s1, s2, s3⟩; go_simp⟩) hHeld ?_
    refine norm_any' (fun K hK => ?_)
    go_simp
    refine hK _ _ ?_
    clear hK K
    refine wpAnyH_take (i := 4) (v := .pointer (some ⟨b, 0, none⟩)) rfl (by kernel_rfl) (by kernel_rfl) (by kernel_rfl) (fun _ _ _ h => h) (Or.inl ⟨by rfl, by intro w hs; go_simp⟩) hHeld ?_
    refine norm_any' (fun K hK => ?_)
    go_simp
    refine hK _ _ ?_
    clear hK K
    refine wpAnyH_take (i := 5) (v := .pointer (some ⟨b, 0, none⟩)) rfl (by kernel_rfl) (by kernel_rfl) (by kernel_rfl) (fun _ _ _ h => h) (Or.inl ⟨by rfl, by intro w hs; go_simp⟩) hHeld ?_
    refine norm_any' (fun K hK => ?_)
    go_simp
    refine hK _ _ ?_
    clear hK K
    refine wpAnyH_take (i := 6) (v := .pointer (some ⟨b, 0, none⟩)) rfl (by kernel_rfl) (by kernel_rfl) (by kernel_rfl) (fun _ _ _ h => h) (Or.inl ⟨by rfl, by intro w hs; go_simp⟩) hHeld ?_
    refine norm_any' (fun K hK => ?_)
    go_simp
    refine hK _ _ ?_
    clear hK K
    refine wpAnyH_take (i := 7) (v := .int .i64 l) rfl (by kernel_rfl) (by kernel_rfl) (by kernel_rfl) (fun _ _ _ h => h) (Or.inl ⟨by rfl, by rintro w ⟨s1, s2, s3⟩; go_simp⟩) hHeld ?_
    refine norm_any' (fun K hK => ?_)
    go_simp
    refine hK _ _ ?_
    clear hK K
    refine wpAnyH_take (i := 8) (v := .bool true) rfl (by kernel_rfl) (by kernel_rfl) (by kernel_rfl) (fun _ _ _ h => h) (Or.inl ⟨by rfl, by intro w hs; go_simp⟩) hHeld ?_
    refine norm_any' (fun K hK => ?_)
    go_simp
    refine hK _ _ ?_
    clear hK K
    refine wpAnyH_take (i := 9) (v := .bool true) rfl (by kernel_rfl) (by kernel_rfl) (by kernel_rfl) (fun _ _ _ h => h) (Or.inl ⟨by rfl, by intro w hs; go_simp⟩) hHeld ?_
    refine norm_any' (fun K hK => ?_)
    go_simp
    refine hK _ _ ?_
    clear hK K
    refine wpAnyH_take (i := 10) (v := undef) rfl (by kernel_rfl) (by kernel_rfl) (by kernel_rfl) (fun _ _ _ h => h) (Or.inr ⟨by rfl, rfl⟩) hHeld ?_
    refine norm_any' (fun K hK => ?_)
    go_simp
    refine hK _ _ ?_
    clear hK K
    refine wpAnyH_take (i := 11) (v := undef) rfl (by kernel_rfl) (by kernel_rfl) (by kernel_rfl) (fun _ _ _ h => h) (Or.inr ⟨by rfl, rfl⟩) hHeld ?_
    refine norm_any' (fun K hK => ?_)
    go_simp
    refine hK _ _ ?_
    clear hK K
    refine wpAnyH_take (i := 12) (v := undef) rfl (by kernel_rfl) (by kernel_rfl) (by kernel_rfl) (fun _ _ _ h => h) (Or.inr ⟨by rfl, rfl⟩) hHeld ?_
    refine norm_any' (fun K hK => ?_)
    go_simp
    refine hK _ _ ?_
    clear hK K
    refine wpAnyH_take (i := 13) (v := undef) rfl (by kernel_rfl) (by kernel_rfl) (by kernel_rfl) (fun _ _ _ h => h) (Or.inr ⟨by rfl, rfl⟩) hHeld ?_
    refine norm_any' (fun K hK => ?_)
    go_simp
    refine hK _ _ ?_
    clear hK K
    refine wpAnyH_take (i := 14) (v := undef) rfl (by kernel_rfl) (by kernel_rfl) (by kernel_rfl) (fun _ _ _ h => h) (Or.inr ⟨by rfl, rfl⟩) hHeld ?_
    refine norm_any' (fun K hK => ?_)
    go_simp
    refine hK _ _ ?_
    clear hK K
    refine wpAnyH_take (i := 15) (v := undef) rfl (by kernel_rfl) (by kernel_rfl) (by kernel_rfl) (fun _ _ _ h => h) (Or.inr ⟨by rfl, rfl⟩) hHeld ?_
    refine norm_any' (fun K hK => ?_)
    go_simp
    refine hK _ _ ?_
    clear hK K
    refine wpAnyH_take (i := 16) (v := undef) rfl (by kernel_rfl) (by kernel_rfl) (by kernel_rfl) (fun _ _ _ h => h) (Or.inr ⟨by rfl, rfl⟩) hHeld ?_
    refine norm_any' (fun K hK => ?_)
    go_simp
    refine hK _ _ ?_
    clear hK K
    refine wpAnyH_take (i := 17) (v := undef) rfl (by kernel_rfl) (by kernel_rfl) (by kernel_rfl) (fun _ _ _ h => h) (Or.inr ⟨by rfl, rfl⟩) hHeld ?_
    refine norm_any' (fun K hK => ?_)
    go_simp
    refine hK _ _ ?_
    clear hK K
    refine wpAnyH_take (i := 18) (v := undef) rfl (by kernel_rfl) (by kernel_rfl) (by kernel_rfl) (fun _ _ _ h => h) (Or.inr ⟨by rfl, rfl⟩) hHeld ?_
    refine norm_any' (fun K hK => ?_)
    go_simp
    refine hK _ _ ?_
    clear hK K
    refine wpAnyH_take (i := 19) (v := .bool true) rfl (by kernel_rfl) (by kernel_rfl) (by kernel_rfl) (fun _ _ _ h => h) (Or.inl ⟨by rfl, by intro w hs; go_simp⟩) hHeld ?_
    refine norm_any' (fun K hK => ?_)
    go_simp
    refine hK _ _ ?_
    clear hK K
    refine wpAnyH_done (by kernel_rfl) ?_ _
    clear hHeld
    go_wp2
    go_ret2
    exact ⟨rfl, HR.out, HT.out⟩
  have hs' : decide (s < l) = false := decide_eq_false hs
  by_cases hd : d = l
  · have hE : (Gv.mk l s d).blk = (0, false, ⟨l, s, d⟩) := by unfold Gv.blk; rw [if_pos (.inr hd)]
    rw [hE]
    have hd' : (d == l) = true := by simpa using hd
    clear hE hd
    go_enter Try.func16, Try.ntmps16
    go_wp2_with fail
    refine wp_region_held_drew (S := fun X => X.cell? ⟨b, 0, none⟩ = some (.int .i64 l) ∧ X.cell? ⟨b, 1, none⟩ = some (.int .i64 s) ∧ X.cell? ⟨b, 2, none⟩ = some (.int .i64 d)) (by kernel_rfl) ⟨d1, d2, d3⟩ (fun hHeld => ?_)
    refine wpAnyH_take (i := 0) (v := .pointer (some ⟨b, 0, none⟩)) rfl (by kernel_rfl) (by kernel_rfl) (by kernel_rfl) (fun _ _ _ h => h) (Or.inl ⟨by rfl, by intro w hs; go_simp⟩) hHeld ?_
    refine norm_any' (fun K hK => ?_)
    go_simp
    refine hK _ _ ?_
    clear hK K
    refine wpAnyH_take (i := 1) (v := .pointer (some ⟨b, 0, none⟩)) rfl (by kernel_rfl) (by kernel_rfl) (by kernel_rfl) (fun _ _ _ h => h) (Or.inl ⟨by rfl, by intro w hs; go_simp⟩) hHeld ?_
    refine norm_any' (fun K hK => ?_)
    go_simp
    refine hK _ _ ?_
    clear hK K
    refine wpAnyH_take (i := 2) (v := .pointer (some ⟨b, 1, none⟩)) rfl (by kernel_rfl) (by kernel_rfl) (by kernel_rfl) (fun _ _ _ h => h) (Or.inl ⟨by rfl, by intro w hs; go_simp⟩) hHeld ?_
    refine norm_any' (fun K hK => ?_)
    go_simp
    refine hK _ _ ?_
    clear hK K
    refine wpAnyH_take (i := 3) (v := .int .i64 s) rfl (by kernel_rfl) (by kernel_rfl) (by kernel_rfl) (fun _ _ _ h => h) (Or.inl ⟨by rfl, by rintro w ⟨s1, s2, s3⟩; go_simp⟩) hHeld ?_
    refine norm_any' (fun K hK => ?_)
    go_simp
    refine hK _ _ ?_
    clear hK K
    refine wpAnyH_take (i := 4) (v := .pointer (some ⟨b, 0, none⟩)) rfl (by kernel_rfl) (by kernel_rfl) (by kernel_rfl) (fun _ _ _ h => h) (Or.inl ⟨by rfl, by intro w hs; go_simp⟩) hHeld ?_
    refine norm_any' (fun K hK => ?_)
    go_simp
    refine hK _ _ ?_
    clear hK K
    refine wpAnyH_take (i := 5) (v := .pointer (some ⟨b, 0, none⟩)) rfl (by kernel_rfl) (by kernel_rfl) (by kernel_rfl) (fun _ _ _ h => h) (Or.inl ⟨by rfl, by intro w hs; go_simp⟩) hHeld ?_
    refine norm_any' (fun K hK => ?_)
    go_simp
    refine hK _ _ ?_
    clear hK K
    refine wpAnyH_take (i := 6) (v := .pointer (some ⟨b, 0, none⟩)) rfl (by kernel_rfl) (by kernel_rfl) (by kernel_rfl) (fun _ _ _ h => h) (Or.inl ⟨by rfl, by intro w hs; go_simp⟩) hHeld ?_
    refine norm_any' (fun K hK => ?_)
    go_simp
    refine hK _ _ ?_
    clear hK K
    refine wpAnyH_take (i := 7) (v := .int .i64 l) rfl (by kernel_rfl) (by kernel_rfl) (by kernel_rfl) (fun _ _ _ h => h) (Or.inl ⟨by rfl, by rintro w ⟨s1, s2, s3⟩; go_simp⟩) hHeld ?_
    refine norm_any' (fun K hK => ?_)
    go_simp
    refine hK _ _ ?_
    clear hK K
    refine wpAnyH_take (i := 8) (v := .bool false) rfl (by kernel_rfl) (by kernel_rfl) (by kernel_rfl) (fun _ _ _ h => h) (Or.inl ⟨by rfl, by intro w hs; go_simp⟩) hHeld ?_
    refine norm_any' (fun K hK => ?_)
    go_simp
    refine hK _ _ ?_
    clear hK K
    refine wpAnyH_take (i := 9) (v := .bool false) rfl (by kernel_rfl) (by kernel_rfl) (by kernel_rfl) (fun _ _ _ h => h) (Or.inl ⟨by rfl, by intro w hs; go_simp⟩) hHeld ?_
    refine norm_any' (fun K hK => ?_)
    go_simp
    refine hK _ _ ?_
    clear hK K
    refine wpAnyH_take (i := 10) (v := .pointer (some ⟨b, 0, none⟩)) rfl (by kernel_rfl) (by kernel_rfl) (by kernel_rfl) (fun _ _ _ h => h) (Or.inl ⟨by rfl, by intro w hs; go_simp⟩) hHeld ?_
    refine norm_any' (fun K hK => ?_)
    go_simp
    refine hK _ _ ?_
    clear hK K
    refine wpAnyH_take (i := 11) (v := .pointer (some ⟨b, 0, none⟩)) rfl (by kernel_rfl) (by kernel_rfl) (by kernel_rfl) (fun _ _ _ h => h) (Or.inl ⟨by rfl, by intro w hs; go_simp⟩) hHeld ?_
    refine norm_any' (fun K hK => ?_)
    go_simp
    refine hK _ _ ?_
    clear hK K
    refine wpAnyH_take (i := 12) (v := .pointer (some ⟨b, 2, none⟩)) rfl (by kernel_rfl) (by kernel_rfl) (by kernel_rfl) (fun _ _ _ h => h) (Or.inl ⟨by rfl, by intro w hs; go_simp⟩) hHeld ?_
    refine norm_any' (fun K hK => ?_)
    go_simp
    refine hK _ _ ?_
    clear hK K
    refine wpAnyH_take (i := 13) (v := .int .i64 d) rfl (by kernel_rfl) (by kernel_rfl) (by kernel_rfl) (fun _ _ _ h => h) (Or.inl ⟨by rfl, by rintro w ⟨s1, s2, s3⟩; go_simp⟩) hHeld ?_
    refine norm_any' (fun K hK => ?_)
    go_simp
    refine hK _ _ ?_
    clear hK K
    refine wpAnyH_take (i := 14) (v := .pointer (some ⟨b, 0, none⟩)) rfl (by kernel_rfl) (by kernel_rfl) (by kernel_rfl) (fun _ _ _ h => h) (Or.inl ⟨by rfl, by intro w hs; go_simp⟩) hHeld ?_
    refine norm_any' (fun K hK => ?_)
    go_simp
    refine hK _ _ ?_
    clear hK K
    refine wpAnyH_take (i := 15) (v := .pointer (some ⟨b, 0, none⟩)) rfl (by kernel_rfl) (by kernel_rfl) (by kernel_rfl) (fun _ _ _ h => h) (Or.inl ⟨by rfl, by intro w hs; go_simp⟩) hHeld ?_
    refine norm_any' (fun K hK => ?_)
    go_simp
    refine hK _ _ ?_
    clear hK K
    refine wpAnyH_take (i := 16) (v := .pointer (some ⟨b, 0, none⟩)) rfl (by kernel_rfl) (by kernel_rfl) (by kernel_rfl) (fun _ _ _ h => h) (Or.inl ⟨by rfl, by intro w hs; go_simp⟩) hHeld ?_
    refine norm_any' (fun K hK => ?_)
    go_simp
    refine hK _ _ ?_
    clear hK K
    refine wpAnyH_take (i := 17) (v := .int .i64 l) rfl (by kernel_rfl) (by kernel_rfl) (by kernel_rfl) (fun _ _ _ h => h) (Or.inl ⟨by rfl, by rintro w ⟨s1, s2, s3⟩; go_simp⟩) hHeld ?_
    refine norm_any' (fun K hK => ?_)
    go_simp
    refine hK _ _ ?_
    clear hK K
    refine wpAnyH_take (i := 18) (v := .bool true) rfl (by kernel_rfl) (by kernel_rfl) (by kernel_rfl) (fun _ _ _ h => h) (Or.inl ⟨by rfl, by intro w hs; go_simp⟩) hHeld ?_
    refine norm_any' (fun K hK => ?_)
    go_simp
    refine hK _ _ ?_
    clear hK K
    refine wpAnyH_take (i := 19) (v := .bool true) rfl (by kernel_rfl) (by kernel_rfl) (by kernel_rfl) (fun _ _ _ h => h) (Or.inl ⟨by rfl, by intro w hs; go_simp⟩) hHeld ?_
    refine norm_any' (fun K hK => ?_)
    go_simp
    refine hK _ _ ?_
    clear hK K
    refine wpAnyH_done (by kernel_rfl) ?_ _
    clear hHeld
    go_wp2
    go_ret2
    exact ⟨rfl, HR.out, HT.out⟩
  · have hE : (Gv.mk l s d).blk = (l, true, ⟨l, s, l⟩) := by unfold Gv.blk; rw [if_neg (by simp only; omega)]
    rw [hE]
    have hd' : (d == l) = false := by simpa using hd
    have R1 := HR.out.set 2 (.int .i64 l)
    have R2 : Aside (Rt 40 (Gv.mk l s l).r (w.drew.setCell ⟨b, 2, none⟩ (.int .i64 l)) b) := R1
    have HT2 : Aside (Tn b w (w.drew.setCell ⟨b, 2, none⟩ (.int .i64 l))) := HT.out.trans (Tn.set HR.out 2 _)
    clear hE hd HR HT R1
    go_enter Try.func16, Try.ntmps16
    go_wp2_with fail
    refine wp_region_held_drew (S := fun X => X.cell? ⟨b, 0, none⟩ = some (.int .i64 l) ∧ X.cell? ⟨b, 1, none⟩ = some (.int .i64 s) ∧ X.cell? ⟨b, 2, none⟩ = some (.int .i64 d)) (by kernel_rfl) ⟨d1, d2, d3⟩ (fun hHeld => ?_)
    refine wpAnyH_take (i := 0) (v := .pointer (some ⟨b, 0, none⟩)) rfl (by kernel_rfl) (by kernel_rfl) (by kernel_rfl) (fun _ _ _ h => h) (Or.inl ⟨by rfl, by intro w hs; go_simp⟩) hHeld ?_
    refine norm_any' (fun K hK => ?_)
    go_simp
    refine hK _ _ ?_
    clear hK K
    refine wpAnyH_take (i := 1) (v := .pointer (some ⟨b, 0, none⟩)) rfl (by kernel_rfl) (by kernel_rfl) (by kernel_rfl) (fun _ _ _ h => h) (Or.inl ⟨by rfl, by intro w hs; go_simp⟩) hHeld ?_
    refine norm_any' (fun K hK => ?_)
    go_simp
    refine hK _ _ ?_
    clear hK K
    refine wpAnyH_take (i := 2) (v := .pointer (some ⟨b, 1, none⟩)) rfl (by kernel_rfl) (by kernel_rfl) (by kernel_rfl) (fun _ _ _ h => h) (Or.inl ⟨by rfl, by intro w hs; go_simp⟩) hHeld ?_
    refine norm_any' (fun K hK => ?_)
    go_simp
    refine hK _ _ ?_
    clear hK K
    refine wpAnyH_take (i := 3) (v := .int .i64 s) rfl (by kernel_rfl) (by kernel_rfl) (by kernel_rfl) (fun _ _ _ h => h) (Or.inl ⟨by rfl, by rintro w ⟨s1, s2, s3⟩; go_simp⟩) hHeld ?_
    refine norm_any' (fun K hK => ?_)
    go_simp
    refine hK _ _ ?_
    clear hK K
    refine wpAnyH_take (i := 4) (v := .pointer (some ⟨b, 0, none⟩)) rfl (by kernel_rfl) (by kernel_rfl) (by kernel_rfl) (fun _ _ _ h => h) (Or.inl ⟨by rfl, by intro w hs; go_simp⟩) hHeld ?_
    refine norm_any' (fun K hK => ?_)
    go_simp
    refine hK _ _ ?_
    clear hK K
    refine wpAnyH_take (i := 5) (v := .pointer (some ⟨b, 0, none⟩)) rfl (by kernel_rfl) (by kernel_rfl) (by kernel_rfl) (fun _ _ _ h => h) (Or.inl ⟨by rfl, by intro w hs; go_simp⟩) hHeld ?_
    refine norm_any' (fun K hK => ?_)
    go_simp
    refine hK _ _ ?_
    clear hK K
    refine wpAnyH_take (i := 6) (v := .pointer (some ⟨b, 0, none⟩)) rfl (by kernel_rfl) (by kernel_rfl) (by kernel_rfl) (fun _ _ _ h => h) (Or.inl ⟨by rfl, by intro w hs; go_simp⟩) hHeld ?_
    refine norm_any' (fun K hK => ?_)
    go_simp
    refine hK _ _ ?_
    clear hK K
    refine wpAnyH_take (i := 7) (v := .int .i64 l) rfl (by kernel_rfl) (by kernel_rfl) (by kernel_rfl) (fun _ _ _ h => h) (Or.inl ⟨by rfl, by rintro w ⟨s1, s2, s3⟩; go_simp⟩) hHeld ?_
    refine norm_any' (fun K hK => ?_)
    go_simp
    refine hK _ _ ?_
    clear hK K
    refine wpAnyH_take (i := 8) (v := .bool false) rfl (by kernel_rfl) (by kernel_rfl) (by kernel_rfl) (fun _ _ _ h => h) (Or.inl ⟨by rfl, by intro w hs; go_simp⟩) hHeld ?_
    refine norm_any' (fun K hK => ?_)
    go_simp
    refine hK _ _ ?_
    clear hK K
    refine wpAnyH_take (i := 9) (v := .bool false) rfl (by kernel_rfl) (by kernel_rfl) (by kernel_rfl) (fun _ _ _ h => h) (Or.inl ⟨by rfl, by intro w hs; go_simp⟩) hHeld ?_
    refine norm_any' (fun K hK => ?_)
    go_simp
    refine hK _ _ ?_
    clear hK K
    refine wpAnyH_take (i := 10) (v := .pointer (some ⟨b, 0, none⟩)) rfl (by kernel_rfl) (by kernel_rfl) (by kernel_rfl) (fun _ _ _ h => h) (Or.inl ⟨by rfl, by intro w hs; go_simp⟩) hHeld ?_
    refine norm_any' (fun K hK => ?_)
    go_simp
    refine hK _ _ ?_
    clear hK K
    refine wpAnyH_take (i := 11) (v := .pointer (some ⟨b, 0, none⟩)) rfl (by kernel_rfl) (by kernel_rfl) (by kernel_rfl) (fun _ _ _ h => h) (Or.inl ⟨by rfl, by intro w hs; go_simp⟩) hHeld ?_
    refine norm_any' (fun K hK => ?_)
    go_simp
    refine hK _ _ ?_
    clear hK K
    refine wpAnyH_take (i := 12) (v := .pointer (some ⟨b, 2, none⟩)) rfl (by kernel_rfl) (by kernel_rfl) (by kernel_rfl) (fun _ _ _ h => h) (Or.inl ⟨by rfl, by intro w hs; go_simp⟩) hHeld ?_
    refine norm_any' (fun K hK => ?_)
    go_simp
    refine hK _ _ ?_
    clear hK K
    refine wpAnyH_take (i := 13) (v := .int .i64 d) rfl (by kernel_rfl) (by kernel_rfl) (by kernel_rfl) (fun _ _ _ h => h) (Or.inl ⟨by rfl, by rintro w ⟨s1, s2, s3⟩; go_simp⟩) hHeld ?_
    refine norm_any' (fun K hK => ?_)
    go_simp
    refine hK _ _ ?_
    clear hK K
    refine wpAnyH_take (i := 14) (v := .pointer (some ⟨b, 0, none⟩)) rfl (by kernel_rfl) (by kernel_rfl) (by kernel_rfl) (fun _ _ _ h => h) (Or.inl ⟨by rfl, by intro w hs; go_simp⟩) hHeld ?_
    refine norm_any' (fun K hK => ?_)
    go_simp
    refine hK _ _ ?_
    clear hK K
    refine wpAnyH_take (i := 15) (v := .pointer (some ⟨b, 0, none⟩)) rfl (by kernel_rfl) (by kernel_rfl) (by kernel_rfl) (fun _ _ _ h => h) (Or.inl ⟨by rfl, by intro w hs; go_simp⟩) hHeld ?_
    refine norm_any' (fun K hK => ?_)
    go_simp
    refine hK _ _ ?_
    clear hK K
    refine wpAnyH_take (i := 16) (v := .pointer (some ⟨b, 0, none⟩)) rfl (by kernel_rfl) (by kernel_rfl) (by kernel_rfl) (fun _ _ _ h => h) (Or.inl ⟨by rfl, by intro w hs; go_simp⟩) hHeld ?_
    refine norm_any' (fun K hK => ?_)
    go_simp
    refine hK _ _ ?_
    clear hK K
    refine wpAnyH_take (i := 17) (v := .int .i64 l) rfl (by kernel_rfl) (by kernel_rfl) (by kernel_rfl) (fun _ _ _ h => h) (Or.inl ⟨by rfl, by rintro w ⟨s1, s2, s3⟩; go_simp⟩) hHeld ?_
    refine norm_any' (fun K hK => ?_)
    go_simp
    refine hK _ _ ?_
    clear hK K
    refine wpAnyH_take (i := 18) (v := .bool false) rfl (by kernel_rfl) (by kernel_rfl) (by kernel_rfl) (fun _ _ _ h => h) (Or.inl ⟨by rfl, by intro w hs; go_simp⟩) hHeld ?_
    refine norm_any' (fun K hK => ?_)
    go_simp
    refine hK _ _ ?_
    clear hK K
    refine wpAnyH_take (i := 19) (v := .bool false) rfl (by kernel_rfl) (by kernel_rfl) (by kernel_rfl) (fun _ _ _ h => h) (Or.inl ⟨by rfl, by intro w hs; go_simp⟩) hHeld ?_
    refine norm_any' (fun K hK => ?_)
    go_simp
    refine hK _ _ ?_
    clear hK K
    refine wpAnyH_done (by kernel_rfl) ?_ _
    clear hHeld
    generalize w.drew = X at *
    go_wp2
    go_ret2
    exact ⟨rfl, R2.out, HT2.out⟩
end Go.Proofs.Ytdfpfecjlpgfaaa
