/- isKind. -/
import Derived.Test.YtcchlicokglmnaaHs
import Derived.MapKept
namespace Go.Proofs.Ytcchlicokglmnaa
open Go.ChangeShapes Go.WideShapes Go.ChangeAt Go.RowKit Go.Lib Go.MapKept
set_option linter.unusedVariables false
theorem u77 : Try.prog.underlying 77 = some (.map 3 75) := by kernel_rfl
theorem u3k : Try.prog.underlying 3 = some (.int .i64) := by kernel_rfl
theorem mm_run (w : World) : (Instr.makeMap 77 none).run Try.prog w = .ok (.map (some w.heap.size)) (w.alloc (.map #[] 0)) := rfl
abbrev en (k : Int) (c : Nat) : MapEntry := { key := .int .i64 k, val := .agg #[], born := c }
theorem ck_run (b : Bool) (k : Int) (w : World) : (Instr.checkKey b 10000 3 (.int .i64 k)).run Try.prog w = .ok () w := by
  rw [show (10000 : Nat) = 9999 + 1 from rfl, Instr.checkKey]
  simp [run_underlying u3k, go_sem]
theorem ins_run (W : World) (es : Array MapEntry) (c : Nat) (k : Int) (hf : Instr.findNow (.int .i64) (.int .i64 k) es.toList 0 = some none) :
    (Instr.mapUpdate 77 (.map (some W.heap.size)) (.int .i64 k) (.agg #[])).run Try.prog (W.alloc (.map es c)) = .ok () (W.alloc (.map (es.push (en k c)) (c + 1))) := by
  have hb : (W.alloc (.map es c)).heap[W.heap.size]? = some (.map es c) := heap_alloc_new W _
  unfold Instr.mapUpdate
  simp only [Sem.run_bind, run_underlying u77, run_underlying u3k, Go.MapKept.run_getObj_map hb, ck_run, Instr.findKey, hf, Result.andThen_ok, Sem.run_pure, Go.MapKept.run_setObj_map _ hb]
  congr 1
  unfold World.alloc
  congr 1
  apply Array.ext'
  simp
def isK (k : Int) : Bool := decide (k = 1 ∨ k = 2 ∨ k = 8 ∨ k = 11 ∨ k = 15 ∨ k = 20 ∨ k = 4)
def E7 : Array MapEntry := #[en 1 0, en 2 1, en 8 2, en 11 3, en 15 4, en 20 5, en 4 6]
theorem z75 (w : World) : (zeroValue 75).run Try.prog w = .ok (.agg #[]) w := by kernel_rfl
theorem lk_run (X : World) (b : Nat) (k : Int) (hb : X.heap[b]? = some (.map E7 7)) : (Instr.lookup 77 (.map (some b)) (.int .i64 k) true).run Try.prog X = .ok (.tuple #[.agg #[], .bool (isK k)]) X := by
  unfold Instr.lookup
  simp only [Sem.run_bind, run_underlying u77, run_underlying u3k, Go.MapKept.run_getObj_map hb, ck_run, Instr.findKey, Result.andThen_ok, Sem.run_pure]
  by_cases h1 : k = 1
  · subst h1; rfl
  by_cases h2 : k = 2
  · subst h2; rfl
  by_cases h8 : k = 8
  · subst h8; rfl
  by_cases h11 : k = 11
  · subst h11; rfl
  by_cases h15 : k = 15
  · subst h15; rfl
  by_cases h20 : k = 20
  · subst h20; rfl
  by_cases h4 : k = 4
  · subst h4; rfl
  have hf : Instr.findNow (.int .i64) (.int .i64 k) E7.toList 0 = some none := by
    have b1 : (k == 1) = false := by simpa using h1
    have b2 : (k == 2) = false := by simpa using h2
    have b8 : (k == 8) = false := by simpa using h8
    have b11 : (k == 11) = false := by simpa using h11
    have b15 : (k == 15) = false := by simpa using h15
    have b20 : (k == 20) = false := by simpa using h20
    have b4 : (k == 4) = false := by simpa using h4
    simp only [E7, Instr.findNow, Instr.sameNow, b1, b2, b8, b11, b15, b20, b4, if_true]
  have hk : isK k = false := by simp [isK, h1, h2, h8, h11, h15, h20, h4]
  rw [hf, hk]
  simp only [Sem.run_bind, Result.andThen_ok, Sem.run_pure, z75, if_true]
def KdP (k : Int) (w : World) (e : Ending) (w' : World) : Prop := e = .returned (.bool (isK k)) ∧ Below w.heap.size w w'
set_option maxRecDepth 10000 in
theorem kinds_c (w : World) : Calls Try.prog 29 #[] w fun e w' => e = .returned (.map (some w.heap.size)) ∧ w'.heap[w.heap.size]? = some (.map E7 7) ∧ Below w.heap.size w w' := by
  have hm := mm_run
  have i1 := ins_run w #[] 0 1 rfl
  have i2 := ins_run w #[en 1 0] 1 2 rfl
  have i3 := ins_run w #[en 1 0, en 2 1] 2 8 rfl
  have i4 := ins_run w #[en 1 0, en 2 1, en 8 2] 3 11 rfl
  have i5 := ins_run w #[en 1 0, en 2 1, en 8 2, en 11 3] 4 15 rfl
  have i6 := ins_run w #[en 1 0, en 2 1, en 8 2, en 11 3, en 15 4] 5 20 rfl
  have i7 := ins_run w #[en 1 0, en 2 1, en 8 2, en 11 3, en 15 4, en 20 5] 6 4 rfl
  simp only [List.push_toArray, List.cons_append, List.nil_append] at i1 i2 i3 i4 i5 i6 i7
  go_enter Try.func29, Try.ntmps29
  go_wp2_with fail
  go_ret
  exact ⟨rfl, heap_alloc_new w _, (Below.refl _ w).alloc (Nat.le_refl _) _⟩
set_option maxRecDepth 10000 in
theorem isKind_c (k : Int) (w : World) : Calls Try.prog 16 #[.int .i64 k] w (KdP k w) := by
  have HK : Hid _ := kinds_c w
  go_enter Try.func16, Try.ntmps16
  go_wp2_with fail
  refine Calls.mono HK.out ?_
  rintro e w1 ⟨rfl, hx, hb⟩
  have hl := lk_run w1 w.heap.size k hx
  have HB : Hid _ := hb
  clear hx hb HK
  have HP : Hid (KdP k w (.returned (.bool (isK k))) (w1.alloc (.cells #[] 75))) := ⟨rfl, HB.out.trans (((Below.refl _ w1).alloc (Nat.le_refl _) _).mono HB.out.size)⟩
  generalize isK k = b at *
  go_wp2_with fail
  go_ret
  exact HP.out
end Go.Proofs.Ytcchlicokglmnaa
