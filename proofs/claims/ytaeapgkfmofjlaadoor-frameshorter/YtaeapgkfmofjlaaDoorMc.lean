/- frame.Put, of any frame. -/
import Derived.Test.YtaeapgkfmofjlaaDoorMb
namespace Go.Proofs.YtaeapgkfmofjlaaDoor
open Go.ChangeShapes Go.WideShapes Go.ChangeAt Go.RowKit
set_option linter.unusedVariables false
set_option maxRecDepth 100000

theorem By.base {B B' : Nat} {w : World} {v : Value} {X : List UInt8} (h : By B w v X) (hB : B' ≤ B) : By B' w v X := h.mono hB
theorem Gr.toBelow {p B n : Nat} {w w' : World} (h : Gr p B w w') (hn : n ≤ w.heap.size) (hp : n ≤ p) (hB : n ≤ B) : Below n w w' := ⟨h.os, h.tape, h.output, h.size, fun k hk => h.block k (by omega) (by omega) (.inl (by omega))⟩
/-- What Put answers. -/
def putR (a : Fa) : List UInt8 × Int :=
  if isKd a.k = false ∨ (8 < a.k ∧ a.k < 16) then ([], 12)
  else if mayB a = false then ([], 2)
  else if pX (stB a) a = true then ([], 2)
  else (encv (stB a) ++ pB (stB a) a, 0)
/-- A frame that is handed in. -/
structure Fi (w : World) (f : Fr) (d : Da) : Prop where
  on : On f d
  sD : Sl w d.oD d.D
  nD : d.oD = none → d.D.length = 0 ∧ d.cD = 0
  bD : ∀ ad, d.oD = some ad → ad.block < w.heap.size
  sI : Sl w d.oI d.I
  nI : d.oI = none → d.I.length = 0 ∧ d.cI = 0
  bI : ∀ ad, d.oI = some ad → ad.block < w.heap.size
  sA : Ss w d.oA d.A
  bA : ∀ ad, d.oA = some ad → ad.block < w.heap.size
  lD : d.D.length ≤ 140737488355328
  lA : d.A.length ≤ 140737488355328
theorem Ss.below {w w' : World} {ao : Option Addr} {l : List (Int × Int)} (hs : Ss w ao l) (hb : Below w.heap.size w w') : Ss w' ao l := by
  intro j hj
  obtain ⟨b, off, he, c1, c2⟩ := hs j hj
  have hl := World.block_lt_of_cell? w _ c1
  have e := hb.block b hl
  exact ⟨b, off, he, (World.cell?_of_block (a := ⟨b, off + j * 2, none⟩) e).trans c1, (World.cell?_of_block (a := ⟨b, off + j * 2 + 1, none⟩) e).trans c2⟩
theorem Fi.below {w w' : World} {f : Fr} {d : Da} (h : Fi w f d) (hb : Below w.heap.size w w') : Fi w' f d :=
  ⟨h.on, Sl_below h.sD hb, h.nD, fun ad e => Nat.lt_of_lt_of_le (h.bD ad e) hb.size, Sl_below h.sI hb, h.nI, fun ad e => Nat.lt_of_lt_of_le (h.bI ad e) hb.size, h.sA.below hb, fun ad e => Nat.lt_of_lt_of_le (h.bA ad e) hb.size, h.lD, h.lA⟩
theorem stB_kd (a : Fa) (h1 : isKd a.k = true) (h2 : ¬ (8 < a.k ∧ a.k < 16)) : isKd (stB a) = true ∧ 0 ≤ stB a ∧ stB a ≤ 49 := by
  have h3 : 0 ≤ stB a ∧ (stB a ≤ 30 ∨ stB a = 48 ∨ stB a = 49) := by
    simp only [isKd, Bool.or_eq_true, decide_eq_true_eq] at h1
    unfold stB
    split
    · split <;> split <;> split <;> omega
    · omega
  refine ⟨?_, h3.1, by omega⟩
  simp only [isKd, Bool.or_eq_true, decide_eq_true_eq]
  omega
theorem badv_small {k : Int} (h0 : 0 ≤ k) (h : k ≤ 49) : badv k = false := by
  obtain ⟨n, rfl⟩ := Int.eq_ofNat_of_zero_le h0
  unfold badv vaE
  rw [decide_eq_false]
  simp
  omega
theorem encv_small {k : Int} (h0 : 0 ≤ k) (h : k ≤ 49) : 0 < (encv k).length := by
  obtain ⟨n, rfl⟩ := Int.eq_ofNat_of_zero_le h0
  unfold encv
  rw [if_pos (by unfold vaE; rw [if_neg (by omega)])]
  unfold enc
  rw [be_length]
  unfold szN
  split
  · omega
  · omega
theorem isStr_kd (k : Int) (w : World) (h : isKd k = true) : Calls Tryd.prog 18 #[.int .i64 k] w fun e w' => e = .returned (.bool (decide (8 ≤ k ∧ k < 16))) ∧ w' = w := by
  simp only [isKd, Bool.or_eq_true, decide_eq_true_eq] at h
  exact isStr_any k w (by omega) (by omega)
theorem put_none (f : Fr) (d : Da) (w : World) (h : isKd f.k = false ∨ (8 < f.k ∧ f.k < 16)) : Calls Tryd.prog 8 #[.agg f.cells.toArray] w fun e w' => e = .returned (.tuple #[.slice none 0 0, .int .i64 12]) ∧ Below w.heap.size w w' := by
  have hf0 : Fm (w.alloc (.cells f.cells.toArray 28)) w.heap.size f := heap_alloc_new w _
  have c0 := hf0.at 0 _ (show f.cells[0]? = some (.int .i64 f.k) from rfl)
  have HB : Aside (Below w.heap.size w (w.alloc (.cells f.cells.toArray 28))) := bel1 w _
  obtain ⟨W0, hW0⟩ : ∃ W0, w.alloc (.cells f.cells.toArray 28) = W0 := ⟨_, rfl⟩
  rw [hW0] at c0 HB
  clear hf0
  have hik := isKind_c f.k W0
  have his : isKd f.k = true → Calls Tryd.prog 18 #[.int .i64 f.k] W0 fun e w' => e = .returned (.bool (decide (8 ≤ f.k ∧ f.k < 16))) ∧ w' = W0 := isStr_kd f.k W0
  generalize f.k = k at *
  generalize f.cells.toArray = X at *
  by_cases hk : isKd k = true
  · have h8 : 8 < k ∧ k < 16 := by
      rcases h with h | h
      · rw [hk] at h; cases h
      · exact h
    have his' := his hk
    rw [decide_eq_true (by omega)] at his'
    rw [hk] at hik
    have q8 : (k != 8) = true := by simp; omega
    have q8' : ¬ k = 8 := by omega
    clear his h hk
    go_enter Tryd.func8, Tryd.ntmps8
    go_wp2_with fail
    refine hik.mono ?_
    rintro e w' ⟨rfl, hw⟩
    subst w'
    go_wp2_with fail
    refine his'.mono ?_
    rintro e w' ⟨rfl, hw⟩
    subst w'
    clear hik his'
    go_wp2
    go_ret2
    exact ⟨rfl, HB.out⟩
  · have hk' : isKd k = false := by simpa using hk
    rw [hk'] at hik
    clear his h hk hk'
    go_enter Tryd.func8, Tryd.ntmps8
    go_wp2_with fail
    refine hik.mono ?_
    rintro e w' ⟨rfl, hw⟩
    subst w'
    clear hik
    go_wp2
    go_ret2
    exact ⟨rfl, HB.out⟩
end Go.Proofs.YtaeapgkfmofjlaaDoor
