/- The putter's long. -/
import Derived.Test.YtcchlicokglmnaaHs
namespace Go.Proofs.Ytcchlicokglmnaa
open Go.ChangeShapes Go.WideShapes Go.ChangeAt Go.RowKit Go.Lib
set_option linter.unusedVariables false

section
variable {w : World} {p B : Nat} {v : Value} {X : List UInt8} {r : Bool}
theorem Gr.sl' {w w' : World} (h : Gr p B w w') {ao : Option Addr} {l : List UInt8} (hs : Sl w ao l) (hb : ∀ a, ao = some a → l ≠ [] → a.block < B ∧ a.block ≠ p) : Sl w' ao l := by
  intro j hj
  obtain ⟨b, off, rfl, hc⟩ := hs j hj
  have hl : l ≠ [] := by rintro rfl; simp at hj
  exact ⟨b, off, rfl, h.cell hc (hb _ rfl hl).2 (.inl (hb _ rfl hl).1)⟩
set_option maxRecDepth 10000 in
set_option maxHeartbeats 1000000 in
theorem long_c (h : Pu w p B v X r) (hB : B ≤ w.heap.size) (hX : X.length ≤ 900000) (q j : Nat) (ao : Option Addr) (cp : Nat) (S : List UInt8) (hq : w.cell? ⟨q, j, none⟩ = some (.slice ao S.length cp)) (hSl : Sl w ao S) (hSo : ∀ a, ao = some a → S ≠ [] → a.block < B ∧ a.block ≠ p) (hnil : ao = none → S.length = 0 ∧ cp = 0) (hqp : q ≠ p) (hqo : q < B ∨ ∀ cs fr, w.heap[q]? ≠ some (.cells cs 5 fr)) (least most : Int) (hmost : most ≤ 5000) (ok : Bool) (hok : decide (least ≤ (S.length : Int) ∧ (S.length : Int) ≤ most) = ok) (hS63 : S.length ≤ 9223372036854775807) :
    Calls Try.prog 57 #[.pointer (some ⟨p, 0, none⟩), .pointer (some ⟨q, j, none⟩), .int .i64 least, .int .i64 most] w (PuR p B (X ++ be 2 (uN S.length) ++ (if (r || !ok) then [] else S)) (r || !ok) w) := by
  obtain ⟨i0, hi, hz0, hz1, hz2⟩ := info_parts info5
  have hb1 : Below w.heap.size w (w.alloc (.cells #[.int .i64 (S.length : Int)] 3)) := (Below.refl _ w).alloc (Nat.le_refl _) _
  have hnx : (w.alloc (.cells #[.int .i64 (S.length : Int)] 3)).cell? ⟨w.heap.size, 0, none⟩ = some (.int .i64 (S.length : Int)) := by unfold World.cell?; rw [heap_alloc_new]; rfl
  have HN : Hid (Calls Try.prog 58 #[.pointer (some ⟨p, 0, none⟩), .pointer (some ⟨w.heap.size, 0, none⟩), .int .i64 2, .int .i64 least, .int .i64 most] (w.alloc (.cells #[.int .i64 (S.length : Int)] 3)) (PuR p B (X ++ be 2 (uN S.length)) (r || !ok) (w.alloc (.cells #[.int .i64 (S.length : Int)] 3)))) :=
    number_c (h.below hb1) (Nat.le_trans hB hb1.size) (by omega) w.heap.size 0 S.length hnx (by have := lt_block h.row; omega) 2 (by omega) (by omega) least most ok hok
  have HQ : Hid (∀ W, Gr p B (w.alloc (.cells #[.int .i64 (S.length : Int)] 3)) W → W.cell? ⟨q, j, none⟩ = some (.slice ao S.length cp)) := fun W hg => ((Gr.of_below hb1).trans hg).cell hq hqp hqo
  have HG0 : Hid (Gr p B w (w.alloc (.cells #[.int .i64 (S.length : Int)] 3))) := Gr.of_below hb1
  have hl1 : (be 2 (uN S.length)).length = 2 := be_length _ _
  have hXl : (X ++ be 2 (uN S.length)).length ≤ 900002 := by simp [hl1]; omega
  have HOK : Hid _ := hok
  have HNIL : Hid _ := hnil
  have HSO : Hid _ := hSo
  have HSL : Hid (Sl w ao S) := hSl
  have HB : Hid _ := hB
  generalize X ++ be 2 (uN S.length) = Y at *
  have HS2 : Hid ((r || !ok) = false → S.length ≤ 5000) := fun hr => by
    have h1 : ok = true := by cases r <;> cases ok <;> simp_all
    rw [h1] at hok
    have := of_decide_eq_true hok
    omega
  generalize (r || !ok) = bad at *
  obtain ⟨Z, hZ⟩ : ∃ Z, Z = (if bad then [] else S) := ⟨_, rfl⟩
  rw [← hZ]
  have HZ : Hid _ := hZ
  clear h hb1 hnx hl1 hok hB hX HOK hZ hnil hSo hSl
  as_aux_lemma =>
  go_enter Try.func57, Try.ntmps57
  go_wp2_with fail
  generalize w.alloc (.cells #[.int .i64 (S.length : Int)] 3) = w1 at *
  refine HN.out.mono ?_
  rintro e w2 ⟨rfl, ⟨v2, hp2⟩, hg2⟩
  obtain ⟨o, c, rfl⟩ := own_val hp2.own
  have HP2 : Hid _ := hp2
  have HG2 : Hid (Gr p B w w2) := HG0.out.trans hg2
  have hq2 := HQ.out w2 hg2
  have c0 := hp2.c0
  have c1 := hp2.c1
  have f1 := hp2.fr 1
  clear hp2 hg2 HN HQ HG0
  cases bad
  · have hS := HS2.out rfl
    have HSL2 : Hid (Sl w2.drew ao S) := HG2.out.drew.sl' HSL.out HSO.out
    have HBw : Hid (B ≤ w2.heap.size) := Nat.le_trans HB.out HG2.out.size
    have HZS : Hid (Z = S) := HZ.out
    clear HB HZ HS2
    go_wp2_with fail
    go_region_law ((refine step_append_bytes rfl (.tmp 27) (.tmp 30) rfl B i0 Try.underlying25 hi hz0 hz1 hz2 (.slice o Y.length c) Y.length (bc Y) rfl HP2.out.drew.own ao S.length cp S rfl rfl HNIL.out HSL2.out (by omega) HBw.out ?_; intro v' w3 hown hgrow; obtain ⟨o', cc', rfl, m0, mf, HQQ⟩ := pu_after (Y := S) (HG2.out.drew) HP2.out.drew hown hgrow; clear hown hgrow))
    all_goals
      go_wp2
      go_end0
      rw [HZS.out]
      exact ⟨rfl, ⟨_, HQQ.out.1⟩, HQQ.out.2⟩
  · obtain rfl : Z = [] := HZ.out
    go_wp2_with fail
    go_end0
    refine ⟨rfl, ⟨.slice o Y.length c, ?_⟩, HG2.out⟩
    have := HP2.out
    simpa using this
end
end Go.Proofs.Ytcchlicokglmnaa
