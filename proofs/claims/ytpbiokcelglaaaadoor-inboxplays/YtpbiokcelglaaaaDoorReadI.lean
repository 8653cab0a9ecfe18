/- inbox: Read. -/
import Derived.Test.YtpbiokcelglaaaaDoorTake
import Derived.BigQuiet
namespace Go.Proofs.YtpbiokcelglaaaaDoor
open Go.RowKit Go.Maps
set_option linter.unusedVariables false

set_option maxRecDepth 100000 in
set_option maxHeartbeats 1000000 in
theorem read_c (b mb n p m R : Nat) (V : Nat → Option UInt8) (hd rm lm rc mx x : Int) (kn : Bool) (l : List UInt8) (W : World) (hI : Ib W b mb n V p R hd rm lm rc kn) (hpR : p ≤ R) (hm : (m : Int) = min (max x 0) ((R : Int) - p)) (hl : l.length = m) (hV : ∀ j (h : j < l.length), V (p + j) = some l[j])
    (hR : R ≤ 4000000000000000000) (hN : m ≤ 140737488355328) (hhd : 0 ≤ hd ∧ hd ≤ 1000000000000000000) (hrm : 0 ≤ rm ∧ rm ≤ 1048576) (hmx : (if lm < ((p + m : Nat) : Int) + rm then ((p + m : Nat) : Int) + rm else lm) = mx) :
    Calls Tryd.prog 12 #[.pointer (some ⟨b, 0, none⟩), .int .i64 x] W fun e w' => ∃ g V', e = .returned (.tuple #[.slice (some ⟨g, 0, none⟩) m m, .bool (kn && decide (((p + m : Nat) : Int) = rc))]) ∧ W.heap.size ≤ g ∧
      w'.ownsRow g 5 1 (.slice (some ⟨g, 0, none⟩) m m) m (bs l) ∧ Ib w' b mb n V' (p + m : Nat) R (hd - m) rm mx rc kn ∧ (∀ j, p + m ≤ j → V' j = V j) ∧ Chg (fun j => j = b ∨ j = mb) W w' := by
  have HI : Aside (Ib W b mb n V p R hd rm lm rc kn) := hI
  have c0 := hI.c0
  have HV : Aside (∀ j (h : j < l.length), V (p + j) = some l[j]) := hV
  have HL : Aside (l.length = m) := hl
  have HX : Aside _ := hmx
  have RC : Aside _ := ready_c hI (by rw [IntKind.wrap_i64]; omega)
  have hmR : p + m ≤ R := by omega
  have j1 : (if x < 0 then (0 : Int) else x) = max x 0 := by split <;> omega
  have j2 : ∀ y : Int, y = max x 0 → (if (R : Int) - p < y then (R : Int) - p else y) = (m : Int) := by intro y hy; split <;> omega
  generalize max x 0 = y at j1 j2
  have j3 := j2 y rfl
  clear hI hV hl hmx j2 hm
  go_enter Tryd.func12, Tryd.ntmps12
  go_wp2_with (first | (go_at_call 25; refine (some_none b mb _ c0).mono ?_; rintro e w1 ⟨rfl, rfl⟩) | fail)
  refine Calls.mono RC.out ?_
  rintro e W1 ⟨rfl, hch⟩
  have HI1 : Aside (Ib W1 b mb n V p R hd rm lm rc kn) := Ib.kept HI.out hch (fun h => h) (fun h => h)
  have HC1 : Aside (Chg (fun _ => False) w1 W1) := hch
  clear hch
  go_wp2_with fail
  refine (take_c b mb n p m R V hd rm lm rc kn l W1 HI1.out HL.out HV.out (by omega) hN hhd).mono ?_
  rintro e W2 ⟨rfl, hown, ⟨V', hib, hVV⟩, hch2⟩
  have HO2 : Aside (W2.ownsRow W1.heap.size 5 1 (.slice (some ⟨W1.heap.size, 0, none⟩) m m) m (bs l)) := hown
  have HI2 : Aside (Ib W2 b mb n V' (p + m : Nat) R (hd - m) rm lm rc kn) := hib
  have HVV : Aside (∀ j, p + m ≤ j → V' j = V j) := hVV
  have HC2 : Aside (Chg (fun j => j = b ∨ j = mb) W1 W2) := hch2
  have hbg : b < W1.heap.size := (Array.getElem?_eq_some_iff.1 (HI1.out).1).1
  have hmg : mb < W1.heap.size := (Ib.out2 HI1.out).lt
  clear hown hib hVV hch2
  have hsz : w1.heap.size ≤ W1.heap.size := HC1.out.2.2.2.1
  generalize hg : W1.heap.size = g at *
  go_wp2_with fail
  refine (raise_c HI2.out (by rw [IntKind.wrap_i64]; omega) HX.out).mono ?_
  rintro e W3 ⟨rfl, hib3, hch3⟩
  have HI3 : Aside (Ib W3 b mb n V' (p + m : Nat) R (hd - m) rm mx rc kn) := hib3
  have HO3 : Aside (W3.ownsRow g 5 1 (.slice (some ⟨g, 0, none⟩) m m) m (bs l)) := by
    obtain ⟨h1, h2⟩ := HO2.out
    refine ⟨h1, ?_⟩
    rcases h2 with ⟨h0, _⟩ | ⟨g', cap', cur, hv, hbg', hg', h3⟩
    · cases h0
    · cases hv
      exact .inr ⟨g, m, cur, rfl, hbg', (hch3.2.2.2.2 g (Array.getElem?_eq_some_iff.1 hg').1 (by omega)).trans hg', h3⟩
  have HC3 : Aside (Chg (fun j => j = b ∨ j = mb) w1 W3) := by
    refine Chg.andThen (X := fun j => j = b ∨ j = mb) (Chg.andThen (X := fun j => j = b ∨ j = mb) ⟨HC1.out.1, HC1.out.2.1, HC1.out.2.2.1, HC1.out.2.2.2.1, fun j hj _ => HC1.out.2.2.2.2 j hj (fun h => h)⟩ HC2.out (fun j _ e => e)) hch3 (fun j _ e => e)
  have d7 := hib3.c7
  have d6 := hib3.c6
  have d1 : W3.cell? ⟨b, 1, none⟩ = some (.int .i64 (p + m : Nat)) := by simp [World.cell?, hib3.1]
  have HFI : Aside (∀ nq, Ib (W3.drewN nq) b mb n V' (p + m : Nat) R (hd - m) rm mx rc kn) := fun nq => ⟨hib3.1, hib3.2.kept rfl⟩
  clear hib3 hch3 c0
  generalize hpm : p + m = pm at *
  have HPM : Aside (p + m = pm) := hpm
  clear hpm
  cases kn with
  | false =>
    go_wp2_with fail
    go_quiet (fail)
    go_wp2
    go_ret2
    obtain rfl : p + m = pm := HPM.out
    exact ⟨g, V', rfl, hsz, HO3.out, HI3.out, HVV.out, HC3.out⟩
  | true =>
    by_cases hpr : (pm : Int) = rc
    · have k1 : ((pm : Int) == rc) = true := by simp [hpr]
      have HPR : Aside ((pm : Int) = rc) := hpr
      clear hpr
      go_wp2_with fail
      go_quiet (fail)
      go_wp2
      go_ret2
      obtain rfl : p + m = pm := HPM.out
      have hdc : decide (((p + m : Nat) : Int) = rc) = true := by first | exact decide_eq_true HPR.out | exact decide_eq_false HPR.out
      exact ⟨g, V', by rw [hdc]; rfl, hsz, HO3.out, HI3.out, HVV.out, HC3.out⟩
    · have k1 : ((pm : Int) == rc) = false := by simp [hpr]
      have HPR : Aside (¬ (pm : Int) = rc) := hpr
      clear hpr
      go_wp2_with fail
      go_quiet (fail)
      go_wp2
      go_ret2
      obtain rfl : p + m = pm := HPM.out
      have hdc : decide (((p + m : Nat) : Int) = rc) = false := by first | exact decide_eq_true HPR.out | exact decide_eq_false HPR.out
      exact ⟨g, V', by rw [hdc]; rfl, hsz, HO3.out, HI3.out, HVV.out, HC3.out⟩
end Go.Proofs.YtpbiokcelglaaaaDoor
