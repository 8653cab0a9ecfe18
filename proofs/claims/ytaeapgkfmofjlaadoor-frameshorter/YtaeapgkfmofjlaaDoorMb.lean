/- What a frame is laid as: every kind's walk of the putter in one. -/
import Derived.Test.YtaeapgkfmofjlaaDoorMa
import Derived.Test.YtaeapgkfmofjlaaDoorKa
import Derived.Test.YtaeapgkfmofjlaaDoorKb
import Derived.Test.YtaeapgkfmofjlaaDoorKc
import Derived.Test.YtaeapgkfmofjlaaDoorKd
import Derived.Test.YtaeapgkfmofjlaaDoorKe
import Derived.Test.YtaeapgkfmofjlaaDoorKf
namespace Go.Proofs.YtaeapgkfmofjlaaDoor
open Go.ChangeShapes Go.WideShapes Go.ChangeAt Go.RowKit
set_option linter.unusedVariables false
set_option maxRecDepth 10000

def pB (k : Int) (a : Fa) : List UInt8 :=
  if k = 0 then padB a.cnt else
  if k = 1 then [] else
  if k = 2 then ackB a.A a.del else
  if k = 3 then (ackB a.A a.del ++ encs [a.e0, a.e1, a.e2]) else
  if k = 4 then encs [a.s, a.code, a.lim] else
  if k = 5 then encs [a.s, a.code] else
  if k = 6 then (encs [a.o] ++ (encv a.D.length ++ rB a.D)) else
  if k = 7 then (encv a.D.length ++ rB a.D) else
  if k = 8 then (encs [a.s] ++ rB a.D) else
  if k = 9 then (encs [a.s] ++ rB a.D) else
  if k = 10 then (encs [a.s] ++ (encv a.D.length ++ rB a.D)) else
  if k = 11 then (encs [a.s] ++ (encv a.D.length ++ rB a.D)) else
  if k = 12 then (encs [a.s] ++ (encs [a.o] ++ rB a.D)) else
  if k = 13 then (encs [a.s] ++ (encs [a.o] ++ rB a.D)) else
  if k = 14 then (encs [a.s] ++ (encs [a.o] ++ (encv a.D.length ++ rB a.D))) else
  if k = 15 then (encs [a.s] ++ (encs [a.o] ++ (encv a.D.length ++ rB a.D))) else
  if k = 16 then encs [a.lim] else
  if k = 17 then (encs [a.s] ++ encs [a.lim]) else
  if k = 18 then encs [a.lim] else
  if k = 19 then encs [a.lim] else
  if k = 20 then encs [a.lim] else
  if k = 21 then (encs [a.s] ++ encs [a.lim]) else
  if k = 22 then encs [a.lim] else
  if k = 23 then encs [a.lim] else
  if k = 24 then (encs [a.seq, a.ret] ++ ([UInt8.ofNat a.I.length] ++ (a.I ++ a.R))) else
  if k = 25 then encs [a.seq] else
  if k = 26 then a.T else
  if k = 27 then a.T else
  if k = 28 then (encs [a.code, a.of] ++ (encv a.D.length ++ rB a.D)) else
  if k = 29 then (encs [a.code] ++ (encv a.D.length ++ rB a.D)) else
  if k = 30 then [] else
  if k = 48 then rB a.D else
  if k = 49 then (encv a.D.length ++ rB a.D) else []
def pX (k : Int) (a : Fa) : Bool :=
  if k = 0 then decide (1048576 < a.cnt) else
  if k = 1 then false else
  if k = 2 then ackX a.A a.del else
  if k = 3 then (ackX a.A a.del || bads [a.e0, a.e1, a.e2]) else
  if k = 4 then bads [a.s, a.code, a.lim] else
  if k = 5 then bads [a.s, a.code] else
  if k = 6 then (bads [a.o] || bg a.D) else
  if k = 7 then bg a.D else
  if k = 8 then (bads [a.s] || bg a.D) else
  if k = 9 then (bads [a.s] || bg a.D) else
  if k = 10 then (bads [a.s] || bg a.D) else
  if k = 11 then (bads [a.s] || bg a.D) else
  if k = 12 then (bads [a.s] || (bads [a.o] || bg a.D)) else
  if k = 13 then (bads [a.s] || (bads [a.o] || bg a.D)) else
  if k = 14 then (bads [a.s] || (bads [a.o] || bg a.D)) else
  if k = 15 then (bads [a.s] || (bads [a.o] || bg a.D)) else
  if k = 16 then bads [a.lim] else
  if k = 17 then (bads [a.s] || bads [a.lim]) else
  if k = 18 then bads [a.lim] else
  if k = 19 then bads [a.lim] else
  if k = 20 then bads [a.lim] else
  if k = 21 then (bads [a.s] || bads [a.lim]) else
  if k = 22 then bads [a.lim] else
  if k = 23 then bads [a.lim] else
  if k = 24 then bads [a.seq, a.ret] else
  if k = 25 then bads [a.seq] else
  if k = 26 then false else
  if k = 27 then false else
  if k = 28 then (bads [a.code, a.of] || bg a.D) else
  if k = 29 then (bads [a.code] || bg a.D) else
  if k = 30 then false else
  if k = 48 then bg a.D else
  if k = 49 then bg a.D else false
theorem isKd_cases {k : Int} (h : isKd k = true) : k = 0 ∨ k = 1 ∨ k = 2 ∨ k = 3 ∨ k = 4 ∨ k = 5 ∨ k = 6 ∨ k = 7 ∨ k = 8 ∨ k = 9 ∨ k = 10 ∨ k = 11 ∨ k = 12 ∨ k = 13 ∨ k = 14 ∨ k = 15 ∨ k = 16 ∨ k = 17 ∨ k = 18 ∨ k = 19 ∨ k = 20 ∨ k = 21 ∨ k = 22 ∨ k = 23 ∨ k = 24 ∨ k = 25 ∨ k = 26 ∨ k = 27 ∨ k = 28 ∨ k = 29 ∨ k = 30 ∨ k = 48 ∨ k = 49 := by
  simp only [isKd, Bool.or_eq_true, decide_eq_true_eq] at h
  omega
set_option maxHeartbeats 1000000 in
theorem pwalk_any (k : Int) (hk : isKd k = true) (p B F : Nat) (X : List UInt8) (r : Bool) (f : Fr) (d : Da) (w : World) (h : WD w p B F X r f d) (hX : X.length ≤ 1024) (hX0 : 0 < X.length) (hc : k = 0 → 1 ≤ f.cnt) (hI : k = 24 → d.I.length ≤ 20) :
    Calls Tryd.prog 22 #[.iface 63 (.pointer (some ⟨p, 0, none⟩)), .int .i64 k, .pointer (some ⟨F, 0, none⟩)] w fun e w' => e = .returned (.tuple #[]) ∧ WD w' p B F (X ++ pB k (ab f d)) (r || pX k (ab f d)) f d ∧ Gr p B w w' := by
  rcases isKd_cases hk with rfl | rfl | rfl | rfl | rfl | rfl | rfl | rfl | rfl | rfl | rfl | rfl | rfl | rfl | rfl | rfl | rfl | rfl | rfl | rfl | rfl | rfl | rfl | rfl | rfl | rfl | rfl | rfl | rfl | rfl | rfl | rfl | rfl
  · have e1 : X ++ padB f.cnt = X ++ pB 0 (ab f d) := rfl
    have e2 : (r || decide (1048576 < f.cnt)) = (r || pX 0 (ab f d)) := rfl
    rw [← e1, ← e2]
    exact pwalk_0 p B F X r f d w h hX hX0 (hc rfl)
  · have e1 : X = X ++ pB 1 (ab f d) := (List.append_nil X).symm
    have e2 : (r) = (r || pX 1 (ab f d)) := (Bool.or_false r).symm
    rw [← e1, ← e2]
    exact pwalk_1 p B F X r f d w h hX
  · have e1 : X ++ ackB d.A f.del = X ++ pB 2 (ab f d) := rfl
    have e2 : (r || ackX d.A f.del) = (r || pX 2 (ab f d)) := rfl
    rw [← e1, ← e2]
    exact pwalk_2 p B F X r f d w h hX
  · have e1 : X ++ ackB d.A f.del ++ encs [f.e0, f.e1, f.e2] = X ++ pB 3 (ab f d) := by rw [List.append_assoc]; rfl
    have e2 : ((r || ackX d.A f.del || bads [f.e0, f.e1, f.e2])) = (r || pX 3 (ab f d)) := by rw [Bool.or_assoc]; rfl
    rw [← e1, ← e2]
    exact pwalk_3 p B F X r f d w h hX
  · have e1 : X ++ encs [f.s, f.code, f.lim] = X ++ pB 4 (ab f d) := rfl
    have e2 : (r || bads [f.s, f.code, f.lim]) = (r || pX 4 (ab f d)) := rfl
    rw [← e1, ← e2]
    exact pwalk_4 p B F X r f d w h hX
  · have e1 : X ++ encs [f.s, f.code] = X ++ pB 5 (ab f d) := rfl
    have e2 : (r || bads [f.s, f.code]) = (r || pX 5 (ab f d)) := rfl
    rw [← e1, ← e2]
    exact pwalk_5 p B F X r f d w h hX
  · have e1 : X ++ encs [f.o] ++ encv d.D.length ++ rB d.D = X ++ pB 6 (ab f d) := by rw [List.append_assoc, List.append_assoc]; rfl
    have e2 : ((r || bads [f.o]) || bg d.D) = (r || pX 6 (ab f d)) := by rw [Bool.or_assoc]; rfl
    rw [← e1, ← e2]
    exact pwalk_6 p B F X r f d w h hX
  · have e1 : X ++ encv d.D.length ++ rB d.D = X ++ pB 7 (ab f d) := by rw [List.append_assoc]; rfl
    have e2 : (r || bg d.D) = (r || pX 7 (ab f d)) := rfl
    rw [← e1, ← e2]
    exact pwalk_7 p B F X r f d w h hX
  · have e1 : X ++ encs [f.s] ++ rB d.D = X ++ pB 8 (ab f d) := by rw [List.append_assoc]; rfl
    have e2 : ((r || bads [f.s]) || bg d.D) = (r || pX 8 (ab f d)) := by rw [Bool.or_assoc]; rfl
    rw [← e1, ← e2]
    exact pwalk_8 p B F X r f d w h hX
  · have e1 : X ++ encs [f.s] ++ rB d.D = X ++ pB 9 (ab f d) := by rw [List.append_assoc]; rfl
    have e2 : ((r || bads [f.s]) || bg d.D) = (r || pX 9 (ab f d)) := by rw [Bool.or_assoc]; rfl
    rw [← e1, ← e2]
    exact pwalk_9 p B F X r f d w h hX
  · have e1 : X ++ encs [f.s] ++ encv d.D.length ++ rB d.D = X ++ pB 10 (ab f d) := by rw [List.append_assoc, List.append_assoc]; rfl
    have e2 : ((r || bads [f.s]) || bg d.D) = (r || pX 10 (ab f d)) := by rw [Bool.or_assoc]; rfl
    rw [← e1, ← e2]
    exact pwalk_10 p B F X r f d w h hX
  · have e1 : X ++ encs [f.s] ++ encv d.D.length ++ rB d.D = X ++ pB 11 (ab f d) := by rw [List.append_assoc, List.append_assoc]; rfl
    have e2 : ((r || bads [f.s]) || bg d.D) = (r || pX 11 (ab f d)) := by rw [Bool.or_assoc]; rfl
    rw [← e1, ← e2]
    exact pwalk_11 p B F X r f d w h hX
  · have e1 : X ++ encs [f.s] ++ encs [f.o] ++ rB d.D = X ++ pB 12 (ab f d) := by rw [List.append_assoc, List.append_assoc]; rfl
    have e2 : (((r || bads [f.s] || bads [f.o])) || bg d.D) = (r || pX 12 (ab f d)) := by rw [Bool.or_assoc, Bool.or_assoc]; rfl
    rw [← e1, ← e2]
    exact pwalk_12 p B F X r f d w h hX
  · have e1 : X ++ encs [f.s] ++ encs [f.o] ++ rB d.D = X ++ pB 13 (ab f d) := by rw [List.append_assoc, List.append_assoc]; rfl
    have e2 : (((r || bads [f.s] || bads [f.o])) || bg d.D) = (r || pX 13 (ab f d)) := by rw [Bool.or_assoc, Bool.or_assoc]; rfl
    rw [← e1, ← e2]
    exact pwalk_13 p B F X r f d w h hX
  · have e1 : X ++ encs [f.s] ++ encs [f.o] ++ encv d.D.length ++ rB d.D = X ++ pB 14 (ab f d) := by rw [List.append_assoc, List.append_assoc, List.append_assoc]; rfl
    have e2 : (((r || bads [f.s] || bads [f.o])) || bg d.D) = (r || pX 14 (ab f d)) := by rw [Bool.or_assoc, Bool.or_assoc]; rfl
    rw [← e1, ← e2]
    exact pwalk_14 p B F X r f d w h hX
  · have e1 : X ++ encs [f.s] ++ encs [f.o] ++ encv d.D.length ++ rB d.D = X ++ pB 15 (ab f d) := by rw [List.append_assoc, List.append_assoc, List.append_assoc]; rfl
    have e2 : (((r || bads [f.s] || bads [f.o])) || bg d.D) = (r || pX 15 (ab f d)) := by rw [Bool.or_assoc, Bool.or_assoc]; rfl
    rw [← e1, ← e2]
    exact pwalk_15 p B F X r f d w h hX
  · have e1 : X ++ encs [f.lim] = X ++ pB 16 (ab f d) := rfl
    have e2 : (r || bads [f.lim]) = (r || pX 16 (ab f d)) := rfl
    rw [← e1, ← e2]
    exact pwalk_16 p B F X r f d w h hX
  · have e1 : X ++ encs [f.s] ++ encs [f.lim] = X ++ pB 17 (ab f d) := by rw [List.append_assoc]; rfl
    have e2 : ((r || bads [f.s] || bads [f.lim])) = (r || pX 17 (ab f d)) := by rw [Bool.or_assoc]; rfl
    rw [← e1, ← e2]
    exact pwalk_17 p B F X r f d w h hX
  · have e1 : X ++ encs [f.lim] = X ++ pB 18 (ab f d) := rfl
    have e2 : (r || bads [f.lim]) = (r || pX 18 (ab f d)) := rfl
    rw [← e1, ← e2]
    exact pwalk_18 p B F X r f d w h hX
  · have e1 : X ++ encs [f.lim] = X ++ pB 19 (ab f d) := rfl
    have e2 : (r || bads [f.lim]) = (r || pX 19 (ab f d)) := rfl
    rw [← e1, ← e2]
    exact pwalk_19 p B F X r f d w h hX
  · have e1 : X ++ encs [f.lim] = X ++ pB 20 (ab f d) := rfl
    have e2 : (r || bads [f.lim]) = (r || pX 20 (ab f d)) := rfl
    rw [← e1, ← e2]
    exact pwalk_20 p B F X r f d w h hX
  · have e1 : X ++ encs [f.s] ++ encs [f.lim] = X ++ pB 21 (ab f d) := by rw [List.append_assoc]; rfl
    have e2 : ((r || bads [f.s] || bads [f.lim])) = (r || pX 21 (ab f d)) := by rw [Bool.or_assoc]; rfl
    rw [← e1, ← e2]
    exact pwalk_21 p B F X r f d w h hX
  · have e1 : X ++ encs [f.lim] = X ++ pB 22 (ab f d) := rfl
    have e2 : (r || bads [f.lim]) = (r || pX 22 (ab f d)) := rfl
    rw [← e1, ← e2]
    exact pwalk_22 p B F X r f d w h hX
  · have e1 : X ++ encs [f.lim] = X ++ pB 23 (ab f d) := rfl
    have e2 : (r || bads [f.lim]) = (r || pX 23 (ab f d)) := rfl
    rw [← e1, ← e2]
    exact pwalk_23 p B F X r f d w h hX
  · have e1 : X ++ encs [f.seq, f.ret] ++ [UInt8.ofNat d.I.length] ++ d.I ++ d.R = X ++ pB 24 (ab f d) := by rw [List.append_assoc, List.append_assoc, List.append_assoc]; rfl
    have e2 : (r || bads [f.seq, f.ret]) = (r || pX 24 (ab f d)) := rfl
    rw [← e1, ← e2]
    exact pwalk_24 p B F X r f d w h hX (hI rfl)
  · have e1 : X ++ encs [f.seq] = X ++ pB 25 (ab f d) := rfl
    have e2 : (r || bads [f.seq]) = (r || pX 25 (ab f d)) := rfl
    rw [← e1, ← e2]
    exact pwalk_25 p B F X r f d w h hX
  · have e1 : X ++ d.T = X ++ pB 26 (ab f d) := rfl
    have e2 : (r) = (r || pX 26 (ab f d)) := (Bool.or_false r).symm
    rw [← e1, ← e2]
    exact pwalk_26 p B F X r f d w h hX
  · have e1 : X ++ d.T = X ++ pB 27 (ab f d) := rfl
    have e2 : (r) = (r || pX 27 (ab f d)) := (Bool.or_false r).symm
    rw [← e1, ← e2]
    exact pwalk_27 p B F X r f d w h hX
  · have e1 : X ++ encs [f.code, f.of] ++ encv d.D.length ++ rB d.D = X ++ pB 28 (ab f d) := by rw [List.append_assoc, List.append_assoc]; rfl
    have e2 : ((r || bads [f.code, f.of]) || bg d.D) = (r || pX 28 (ab f d)) := by rw [Bool.or_assoc]; rfl
    rw [← e1, ← e2]
    exact pwalk_28 p B F X r f d w h hX
  · have e1 : X ++ encs [f.code] ++ encv d.D.length ++ rB d.D = X ++ pB 29 (ab f d) := by rw [List.append_assoc, List.append_assoc]; rfl
    have e2 : ((r || bads [f.code]) || bg d.D) = (r || pX 29 (ab f d)) := by rw [Bool.or_assoc]; rfl
    rw [← e1, ← e2]
    exact pwalk_29 p B F X r f d w h hX
  · have e1 : X = X ++ pB 30 (ab f d) := (List.append_nil X).symm
    have e2 : (r) = (r || pX 30 (ab f d)) := (Bool.or_false r).symm
    rw [← e1, ← e2]
    exact pwalk_30 p B F X r f d w h hX
  · have e1 : X ++ rB d.D = X ++ pB 48 (ab f d) := rfl
    have e2 : (r || bg d.D) = (r || pX 48 (ab f d)) := rfl
    rw [← e1, ← e2]
    exact pwalk_48 p B F X r f d w h hX
  · have e1 : X ++ encv d.D.length ++ rB d.D = X ++ pB 49 (ab f d) := by rw [List.append_assoc]; rfl
    have e2 : (r || bg d.D) = (r || pX 49 (ab f d)) := rfl
    rw [← e1, ← e2]
    exact pwalk_49 p B F X r f d w h hX
end Go.Proofs.YtaeapgkfmofjlaaDoor
