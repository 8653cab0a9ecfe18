/- frame: what is laid of a frame is read as it, kind by kind. -/
import Derived.Test.YtaeapgkfmofjlaaDoorNa
namespace Go.Proofs.YtaeapgkfmofjlaaDoor
open Go.ChangeShapes Go.WideShapes Go.ChangeAt Go.RowKit
set_option linter.unusedVariables false
set_option maxRecDepth 100000

theorem Hs.drop {l D : List UInt8} {i : Nat} (h : Hs l i D) (hl : i + D.length = l.length) : l.drop i = D := by
  obtain ⟨pre, post, h1, h2⟩ := h
  rw [h1] at hl
  simp only [List.length_append] at hl
  have : post = [] := List.eq_nil_of_length_eq_zero (by omega)
  rw [h1, this, List.append_nil, ← h2, List.drop_left]
theorem zc_rep {l : List UInt8} {i n : Nat} (h : l.drop i = List.replicate n 0) : zc l i = n := by
  unfold zc
  rw [h]
  induction n generalizing l with
  | zero => rfl
  | succ n ih => simp [List.replicate_succ]
theorem ackX_ok {A : List (Int × Int)} {del : Int} (h : ackX A del = false) : spB A = true ∧ bads (ackL A del) = false ∧ ackB A del = encs (ackL A del) := by
  unfold ackX at h
  split at h
  · rename_i hs
    exact ⟨hs, h, if_pos hs⟩
  · cases h
theorem yZ_en {l : List UInt8} {i : Nat} {x : Fa} {c : Int} (h : l.drop i = List.replicate (c.toNat - 1) 0) (hc : 1 ≤ c) : yZ l (x, (i, 0)) = ({ x with cnt := c }, (i + (c.toNat - 1), 0)) := by
  unfold yZ
  dsimp only
  rw [zc_rep h]
  rw [show (1 : Int) + ((c.toNat - 1 : Nat) : Int) = c by omega]
def can (k : Int) (a : Fa) : Fa :=
  if k = 0 then { (ab (bgF 0) dz) with cnt := a.cnt } else
  if k = 1 then (ab (bgF 1) dz) else
  if k = 2 then { (ab (bgF 2) dz) with del := a.del, A := a.A } else
  if k = 3 then (puts { (ab (bgF 3) dz) with del := a.del, A := a.A } [11, 12, 13] [a.e0, a.e1, a.e2]) else
  if k = 4 then (puts (ab (bgF 4) dz) [1, 7, 6] [a.s, a.code, a.lim]) else
  if k = 5 then (puts (ab (bgF 5) dz) [1, 7] [a.s, a.code]) else
  if k = 6 then { (puts (ab (bgF 6) dz) [2] [a.o]) with D := a.D } else
  if k = 7 then { (ab (bgF 7) dz) with D := a.D } else
  if k = 8 then { (puts (ab (bgF 8) dz) [1] [a.s]) with D := a.D } else
  if k = 9 then { (puts (ab (bgF 9) dz) [1] [a.s]) with D := a.D } else
  if k = 10 then { (puts (ab (bgF 10) dz) [1] [a.s]) with D := a.D } else
  if k = 11 then { (puts (ab (bgF 11) dz) [1] [a.s]) with D := a.D } else
  if k = 12 then { (puts (puts (ab (bgF 12) dz) [1] [a.s]) [2] [a.o]) with D := a.D } else
  if k = 13 then { (puts (puts (ab (bgF 13) dz) [1] [a.s]) [2] [a.o]) with D := a.D } else
  if k = 14 then { (puts (puts (ab (bgF 14) dz) [1] [a.s]) [2] [a.o]) with D := a.D } else
  if k = 15 then { (puts (puts (ab (bgF 15) dz) [1] [a.s]) [2] [a.o]) with D := a.D } else
  if k = 16 then (puts (ab (bgF 16) dz) [6] [a.lim]) else
  if k = 17 then (puts (puts (ab (bgF 17) dz) [1] [a.s]) [6] [a.lim]) else
  if k = 18 then (puts (ab (bgF 18) dz) [6] [a.lim]) else
  if k = 19 then (puts (ab (bgF 19) dz) [6] [a.lim]) else
  if k = 20 then (puts (ab (bgF 20) dz) [6] [a.lim]) else
  if k = 21 then (puts (puts (ab (bgF 21) dz) [1] [a.s]) [6] [a.lim]) else
  if k = 22 then (puts (ab (bgF 22) dz) [6] [a.lim]) else
  if k = 23 then (puts (ab (bgF 23) dz) [6] [a.lim]) else
  if k = 24 then { { (puts (ab (bgF 24) dz) [14, 15] [a.seq, a.ret]) with I := a.I } with R := a.R } else
  if k = 25 then (puts (ab (bgF 25) dz) [14] [a.seq]) else
  if k = 26 then { (ab (bgF 26) dz) with T := a.T } else
  if k = 27 then { (ab (bgF 27) dz) with T := a.T } else
  if k = 28 then { (puts (ab (bgF 28) dz) [7, 8] [a.code, a.of]) with D := a.D } else
  if k = 29 then { (puts (ab (bgF 29) dz) [7] [a.code]) with D := a.D } else
  if k = 30 then (ab (bgF 30) dz) else
  if k = 48 then { (ab (bgF 48) dz) with D := a.D } else
  if k = 49 then { (ab (bgF 49) dz) with D := a.D } else a
theorem kd_0 (a : Fa) (hk : a.k = 0) (hm : mayB a = true) (hx : pX 0 a = false) (hR : a.R.length = 16) (hT : a.T.length = 8) {l : List UInt8} (h : Hs l 1 (pB 0 a)) (hl : l.length = 1 + (pB 0 a).length) :
    yW 0 l (ab (bgF 0) dz, (1, 0)) = (can 0 a, (1 + (pB 0 a).length, 0)) ∧ mayB (can 0 a) = true ∧ stB (can 0 a) = 0 ∧ pB 0 (can 0 a) = pB 0 a ∧ pX 0 (can 0 a) = pX 0 a ∧ (can 0 a).k = a.k := by
  have eB : pB 0 a = padB a.cnt := rfl
  have eX : pX 0 a = decide (1048576 < a.cnt) := rfl
  have hx0 := hx
  have h0 := h
  rw [eB] at h
  rw [eB] at hl
  rw [eX] at hx
  have hc1 : 1 ≤ a.cnt := by unfold mayB at hm; rw [if_pos hk] at hm; exact of_decide_eq_true hm
  have hc2 : a.cnt ≤ 1048576 := by have := of_decide_eq_false hx; omega
  have e9 : padB a.cnt = List.replicate (a.cnt.toNat - 1) 0 := if_pos hc2
  rw [e9] at h hl eB
  refine ⟨?_, ?_, ?_, rfl, rfl, hk.symm⟩
  · show yZ l ((ab (bgF 0) dz, ((1, 0) : Sq))) = _
    rw [yZ_en (Hs.drop h (by omega)) hc1]
    rw [eB]
    refine Prod.ext rfl (Prod.ext ?_ rfl)
    first | rfl | (simp; done) | (simp; omega)
  · have hm2 : mayB a = decide (1 ≤ a.cnt) := by unfold mayB; rw [hk]; rfl
    rw [hm2] at hm
    exact hm
  · rfl
theorem kd_1 (a : Fa) (hk : a.k = 1) (hm : mayB a = true) (hx : pX 1 a = false) (hR : a.R.length = 16) (hT : a.T.length = 8) {l : List UInt8} (h : Hs l 1 (pB 1 a)) :
    yW 1 l (ab (bgF 1) dz, (1, 0)) = (can 1 a, (1 + (pB 1 a).length, 0)) ∧ mayB (can 1 a) = true ∧ stB (can 1 a) = 1 ∧ pB 1 (can 1 a) = pB 1 a ∧ pX 1 (can 1 a) = pX 1 a ∧ (can 1 a).k = a.k := by
  have eB : pB 1 a = [] := rfl
  have hx0 := hx
  have h0 := h
  rw [eB] at h
  refine ⟨?_, ?_, ?_, rfl, rfl, hk.symm⟩
  · show (ab (bgF 1) dz, ((1, 0) : Sq)) = _
    rfl
  · rfl
  · rfl
theorem kd_2 (a : Fa) (hk : a.k = 2) (hm : mayB a = true) (hx : pX 2 a = false) (hR : a.R.length = 16) (hT : a.T.length = 8) {l : List UInt8} (h : Hs l 1 (pB 2 a)) :
    yW 2 l (ab (bgF 2) dz, (1, 0)) = (can 2 a, (1 + (pB 2 a).length, 0)) ∧ mayB (can 2 a) = true ∧ stB (can 2 a) = 2 ∧ pB 2 (can 2 a) = pB 2 a ∧ pX 2 (can 2 a) = pX 2 a ∧ (can 2 a).k = a.k := by
  have eB : pB 2 a = ackB a.A a.del := rfl
  have eX : pX 2 a = ackX a.A a.del := rfl
  have hx0 := hx
  have h0 := h
  rw [eB] at h
  rw [eX] at hx
  obtain ⟨q1, q2, q3⟩ := ackX_ok hx
  rw [q3] at h eB
  refine ⟨?_, ?_, ?_, rfl, rfl, hk.symm⟩
  · show yA l ((ab (bgF 2) dz, ((1, 0) : Sq))) = _
    rw [yA_en q1 h q2]
    rw [eB]
    refine Prod.ext rfl (Prod.ext ?_ rfl)
    first | rfl | (simp; done) | (simp; omega)
  · rfl
  · rfl
theorem kd_3 (a : Fa) (hk : a.k = 3) (hm : mayB a = true) (hx : pX 3 a = false) (hR : a.R.length = 16) (hT : a.T.length = 8) {l : List UInt8} (h : Hs l 1 (pB 3 a)) :
    yW 3 l (ab (bgF 3) dz, (1, 0)) = (can 3 a, (1 + (pB 3 a).length, 0)) ∧ mayB (can 3 a) = true ∧ stB (can 3 a) = 3 ∧ pB 3 (can 3 a) = pB 3 a ∧ pX 3 (can 3 a) = pX 3 a ∧ (can 3 a).k = a.k := by
  have eB : pB 3 a = (ackB a.A a.del ++ encs [a.e0, a.e1, a.e2]) := rfl
  have eX : pX 3 a = (ackX a.A a.del || bads [a.e0, a.e1, a.e2]) := rfl
  have hx0 := hx
  have h0 := h
  rw [eB] at h
  rw [eX] at hx
  simp only [Bool.or_eq_false_iff] at hx
  obtain ⟨q1, q2, q3⟩ := ackX_ok hx.1
  rw [q3] at h eB
  refine ⟨?_, ?_, ?_, rfl, rfl, hk.symm⟩
  · show yNs l (yA l ((ab (bgF 3) dz, ((1, 0) : Sq)))) [11, 12, 13] = _
    rw [yA_en q1 h.left q2]
    rw [yNs_en _ _ _ _ rfl h.right hx.2]
    rw [eB]
    refine Prod.ext rfl (Prod.ext ?_ rfl)
    first | rfl | (simp; done) | (simp; omega)
  · rfl
  · rfl
theorem kd_4 (a : Fa) (hk : a.k = 4) (hm : mayB a = true) (hx : pX 4 a = false) (hR : a.R.length = 16) (hT : a.T.length = 8) {l : List UInt8} (h : Hs l 1 (pB 4 a)) :
    yW 4 l (ab (bgF 4) dz, (1, 0)) = (can 4 a, (1 + (pB 4 a).length, 0)) ∧ mayB (can 4 a) = true ∧ stB (can 4 a) = 4 ∧ pB 4 (can 4 a) = pB 4 a ∧ pX 4 (can 4 a) = pX 4 a ∧ (can 4 a).k = a.k := by
  have eB : pB 4 a = encs [a.s, a.code, a.lim] := rfl
  have eX : pX 4 a = bads [a.s, a.code, a.lim] := rfl
  have hx0 := hx
  have h0 := h
  rw [eB] at h
  rw [eX] at hx
  refine ⟨?_, ?_, ?_, rfl, rfl, hk.symm⟩
  · show yNs l ((ab (bgF 4) dz, ((1, 0) : Sq))) [1, 7, 6] = _
    rw [yNs_en _ _ _ _ rfl h hx]
    rw [eB]
    refine Prod.ext rfl (Prod.ext ?_ rfl)
    first | rfl | (simp; done) | (simp; omega)
  · rfl
  · rfl
theorem kd_5 (a : Fa) (hk : a.k = 5) (hm : mayB a = true) (hx : pX 5 a = false) (hR : a.R.length = 16) (hT : a.T.length = 8) {l : List UInt8} (h : Hs l 1 (pB 5 a)) :
    yW 5 l (ab (bgF 5) dz, (1, 0)) = (can 5 a, (1 + (pB 5 a).length, 0)) ∧ mayB (can 5 a) = true ∧ stB (can 5 a) = 5 ∧ pB 5 (can 5 a) = pB 5 a ∧ pX 5 (can 5 a) = pX 5 a ∧ (can 5 a).k = a.k := by
  have eB : pB 5 a = encs [a.s, a.code] := rfl
  have eX : pX 5 a = bads [a.s, a.code] := rfl
  have hx0 := hx
  have h0 := h
  rw [eB] at h
  rw [eX] at hx
  refine ⟨?_, ?_, ?_, rfl, rfl, hk.symm⟩
  · show yNs l ((ab (bgF 5) dz, ((1, 0) : Sq))) [1, 7] = _
    rw [yNs_en _ _ _ _ rfl h hx]
    rw [eB]
    refine Prod.ext rfl (Prod.ext ?_ rfl)
    first | rfl | (simp; done) | (simp; omega)
  · rfl
  · rfl
theorem kd_6 (a : Fa) (hk : a.k = 6) (hm : mayB a = true) (hx : pX 6 a = false) (hR : a.R.length = 16) (hT : a.T.length = 8) {l : List UInt8} (h : Hs l 1 (pB 6 a)) :
    yW 6 l (ab (bgF 6) dz, (1, 0)) = (can 6 a, (1 + (pB 6 a).length, 0)) ∧ mayB (can 6 a) = true ∧ stB (can 6 a) = 6 ∧ pB 6 (can 6 a) = pB 6 a ∧ pX 6 (can 6 a) = pX 6 a ∧ (can 6 a).k = a.k := by
  have eB : pB 6 a = (encs [a.o] ++ (encv a.D.length ++ rB a.D)) := rfl
  have eX : pX 6 a = (bads [a.o] || bg a.D) := rfl
  have hx0 := hx
  have h0 := h
  rw [eB] at h
  rw [eX] at hx
  simp only [Bool.or_eq_false_iff] at hx
  obtain ⟨d1, d2⟩ := rB_ok hx.2
  rw [d1] at h eB
  refine ⟨?_, ?_, ?_, rfl, rfl, hk.symm⟩
  · show yC l (yNs l ((ab (bgF 6) dz, ((1, 0) : Sq))) [2]) = _
    rw [yNs_en _ _ _ _ rfl h.left hx.1]
    rw [yC_en h.right d2]
    rw [eB]
    refine Prod.ext rfl (Prod.ext ?_ rfl)
    first | rfl | (simp; done) | (simp; omega)
  · have hm2 : mayB a = decide (a.o ≤ 4611686018427387903 - (a.D.length : Int)) := by unfold mayB; rw [hk]; rfl
    rw [hm2] at hm
    exact hm
  · rfl
theorem kd_7 (a : Fa) (hk : a.k = 7) (hm : mayB a = true) (hx : pX 7 a = false) (hR : a.R.length = 16) (hT : a.T.length = 8) {l : List UInt8} (h : Hs l 1 (pB 7 a)) :
    yW 7 l (ab (bgF 7) dz, (1, 0)) = (can 7 a, (1 + (pB 7 a).length, 0)) ∧ mayB (can 7 a) = true ∧ stB (can 7 a) = 7 ∧ pB 7 (can 7 a) = pB 7 a ∧ pX 7 (can 7 a) = pX 7 a ∧ (can 7 a).k = a.k := by
  have eB : pB 7 a = (encv a.D.length ++ rB a.D) := rfl
  have eX : pX 7 a = bg a.D := rfl
  have hx0 := hx
  have h0 := h
  rw [eB] at h
  rw [eX] at hx
  obtain ⟨d1, d2⟩ := rB_ok hx
  rw [d1] at h eB
  refine ⟨?_, ?_, ?_, rfl, rfl, hk.symm⟩
  · show yC l ((ab (bgF 7) dz, ((1, 0) : Sq))) = _
    rw [yC_en h d2]
    rw [eB]
    refine Prod.ext rfl (Prod.ext ?_ rfl)
    first | rfl | (simp; done) | (simp; omega)
  · have hm2 : mayB a = decide (0 < a.D.length) := by unfold mayB; rw [hk]; rfl
    rw [hm2] at hm
    exact hm
  · rfl
theorem kd_8 (a : Fa) (hk : a.k = 8) (ho : a.o = 0) (hln : a.len = false) (hfn : a.fin = false) (hm : mayB a = true) (hx : pX 8 a = false) (hR : a.R.length = 16) (hT : a.T.length = 8) {l : List UInt8} (h : Hs l 1 (pB 8 a)) (hl : l.length = 1 + (pB 8 a).length) :
    yW 8 l (ab (bgF 8) dz, (1, 0)) = (can 8 a, (1 + (pB 8 a).length, 0)) ∧ mayB (can 8 a) = true ∧ stB (can 8 a) = 8 ∧ pB 8 (can 8 a) = pB 8 a ∧ pX 8 (can 8 a) = pX 8 a ∧ (can 8 a).k = a.k ∧ (can 8 a).s = a.s ∧ (can 8 a).o = a.o ∧ (can 8 a).fin = a.fin ∧ (can 8 a).len = a.len := by
  have eB : pB 8 a = (encs [a.s] ++ rB a.D) := rfl
  have eX : pX 8 a = (bads [a.s] || bg a.D) := rfl
  have hx0 := hx
  have h0 := h
  rw [eB] at h
  rw [eB] at hl
  rw [eX] at hx
  simp only [Bool.or_eq_false_iff] at hx
  obtain ⟨d1, d2⟩ := rB_ok hx.2
  rw [d1] at h hl eB
  refine ⟨?_, ?_, ?_, rfl, rfl, hk.symm, rfl, ?_, ?_, ?_⟩
  · show yE l (yNs l ((ab (bgF 8) dz, ((1, 0) : Sq))) [1]) = _
    rw [yNs_en _ _ _ _ rfl h.left hx.1]
    rw [yE_en (Hs.drop h.right (by first | omega | (simp at hl ⊢; omega))) (by have := (h.right).le; omega)]
    rw [eB]
    refine Prod.ext rfl (Prod.ext ?_ rfl)
    first | rfl | (simp; done) | (simp; omega)
  · have hm2 : mayB a = decide (a.o ≤ 4611686018427387903 - (a.D.length : Int)) := by unfold mayB; rw [hk]; rfl
    rw [hm2, ho] at hm
    exact hm
  · rfl
  · exact ho.symm
  · exact hfn.symm
  · exact hln.symm
theorem kd_9 (a : Fa) (hk : a.k = 8) (ho : a.o = 0) (hln : a.len = false) (hfn : a.fin = true) (hm : mayB a = true) (hx : pX 9 a = false) (hR : a.R.length = 16) (hT : a.T.length = 8) {l : List UInt8} (h : Hs l 1 (pB 9 a)) (hl : l.length = 1 + (pB 9 a).length) :
    yW 9 l (ab (bgF 9) dz, (1, 0)) = (can 9 a, (1 + (pB 9 a).length, 0)) ∧ mayB (can 9 a) = true ∧ stB (can 9 a) = 9 ∧ pB 9 (can 9 a) = pB 9 a ∧ pX 9 (can 9 a) = pX 9 a ∧ (can 9 a).k = a.k ∧ (can 9 a).s = a.s ∧ (can 9 a).o = a.o ∧ (can 9 a).fin = a.fin ∧ (can 9 a).len = a.len := by
  have eB : pB 9 a = (encs [a.s] ++ rB a.D) := rfl
  have eX : pX 9 a = (bads [a.s] || bg a.D) := rfl
  have hx0 := hx
  have h0 := h
  rw [eB] at h
  rw [eB] at hl
  rw [eX] at hx
  simp only [Bool.or_eq_false_iff] at hx
  obtain ⟨d1, d2⟩ := rB_ok hx.2
  rw [d1] at h hl eB
  refine ⟨?_, ?_, ?_, rfl, rfl, hk.symm, rfl, ?_, ?_, ?_⟩
  · show yE l (yNs l ((ab (bgF 9) dz, ((1, 0) : Sq))) [1]) = _
    rw [yNs_en _ _ _ _ rfl h.left hx.1]
    rw [yE_en (Hs.drop h.right (by first | omega | (simp at hl ⊢; omega))) (by have := (h.right).le; omega)]
    rw [eB]
    refine Prod.ext rfl (Prod.ext ?_ rfl)
    first | rfl | (simp; done) | (simp; omega)
  · have hm2 : mayB a = decide (a.o ≤ 4611686018427387903 - (a.D.length : Int)) := by unfold mayB; rw [hk]; rfl
    rw [hm2, ho] at hm
    exact hm
  · rfl
  · exact ho.symm
  · exact hfn.symm
  · exact hln.symm
theorem kd_10 (a : Fa) (hk : a.k = 8) (ho : a.o = 0) (hln : a.len = true) (hfn : a.fin = false) (hm : mayB a = true) (hx : pX 10 a = false) (hR : a.R.length = 16) (hT : a.T.length = 8) {l : List UInt8} (h : Hs l 1 (pB 10 a)) :
    yW 10 l (ab (bgF 10) dz, (1, 0)) = (can 10 a, (1 + (pB 10 a).length, 0)) ∧ mayB (can 10 a) = true ∧ stB (can 10 a) = 10 ∧ pB 10 (can 10 a) = pB 10 a ∧ pX 10 (can 10 a) = pX 10 a ∧ (can 10 a).k = a.k ∧ (can 10 a).s = a.s ∧ (can 10 a).o = a.o ∧ (can 10 a).fin = a.fin ∧ (can 10 a).len = a.len := by
  have eB : pB 10 a = (encs [a.s] ++ (encv a.D.length ++ rB a.D)) := rfl
  have eX : pX 10 a = (bads [a.s] || bg a.D) := rfl
  have hx0 := hx
  have h0 := h
  rw [eB] at h
  rw [eX] at hx
  simp only [Bool.or_eq_false_iff] at hx
  obtain ⟨d1, d2⟩ := rB_ok hx.2
  rw [d1] at h eB
  refine ⟨?_, ?_, ?_, rfl, rfl, hk.symm, rfl, ?_, ?_, ?_⟩
  · show yC l (yNs l ((ab (bgF 10) dz, ((1, 0) : Sq))) [1]) = _
    rw [yNs_en _ _ _ _ rfl h.left hx.1]
    rw [yC_en h.right d2]
    rw [eB]
    refine Prod.ext rfl (Prod.ext ?_ rfl)
    first | rfl | (simp; done) | (simp; omega)
  · have hm2 : mayB a = decide (a.o ≤ 4611686018427387903 - (a.D.length : Int)) := by unfold mayB; rw [hk]; rfl
    rw [hm2, ho] at hm
    exact hm
  · rfl
  · exact ho.symm
  · exact hfn.symm
  · exact hln.symm
theorem kd_11 (a : Fa) (hk : a.k = 8) (ho : a.o = 0) (hln : a.len = true) (hfn : a.fin = true) (hm : mayB a = true) (hx : pX 11 a = false) (hR : a.R.length = 16) (hT : a.T.length = 8) {l : List UInt8} (h : Hs l 1 (pB 11 a)) :
    yW 11 l (ab (bgF 11) dz, (1, 0)) = (can 11 a, (1 + (pB 11 a).length, 0)) ∧ mayB (can 11 a) = true ∧ stB (can 11 a) = 11 ∧ pB 11 (can 11 a) = pB 11 a ∧ pX 11 (can 11 a) = pX 11 a ∧ (can 11 a).k = a.k ∧ (can 11 a).s = a.s ∧ (can 11 a).o = a.o ∧ (can 11 a).fin = a.fin ∧ (can 11 a).len = a.len := by
  have eB : pB 11 a = (encs [a.s] ++ (encv a.D.length ++ rB a.D)) := rfl
  have eX : pX 11 a = (bads [a.s] || bg a.D) := rfl
  have hx0 := hx
  have h0 := h
  rw [eB] at h
  rw [eX] at hx
  simp only [Bool.or_eq_false_iff] at hx
  obtain ⟨d1, d2⟩ := rB_ok hx.2
  rw [d1] at h eB
  refine ⟨?_, ?_, ?_, rfl, rfl, hk.symm, rfl, ?_, ?_, ?_⟩
  · show yC l (yNs l ((ab (bgF 11) dz, ((1, 0) : Sq))) [1]) = _
    rw [yNs_en _ _ _ _ rfl h.left hx.1]
    rw [yC_en h.right d2]
    rw [eB]
    refine Prod.ext rfl (Prod.ext ?_ rfl)
    first | rfl | (simp; done) | (simp; omega)
  · have hm2 : mayB a = decide (a.o ≤ 4611686018427387903 - (a.D.length : Int)) := by unfold mayB; rw [hk]; rfl
    rw [hm2, ho] at hm
    exact hm
  · rfl
  · exact ho.symm
  · exact hfn.symm
  · exact hln.symm
theorem kd_12 (a : Fa) (hk : a.k = 8) (ho : ¬ a.o = 0) (hln : a.len = false) (hfn : a.fin = false) (hm : mayB a = true) (hx : pX 12 a = false) (hR : a.R.length = 16) (hT : a.T.length = 8) {l : List UInt8} (h : Hs l 1 (pB 12 a)) (hl : l.length = 1 + (pB 12 a).length) :
    yW 12 l (ab (bgF 12) dz, (1, 0)) = (can 12 a, (1 + (pB 12 a).length, 0)) ∧ mayB (can 12 a) = true ∧ stB (can 12 a) = 12 ∧ pB 12 (can 12 a) = pB 12 a ∧ pX 12 (can 12 a) = pX 12 a ∧ (can 12 a).k = a.k ∧ (can 12 a).s = a.s ∧ (can 12 a).o = a.o ∧ (can 12 a).fin = a.fin ∧ (can 12 a).len = a.len := by
  have eB : pB 12 a = (encs [a.s] ++ (encs [a.o] ++ rB a.D)) := rfl
  have eX : pX 12 a = (bads [a.s] || (bads [a.o] || bg a.D)) := rfl
  have hx0 := hx
  have h0 := h
  rw [eB] at h
  rw [eB] at hl
  rw [eX] at hx
  simp only [Bool.or_eq_false_iff] at hx
  obtain ⟨d1, d2⟩ := rB_ok hx.2.2
  rw [d1] at h hl eB
  refine ⟨?_, ?_, ?_, rfl, rfl, hk.symm, rfl, ?_, ?_, ?_⟩
  · show yE l (yNs l (yNs l ((ab (bgF 12) dz, ((1, 0) : Sq))) [1]) [2]) = _
    rw [yNs_en _ _ _ _ rfl h.left hx.1]
    rw [yNs_en _ _ _ _ rfl h.right.left hx.2.1]
    rw [yE_en (Hs.drop h.right.right (by first | omega | (simp at hl ⊢; omega))) (by have := (h.right.right).le; omega)]
    rw [eB]
    refine Prod.ext rfl (Prod.ext ?_ rfl)
    first | rfl | (simp; done) | (simp; omega)
  · have hm2 : mayB a = decide (a.o ≤ 4611686018427387903 - (a.D.length : Int)) := by unfold mayB; rw [hk]; rfl
    rw [hm2] at hm
    exact hm
  · show (8 : Int) + (if a.o = 0 then 0 else 4) + 0 + 0 = 12
    rw [if_neg ho]
    rfl
  · rfl
  · exact hfn.symm
  · exact hln.symm
theorem kd_13 (a : Fa) (hk : a.k = 8) (ho : ¬ a.o = 0) (hln : a.len = false) (hfn : a.fin = true) (hm : mayB a = true) (hx : pX 13 a = false) (hR : a.R.length = 16) (hT : a.T.length = 8) {l : List UInt8} (h : Hs l 1 (pB 13 a)) (hl : l.length = 1 + (pB 13 a).length) :
    yW 13 l (ab (bgF 13) dz, (1, 0)) = (can 13 a, (1 + (pB 13 a).length, 0)) ∧ mayB (can 13 a) = true ∧ stB (can 13 a) = 13 ∧ pB 13 (can 13 a) = pB 13 a ∧ pX 13 (can 13 a) = pX 13 a ∧ (can 13 a).k = a.k ∧ (can 13 a).s = a.s ∧ (can 13 a).o = a.o ∧ (can 13 a).fin = a.fin ∧ (can 13 a).len = a.len := by
  have eB : pB 13 a = (encs [a.s] ++ (encs [a.o] ++ rB a.D)) := rfl
  have eX : pX 13 a = (bads [a.s] || (bads [a.o] || bg a.D)) := rfl
  have hx0 := hx
  have h0 := h
  rw [eB] at h
  rw [eB] at hl
  rw [eX] at hx
  simp only [Bool.or_eq_false_iff] at hx
  obtain ⟨d1, d2⟩ := rB_ok hx.2.2
  rw [d1] at h hl eB
  refine ⟨?_, ?_, ?_, rfl, rfl, hk.symm, rfl, ?_, ?_, ?_⟩
  · show yE l (yNs l (yNs l ((ab (bgF 13) dz, ((1, 0) : Sq))) [1]) [2]) = _
    rw [yNs_en _ _ _ _ rfl h.left hx.1]
    rw [yNs_en _ _ _ _ rfl h.right.left hx.2.1]
    rw [yE_en (Hs.drop h.right.right (by first | omega | (simp at hl ⊢; omega))) (by have := (h.right.right).le; omega)]
    rw [eB]
    refine Prod.ext rfl (Prod.ext ?_ rfl)
    first | rfl | (simp; done) | (simp; omega)
  · have hm2 : mayB a = decide (a.o ≤ 4611686018427387903 - (a.D.length : Int)) := by unfold mayB; rw [hk]; rfl
    rw [hm2] at hm
    exact hm
  · show (8 : Int) + (if a.o = 0 then 0 else 4) + 0 + 1 = 13
    rw [if_neg ho]
    rfl
  · rfl
  · exact hfn.symm
  · exact hln.symm
theorem kd_14 (a : Fa) (hk : a.k = 8) (ho : ¬ a.o = 0) (hln : a.len = true) (hfn : a.fin = false) (hm : mayB a = true) (hx : pX 14 a = false) (hR : a.R.length = 16) (hT : a.T.length = 8) {l : List UInt8} (h : Hs l 1 (pB 14 a)) :
    yW 14 l (ab (bgF 14) dz, (1, 0)) = (can 14 a, (1 + (pB 14 a).length, 0)) ∧ mayB (can 14 a) = true ∧ stB (can 14 a) = 14 ∧ pB 14 (can 14 a) = pB 14 a ∧ pX 14 (can 14 a) = pX 14 a ∧ (can 14 a).k = a.k ∧ (can 14 a).s = a.s ∧ (can 14 a).o = a.o ∧ (can 14 a).fin = a.fin ∧ (can 14 a).len = a.len := by
  have eB : pB 14 a = (encs [a.s] ++ (encs [a.o] ++ (encv a.D.length ++ rB a.D))) := rfl
  have eX : pX 14 a = (bads [a.s] || (bads [a.o] || bg a.D)) := rfl
  have hx0 := hx
  have h0 := h
  rw [eB] at h
  rw [eX] at hx
  simp only [Bool.or_eq_false_iff] at hx
  obtain ⟨d1, d2⟩ := rB_ok hx.2.2
  rw [d1] at h eB
  refine ⟨?_, ?_, ?_, rfl, rfl, hk.symm, rfl, ?_, ?_, ?_⟩
  · show yC l (yNs l (yNs l ((ab (bgF 14) dz, ((1, 0) : Sq))) [1]) [2]) = _
    rw [yNs_en _ _ _ _ rfl h.left hx.1]
    rw [yNs_en _ _ _ _ rfl h.right.left hx.2.1]
    rw [yC_en h.right.right d2]
    rw [eB]
    refine Prod.ext rfl (Prod.ext ?_ rfl)
    first | rfl | (simp; done) | (simp; omega)
  · have hm2 : mayB a = decide (a.o ≤ 4611686018427387903 - (a.D.length : Int)) := by unfold mayB; rw [hk]; rfl
    rw [hm2] at hm
    exact hm
  · show (8 : Int) + (if a.o = 0 then 0 else 4) + 2 + 0 = 14
    rw [if_neg ho]
    rfl
  · rfl
  · exact hfn.symm
  · exact hln.symm
theorem kd_15 (a : Fa) (hk : a.k = 8) (ho : ¬ a.o = 0) (hln : a.len = true) (hfn : a.fin = true) (hm : mayB a = true) (hx : pX 15 a = false) (hR : a.R.length = 16) (hT : a.T.length = 8) {l : List UInt8} (h : Hs l 1 (pB 15 a)) :
    yW 15 l (ab (bgF 15) dz, (1, 0)) = (can 15 a, (1 + (pB 15 a).length, 0)) ∧ mayB (can 15 a) = true ∧ stB (can 15 a) = 15 ∧ pB 15 (can 15 a) = pB 15 a ∧ pX 15 (can 15 a) = pX 15 a ∧ (can 15 a).k = a.k ∧ (can 15 a).s = a.s ∧ (can 15 a).o = a.o ∧ (can 15 a).fin = a.fin ∧ (can 15 a).len = a.len := by
  have eB : pB 15 a = (encs [a.s] ++ (encs [a.o] ++ (encv a.D.length ++ rB a.D))) := rfl
  have eX : pX 15 a = (bads [a.s] || (bads [a.o] || bg a.D)) := rfl
  have hx0 := hx
  have h0 := h
  rw [eB] at h
  rw [eX] at hx
  simp only [Bool.or_eq_false_iff] at hx
  obtain ⟨d1, d2⟩ := rB_ok hx.2.2
  rw [d1] at h eB
  refine ⟨?_, ?_, ?_, rfl, rfl, hk.symm, rfl, ?_, ?_, ?_⟩
  · show yC l (yNs l (yNs l ((ab (bgF 15) dz, ((1, 0) : Sq))) [1]) [2]) = _
    rw [yNs_en _ _ _ _ rfl h.left hx.1]
    rw [yNs_en _ _ _ _ rfl h.right.left hx.2.1]
    rw [yC_en h.right.right d2]
    rw [eB]
    refine Prod.ext rfl (Prod.ext ?_ rfl)
    first | rfl | (simp; done) | (simp; omega)
  · have hm2 : mayB a = decide (a.o ≤ 4611686018427387903 - (a.D.length : Int)) := by unfold mayB; rw [hk]; rfl
    rw [hm2] at hm
    exact hm
  · show (8 : Int) + (if a.o = 0 then 0 else 4) + 2 + 1 = 15
    rw [if_neg ho]
    rfl
  · rfl
  · exact hfn.symm
  · exact hln.symm
theorem kd_16 (a : Fa) (hk : a.k = 16) (hm : mayB a = true) (hx : pX 16 a = false) (hR : a.R.length = 16) (hT : a.T.length = 8) {l : List UInt8} (h : Hs l 1 (pB 16 a)) :
    yW 16 l (ab (bgF 16) dz, (1, 0)) = (can 16 a, (1 + (pB 16 a).length, 0)) ∧ mayB (can 16 a) = true ∧ stB (can 16 a) = 16 ∧ pB 16 (can 16 a) = pB 16 a ∧ pX 16 (can 16 a) = pX 16 a ∧ (can 16 a).k = a.k := by
  have eB : pB 16 a = encs [a.lim] := rfl
  have eX : pX 16 a = bads [a.lim] := rfl
  have hx0 := hx
  have h0 := h
  rw [eB] at h
  rw [eX] at hx
  refine ⟨?_, ?_, ?_, rfl, rfl, hk.symm⟩
  · show yNs l ((ab (bgF 16) dz, ((1, 0) : Sq))) [6] = _
    rw [yNs_en _ _ _ _ rfl h hx]
    rw [eB]
    refine Prod.ext rfl (Prod.ext ?_ rfl)
    first | rfl | (simp; done) | (simp; omega)
  · rfl
  · rfl
theorem kd_17 (a : Fa) (hk : a.k = 17) (hm : mayB a = true) (hx : pX 17 a = false) (hR : a.R.length = 16) (hT : a.T.length = 8) {l : List UInt8} (h : Hs l 1 (pB 17 a)) :
    yW 17 l (ab (bgF 17) dz, (1, 0)) = (can 17 a, (1 + (pB 17 a).length, 0)) ∧ mayB (can 17 a) = true ∧ stB (can 17 a) = 17 ∧ pB 17 (can 17 a) = pB 17 a ∧ pX 17 (can 17 a) = pX 17 a ∧ (can 17 a).k = a.k := by
  have eB : pB 17 a = (encs [a.s] ++ encs [a.lim]) := rfl
  have eX : pX 17 a = (bads [a.s] || bads [a.lim]) := rfl
  have hx0 := hx
  have h0 := h
  rw [eB] at h
  rw [eX] at hx
  simp only [Bool.or_eq_false_iff] at hx
  refine ⟨?_, ?_, ?_, rfl, rfl, hk.symm⟩
  · show yNs l (yNs l ((ab (bgF 17) dz, ((1, 0) : Sq))) [1]) [6] = _
    rw [yNs_en _ _ _ _ rfl h.left hx.1]
    rw [yNs_en _ _ _ _ rfl h.right hx.2]
    rw [eB]
    refine Prod.ext rfl (Prod.ext ?_ rfl)
    first | rfl | (simp; done) | (simp; omega)
  · rfl
  · rfl
theorem kd_18 (a : Fa) (hk : a.k = 18) (hm : mayB a = true) (hx : pX 18 a = false) (hR : a.R.length = 16) (hT : a.T.length = 8) {l : List UInt8} (h : Hs l 1 (pB 18 a)) :
    yW 18 l (ab (bgF 18) dz, (1, 0)) = (can 18 a, (1 + (pB 18 a).length, 0)) ∧ mayB (can 18 a) = true ∧ stB (can 18 a) = 18 ∧ pB 18 (can 18 a) = pB 18 a ∧ pX 18 (can 18 a) = pX 18 a ∧ (can 18 a).k = a.k := by
  have eB : pB 18 a = encs [a.lim] := rfl
  have eX : pX 18 a = bads [a.lim] := rfl
  have hx0 := hx
  have h0 := h
  rw [eB] at h
  rw [eX] at hx
  refine ⟨?_, ?_, ?_, rfl, rfl, hk.symm⟩
  · show yNs l ((ab (bgF 18) dz, ((1, 0) : Sq))) [6] = _
    rw [yNs_en _ _ _ _ rfl h hx]
    rw [eB]
    refine Prod.ext rfl (Prod.ext ?_ rfl)
    first | rfl | (simp; done) | (simp; omega)
  · have hm2 : mayB a = decide (a.lim ≤ 1152921504606846976) := by unfold mayB; rw [hk]; rfl
    rw [hm2] at hm
    exact hm
  · rfl
theorem kd_19 (a : Fa) (hk : a.k = 19) (hm : mayB a = true) (hx : pX 19 a = false) (hR : a.R.length = 16) (hT : a.T.length = 8) {l : List UInt8} (h : Hs l 1 (pB 19 a)) :
    yW 19 l (ab (bgF 19) dz, (1, 0)) = (can 19 a, (1 + (pB 19 a).length, 0)) ∧ mayB (can 19 a) = true ∧ stB (can 19 a) = 19 ∧ pB 19 (can 19 a) = pB 19 a ∧ pX 19 (can 19 a) = pX 19 a ∧ (can 19 a).k = a.k := by
  have eB : pB 19 a = encs [a.lim] := rfl
  have eX : pX 19 a = bads [a.lim] := rfl
  have hx0 := hx
  have h0 := h
  rw [eB] at h
  rw [eX] at hx
  refine ⟨?_, ?_, ?_, rfl, rfl, hk.symm⟩
  · show yNs l ((ab (bgF 19) dz, ((1, 0) : Sq))) [6] = _
    rw [yNs_en _ _ _ _ rfl h hx]
    rw [eB]
    refine Prod.ext rfl (Prod.ext ?_ rfl)
    first | rfl | (simp; done) | (simp; omega)
  · have hm2 : mayB a = decide (a.lim ≤ 1152921504606846976) := by unfold mayB; rw [hk]; rfl
    rw [hm2] at hm
    exact hm
  · rfl
theorem kd_20 (a : Fa) (hk : a.k = 20) (hm : mayB a = true) (hx : pX 20 a = false) (hR : a.R.length = 16) (hT : a.T.length = 8) {l : List UInt8} (h : Hs l 1 (pB 20 a)) :
    yW 20 l (ab (bgF 20) dz, (1, 0)) = (can 20 a, (1 + (pB 20 a).length, 0)) ∧ mayB (can 20 a) = true ∧ stB (can 20 a) = 20 ∧ pB 20 (can 20 a) = pB 20 a ∧ pX 20 (can 20 a) = pX 20 a ∧ (can 20 a).k = a.k := by
  have eB : pB 20 a = encs [a.lim] := rfl
  have eX : pX 20 a = bads [a.lim] := rfl
  have hx0 := hx
  have h0 := h
  rw [eB] at h
  rw [eX] at hx
  refine ⟨?_, ?_, ?_, rfl, rfl, hk.symm⟩
  · show yNs l ((ab (bgF 20) dz, ((1, 0) : Sq))) [6] = _
    rw [yNs_en _ _ _ _ rfl h hx]
    rw [eB]
    refine Prod.ext rfl (Prod.ext ?_ rfl)
    first | rfl | (simp; done) | (simp; omega)
  · rfl
  · rfl
theorem kd_21 (a : Fa) (hk : a.k = 21) (hm : mayB a = true) (hx : pX 21 a = false) (hR : a.R.length = 16) (hT : a.T.length = 8) {l : List UInt8} (h : Hs l 1 (pB 21 a)) :
    yW 21 l (ab (bgF 21) dz, (1, 0)) = (can 21 a, (1 + (pB 21 a).length, 0)) ∧ mayB (can 21 a) = true ∧ stB (can 21 a) = 21 ∧ pB 21 (can 21 a) = pB 21 a ∧ pX 21 (can 21 a) = pX 21 a ∧ (can 21 a).k = a.k := by
  have eB : pB 21 a = (encs [a.s] ++ encs [a.lim]) := rfl
  have eX : pX 21 a = (bads [a.s] || bads [a.lim]) := rfl
  have hx0 := hx
  have h0 := h
  rw [eB] at h
  rw [eX] at hx
  simp only [Bool.or_eq_false_iff] at hx
  refine ⟨?_, ?_, ?_, rfl, rfl, hk.symm⟩
  · show yNs l (yNs l ((ab (bgF 21) dz, ((1, 0) : Sq))) [1]) [6] = _
    rw [yNs_en _ _ _ _ rfl h.left hx.1]
    rw [yNs_en _ _ _ _ rfl h.right hx.2]
    rw [eB]
    refine Prod.ext rfl (Prod.ext ?_ rfl)
    first | rfl | (simp; done) | (simp; omega)
  · rfl
  · rfl
theorem kd_22 (a : Fa) (hk : a.k = 22) (hm : mayB a = true) (hx : pX 22 a = false) (hR : a.R.length = 16) (hT : a.T.length = 8) {l : List UInt8} (h : Hs l 1 (pB 22 a)) :
    yW 22 l (ab (bgF 22) dz, (1, 0)) = (can 22 a, (1 + (pB 22 a).length, 0)) ∧ mayB (can 22 a) = true ∧ stB (can 22 a) = 22 ∧ pB 22 (can 22 a) = pB 22 a ∧ pX 22 (can 22 a) = pX 22 a ∧ (can 22 a).k = a.k := by
  have eB : pB 22 a = encs [a.lim] := rfl
  have eX : pX 22 a = bads [a.lim] := rfl
  have hx0 := hx
  have h0 := h
  rw [eB] at h
  rw [eX] at hx
  refine ⟨?_, ?_, ?_, rfl, rfl, hk.symm⟩
  · show yNs l ((ab (bgF 22) dz, ((1, 0) : Sq))) [6] = _
    rw [yNs_en _ _ _ _ rfl h hx]
    rw [eB]
    refine Prod.ext rfl (Prod.ext ?_ rfl)
    first | rfl | (simp; done) | (simp; omega)
  · have hm2 : mayB a = decide (a.lim ≤ 1152921504606846976) := by unfold mayB; rw [hk]; rfl
    rw [hm2] at hm
    exact hm
  · rfl
theorem kd_23 (a : Fa) (hk : a.k = 23) (hm : mayB a = true) (hx : pX 23 a = false) (hR : a.R.length = 16) (hT : a.T.length = 8) {l : List UInt8} (h : Hs l 1 (pB 23 a)) :
    yW 23 l (ab (bgF 23) dz, (1, 0)) = (can 23 a, (1 + (pB 23 a).length, 0)) ∧ mayB (can 23 a) = true ∧ stB (can 23 a) = 23 ∧ pB 23 (can 23 a) = pB 23 a ∧ pX 23 (can 23 a) = pX 23 a ∧ (can 23 a).k = a.k := by
  have eB : pB 23 a = encs [a.lim] := rfl
  have eX : pX 23 a = bads [a.lim] := rfl
  have hx0 := hx
  have h0 := h
  rw [eB] at h
  rw [eX] at hx
  refine ⟨?_, ?_, ?_, rfl, rfl, hk.symm⟩
  · show yNs l ((ab (bgF 23) dz, ((1, 0) : Sq))) [6] = _
    rw [yNs_en _ _ _ _ rfl h hx]
    rw [eB]
    refine Prod.ext rfl (Prod.ext ?_ rfl)
    first | rfl | (simp; done) | (simp; omega)
  · have hm2 : mayB a = decide (a.lim ≤ 1152921504606846976) := by unfold mayB; rw [hk]; rfl
    rw [hm2] at hm
    exact hm
  · rfl
theorem kd_24 (a : Fa) (hk : a.k = 24) (hm : mayB a = true) (hx : pX 24 a = false) (hR : a.R.length = 16) (hT : a.T.length = 8) {l : List UInt8} (h : Hs l 1 (pB 24 a)) :
    yW 24 l (ab (bgF 24) dz, (1, 0)) = (can 24 a, (1 + (pB 24 a).length, 0)) ∧ mayB (can 24 a) = true ∧ stB (can 24 a) = 24 ∧ pB 24 (can 24 a) = pB 24 a ∧ pX 24 (can 24 a) = pX 24 a ∧ (can 24 a).k = a.k := by
  have eB : pB 24 a = (encs [a.seq, a.ret] ++ ([UInt8.ofNat a.I.length] ++ (a.I ++ a.R))) := rfl
  have eX : pX 24 a = bads [a.seq, a.ret] := rfl
  have hx0 := hx
  have h0 := h
  rw [eB] at h
  rw [eX] at hx
  have hm3 : mayB a = (decide (a.ret ≤ a.seq) && decide (1 ≤ a.I.length) && decide (a.I.length ≤ 20)) := by unfold mayB; rw [hk]; rfl
  have hI : a.I.length ≤ 20 := by rw [hm3] at hm; exact of_decide_eq_true ((Bool.and_eq_true _ _).mp hm).2
  refine ⟨?_, ?_, ?_, rfl, rfl, hk.symm⟩
  · show yR l (yI l (yNs l ((ab (bgF 24) dz, ((1, 0) : Sq))) [14, 15])) = _
    rw [yNs_en _ _ _ _ rfl h.left hx]
    rw [yI_en (Hs.left (A := [UInt8.ofNat a.I.length] ++ a.I) (by have := h.right; rwa [← List.append_assoc] at this)) hI]
    rw [yR_en (i := 1 + (encs [a.seq, a.ret]).length + 1 + a.I.length) h.right.right.right hR]
    rw [eB]
    refine Prod.ext rfl (Prod.ext ?_ rfl)
    first | rfl | (simp; done) | (simp; omega)
  · have hm2 : mayB a = (decide (a.ret ≤ a.seq) && decide (1 ≤ a.I.length) && decide (a.I.length ≤ 20)) := by unfold mayB; rw [hk]; rfl
    rw [hm2] at hm
    exact hm
  · rfl
theorem kd_25 (a : Fa) (hk : a.k = 25) (hm : mayB a = true) (hx : pX 25 a = false) (hR : a.R.length = 16) (hT : a.T.length = 8) {l : List UInt8} (h : Hs l 1 (pB 25 a)) :
    yW 25 l (ab (bgF 25) dz, (1, 0)) = (can 25 a, (1 + (pB 25 a).length, 0)) ∧ mayB (can 25 a) = true ∧ stB (can 25 a) = 25 ∧ pB 25 (can 25 a) = pB 25 a ∧ pX 25 (can 25 a) = pX 25 a ∧ (can 25 a).k = a.k := by
  have eB : pB 25 a = encs [a.seq] := rfl
  have eX : pX 25 a = bads [a.seq] := rfl
  have hx0 := hx
  have h0 := h
  rw [eB] at h
  rw [eX] at hx
  refine ⟨?_, ?_, ?_, rfl, rfl, hk.symm⟩
  · show yNs l ((ab (bgF 25) dz, ((1, 0) : Sq))) [14] = _
    rw [yNs_en _ _ _ _ rfl h hx]
    rw [eB]
    refine Prod.ext rfl (Prod.ext ?_ rfl)
    first | rfl | (simp; done) | (simp; omega)
  · rfl
  · rfl
theorem kd_26 (a : Fa) (hk : a.k = 26) (hm : mayB a = true) (hx : pX 26 a = false) (hR : a.R.length = 16) (hT : a.T.length = 8) {l : List UInt8} (h : Hs l 1 (pB 26 a)) :
    yW 26 l (ab (bgF 26) dz, (1, 0)) = (can 26 a, (1 + (pB 26 a).length, 0)) ∧ mayB (can 26 a) = true ∧ stB (can 26 a) = 26 ∧ pB 26 (can 26 a) = pB 26 a ∧ pX 26 (can 26 a) = pX 26 a ∧ (can 26 a).k = a.k := by
  have eB : pB 26 a = a.T := rfl
  have hx0 := hx
  have h0 := h
  rw [eB] at h
  refine ⟨?_, ?_, ?_, rfl, rfl, hk.symm⟩
  · show yP l ((ab (bgF 26) dz, ((1, 0) : Sq))) = _
    rw [yP_en h hT]
    rw [eB]
    refine Prod.ext rfl (Prod.ext ?_ rfl)
    first | rfl | (simp; done) | (simp; omega)
  · rfl
  · rfl
theorem kd_27 (a : Fa) (hk : a.k = 27) (hm : mayB a = true) (hx : pX 27 a = false) (hR : a.R.length = 16) (hT : a.T.length = 8) {l : List UInt8} (h : Hs l 1 (pB 27 a)) :
    yW 27 l (ab (bgF 27) dz, (1, 0)) = (can 27 a, (1 + (pB 27 a).length, 0)) ∧ mayB (can 27 a) = true ∧ stB (can 27 a) = 27 ∧ pB 27 (can 27 a) = pB 27 a ∧ pX 27 (can 27 a) = pX 27 a ∧ (can 27 a).k = a.k := by
  have eB : pB 27 a = a.T := rfl
  have hx0 := hx
  have h0 := h
  rw [eB] at h
  refine ⟨?_, ?_, ?_, rfl, rfl, hk.symm⟩
  · show yP l ((ab (bgF 27) dz, ((1, 0) : Sq))) = _
    rw [yP_en h hT]
    rw [eB]
    refine Prod.ext rfl (Prod.ext ?_ rfl)
    first | rfl | (simp; done) | (simp; omega)
  · rfl
  · rfl
theorem kd_28 (a : Fa) (hk : a.k = 28) (hm : mayB a = true) (hx : pX 28 a = false) (hR : a.R.length = 16) (hT : a.T.length = 8) {l : List UInt8} (h : Hs l 1 (pB 28 a)) :
    yW 28 l (ab (bgF 28) dz, (1, 0)) = (can 28 a, (1 + (pB 28 a).length, 0)) ∧ mayB (can 28 a) = true ∧ stB (can 28 a) = 28 ∧ pB 28 (can 28 a) = pB 28 a ∧ pX 28 (can 28 a) = pX 28 a ∧ (can 28 a).k = a.k := by
  have eB : pB 28 a = (encs [a.code, a.of] ++ (encv a.D.length ++ rB a.D)) := rfl
  have eX : pX 28 a = (bads [a.code, a.of] || bg a.D) := rfl
  have hx0 := hx
  have h0 := h
  rw [eB] at h
  rw [eX] at hx
  simp only [Bool.or_eq_false_iff] at hx
  obtain ⟨d1, d2⟩ := rB_ok hx.2
  rw [d1] at h eB
  refine ⟨?_, ?_, ?_, rfl, rfl, hk.symm⟩
  · show yC l (yNs l ((ab (bgF 28) dz, ((1, 0) : Sq))) [7, 8]) = _
    rw [yNs_en _ _ _ _ rfl h.left hx.1]
    rw [yC_en h.right d2]
    rw [eB]
    refine Prod.ext rfl (Prod.ext ?_ rfl)
    first | rfl | (simp; done) | (simp; omega)
  · rfl
  · rfl
theorem kd_29 (a : Fa) (hk : a.k = 29) (hm : mayB a = true) (hx : pX 29 a = false) (hR : a.R.length = 16) (hT : a.T.length = 8) {l : List UInt8} (h : Hs l 1 (pB 29 a)) :
    yW 29 l (ab (bgF 29) dz, (1, 0)) = (can 29 a, (1 + (pB 29 a).length, 0)) ∧ mayB (can 29 a) = true ∧ stB (can 29 a) = 29 ∧ pB 29 (can 29 a) = pB 29 a ∧ pX 29 (can 29 a) = pX 29 a ∧ (can 29 a).k = a.k := by
  have eB : pB 29 a = (encs [a.code] ++ (encv a.D.length ++ rB a.D)) := rfl
  have eX : pX 29 a = (bads [a.code] || bg a.D) := rfl
  have hx0 := hx
  have h0 := h
  rw [eB] at h
  rw [eX] at hx
  simp only [Bool.or_eq_false_iff] at hx
  obtain ⟨d1, d2⟩ := rB_ok hx.2
  rw [d1] at h eB
  refine ⟨?_, ?_, ?_, rfl, rfl, hk.symm⟩
  · show yC l (yNs l ((ab (bgF 29) dz, ((1, 0) : Sq))) [7]) = _
    rw [yNs_en _ _ _ _ rfl h.left hx.1]
    rw [yC_en h.right d2]
    rw [eB]
    refine Prod.ext rfl (Prod.ext ?_ rfl)
    first | rfl | (simp; done) | (simp; omega)
  · rfl
  · rfl
theorem kd_30 (a : Fa) (hk : a.k = 30) (hm : mayB a = true) (hx : pX 30 a = false) (hR : a.R.length = 16) (hT : a.T.length = 8) {l : List UInt8} (h : Hs l 1 (pB 30 a)) :
    yW 30 l (ab (bgF 30) dz, (1, 0)) = (can 30 a, (1 + (pB 30 a).length, 0)) ∧ mayB (can 30 a) = true ∧ stB (can 30 a) = 30 ∧ pB 30 (can 30 a) = pB 30 a ∧ pX 30 (can 30 a) = pX 30 a ∧ (can 30 a).k = a.k := by
  have eB : pB 30 a = [] := rfl
  have hx0 := hx
  have h0 := h
  rw [eB] at h
  refine ⟨?_, ?_, ?_, rfl, rfl, hk.symm⟩
  · show (ab (bgF 30) dz, ((1, 0) : Sq)) = _
    rfl
  · rfl
  · rfl
theorem kd_48 (a : Fa) (hk : a.k = 48) (hm : mayB a = true) (hx : pX 48 a = false) (hR : a.R.length = 16) (hT : a.T.length = 8) {l : List UInt8} (h : Hs l 1 (pB 48 a)) (hl : l.length = 1 + (pB 48 a).length) :
    yW 48 l (ab (bgF 48) dz, (1, 0)) = (can 48 a, (1 + (pB 48 a).length, 0)) ∧ mayB (can 48 a) = true ∧ stB (can 48 a) = 48 ∧ pB 48 (can 48 a) = pB 48 a ∧ pX 48 (can 48 a) = pX 48 a ∧ (can 48 a).k = a.k := by
  have eB : pB 48 a = rB a.D := rfl
  have eX : pX 48 a = bg a.D := rfl
  have hx0 := hx
  have h0 := h
  rw [eB] at h
  rw [eB] at hl
  rw [eX] at hx
  obtain ⟨d1, d2⟩ := rB_ok hx
  rw [d1] at h hl eB
  refine ⟨?_, ?_, ?_, rfl, rfl, hk.symm⟩
  · show yE l ((ab (bgF 48) dz, ((1, 0) : Sq))) = _
    rw [yE_en (Hs.drop h (by first | omega | (simp at hl ⊢; omega))) (by have := (h).le; omega)]
    rw [eB]
    refine Prod.ext rfl (Prod.ext ?_ rfl)
    first | rfl | (simp; done) | (simp; omega)
  · rfl
  · rfl
theorem kd_49 (a : Fa) (hk : a.k = 49) (hm : mayB a = true) (hx : pX 49 a = false) (hR : a.R.length = 16) (hT : a.T.length = 8) {l : List UInt8} (h : Hs l 1 (pB 49 a)) :
    yW 49 l (ab (bgF 49) dz, (1, 0)) = (can 49 a, (1 + (pB 49 a).length, 0)) ∧ mayB (can 49 a) = true ∧ stB (can 49 a) = 49 ∧ pB 49 (can 49 a) = pB 49 a ∧ pX 49 (can 49 a) = pX 49 a ∧ (can 49 a).k = a.k := by
  have eB : pB 49 a = (encv a.D.length ++ rB a.D) := rfl
  have eX : pX 49 a = bg a.D := rfl
  have hx0 := hx
  have h0 := h
  rw [eB] at h
  rw [eX] at hx
  obtain ⟨d1, d2⟩ := rB_ok hx
  rw [d1] at h eB
  refine ⟨?_, ?_, ?_, rfl, rfl, hk.symm⟩
  · show yC l ((ab (bgF 49) dz, ((1, 0) : Sq))) = _
    rw [yC_en h d2]
    rw [eB]
    refine Prod.ext rfl (Prod.ext ?_ rfl)
    first | rfl | (simp; done) | (simp; omega)
  · rfl
  · rfl
end Go.Proofs.YtaeapgkfmofjlaaDoor
