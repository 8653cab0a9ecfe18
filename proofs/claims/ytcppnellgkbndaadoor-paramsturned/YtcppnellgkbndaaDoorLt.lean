/- params: what the reference's words say of the program's parameters: both may be or not alike, and are put as the same bytes. -/
import Derived.Test.YtcppnellgkbndaaDoorMp
import Derived.Test.YtcppnellgkbndaaDoorRq
namespace Go.Proofs.YtcppnellgkbndaaDoor
open Go.ChangeShapes Go.WideShapes Go.ChangeAt Go.RowKit Go.Shelf
set_option linter.unusedVariables false
set_option maxRecDepth 100000

/-- Bytes as a text. -/
def bt (l : List UInt8) : ByteArray := ⟨l.toArray⟩
theorem bt_size (l : List UInt8) : (bt l).size = l.length := by show l.toArray.size = _; simp
theorem bt_list (l : List UInt8) : (bt l).toList = l := by rw [ByteArray.toList_eq]; simp [bt]
theorem bt_nil (l : List UInt8) : (l != []) = decide (0 < l.length) := by cases l <;> simp
/-- The parameters as the reference has them. -/
def refq (p : Ps) : Rq where
  N := fun k => match k with
    | 1 => p.idle
    | 3 => p.payload
    | 4 => p.data
    | 5 => p.bl
    | 6 => p.br
    | 7 => p.un
    | 8 => p.sb
    | 9 => p.su
    | 10 => p.ex
    | 11 => p.de
    | 12 => if p.still then 1 else 0
    | 14 => p.ids
    | 32 => p.dg
    | _ => 0
  T := fun k => match k with
    | 0 => bt p.orig.l
    | 2 => bt p.reset
    | 15 => bt p.first.l
    | 16 => bt p.again.l
    | _ => ⟨#[]⟩
  ha := p.hasAgain
  hr := p.hasReset
theorem may1 (v : Int) : mayR 1 v = decide (0 ≤ v ∧ v ≤ 4611686018427387903) := by simp [mayR]
theorem may3 (v : Int) : mayR 3 v = decide (1200 ≤ v ∧ v ≤ 4611686018427387903) := by rw [Bool.eq_iff_iff]; simp [mayR]; omega
theorem may4 (v : Int) : mayR 4 v = decide (0 ≤ v ∧ v ≤ 4611686018427387903) := by simp [mayR]
theorem may5 (v : Int) : mayR 5 v = decide (0 ≤ v ∧ v ≤ 4611686018427387903) := by simp [mayR]
theorem may6 (v : Int) : mayR 6 v = decide (0 ≤ v ∧ v ≤ 4611686018427387903) := by simp [mayR]
theorem may7 (v : Int) : mayR 7 v = decide (0 ≤ v ∧ v ≤ 4611686018427387903) := by simp [mayR]
theorem may8 (v : Int) : mayR 8 v = decide (0 ≤ v ∧ v ≤ 1152921504606846976) := by rw [Bool.eq_iff_iff]; simp [mayR]; omega
theorem may9 (v : Int) : mayR 9 v = decide (0 ≤ v ∧ v ≤ 1152921504606846976) := by rw [Bool.eq_iff_iff]; simp [mayR]; omega
theorem may10 (v : Int) : mayR 10 v = decide (0 ≤ v ∧ v ≤ 20) := by rw [Bool.eq_iff_iff]; simp [mayR]; omega
theorem may11 (v : Int) : mayR 11 v = decide (0 ≤ v ∧ v ≤ 16383) := by rw [Bool.eq_iff_iff]; simp [mayR]; omega
theorem may14 (v : Int) : mayR 14 v = decide (2 ≤ v ∧ v ≤ 4611686018427387903) := by rw [Bool.eq_iff_iff]; simp [mayR]; omega
theorem may32 (v : Int) : mayR 32 v = decide (0 ≤ v ∧ v ≤ 4611686018427387903) := by simp [mayR]
theorem refq_bad (p : Ps) (s : Bool) : p.bad s = (numsL.any (refq p).nbad || (refq p).tbad s) := by
  have e0 : decide ((20 : Int) < ((bt p.orig.l).size : Int)) = !decide (p.orig.l.length ≤ 20) := by rw [bt_size, Bool.eq_iff_iff]; simp; omega
  have e1 : decide ((20 : Int) < ((bt p.first.l).size : Int)) = !decide (p.first.l.length ≤ 20) := by rw [bt_size, Bool.eq_iff_iff]; simp; omega
  have e2 : decide ((20 : Int) < ((bt p.again.l).size : Int)) = !decide (p.again.l.length ≤ 20) := by rw [bt_size, Bool.eq_iff_iff]; simp; omega
  have e3 : (p.reset != ZS.toList) = !(p.reset == List.replicate 16 0) := by rw [show ZS = bt (List.replicate 16 0) from rfl, bt_list]; rfl
  have hn : numsL.any (refq p).nbad = (!mayR 1 p.idle || (!mayR 3 p.payload || (!mayR 4 p.data || (!mayR 5 p.bl || (!mayR 6 p.br || (!mayR 7 p.un || (!mayR 8 p.sb || (!mayR 9 p.su || (!mayR 10 p.ex || (!mayR 11 p.de || (!mayR 14 p.ids || (!mayR 32 p.dg || false)))))))))))) := rfl
  have ht : (refq p).tbad s = ((decide ((20 : Int) < (bt p.orig.l).size) || decide ((20 : Int) < (bt p.first.l).size) || decide ((20 : Int) < (bt p.again.l).size)) || (!s && ((bt p.orig.l).toList != [] || (bt p.again.l).toList != [] || p.hasAgain || p.hasReset)) || ((!p.hasAgain && (bt p.again.l).toList != []) || (!p.hasReset && (bt p.reset).toList != ZS.toList))) := rfl
  rw [hn, ht, bt_list, bt_list, bt_list, e0, e1, e2, e3, bt_nil, bt_nil, may1, may3, may4, may5, may6, may7, may8, may9, may10, may11, may14, may32]
  simp only [Ps.bad, tab, List.any_cons, List.any_nil, Row.bad, bad, Bool.not_true, Bool.not_false, Bool.or_true, Bool.or_false, Bool.false_and]
  clear e0 e1 e2 e3 hn ht
  generalize decide (p.orig.l.length ≤ 20) = t0
  generalize decide (p.first.l.length ≤ 20) = t15
  generalize decide (p.again.l.length ≤ 20) = t16
  generalize decide (0 < p.orig.l.length) = f0
  generalize decide (0 < p.again.l.length) = f16
  generalize (p.reset == List.replicate 16 0) = z2
  generalize decide (0 ≤ p.idle ∧ p.idle ≤ 4611686018427387903) = n1
  generalize decide (1200 ≤ p.payload ∧ p.payload ≤ 4611686018427387903) = n3
  generalize decide (0 ≤ p.data ∧ p.data ≤ 4611686018427387903) = n4
  generalize decide (0 ≤ p.bl ∧ p.bl ≤ 4611686018427387903) = n5
  generalize decide (0 ≤ p.br ∧ p.br ≤ 4611686018427387903) = n6
  generalize decide (0 ≤ p.un ∧ p.un ≤ 4611686018427387903) = n7
  generalize decide (0 ≤ p.sb ∧ p.sb ≤ 1152921504606846976) = n8
  generalize decide (0 ≤ p.su ∧ p.su ≤ 1152921504606846976) = n9
  generalize decide (0 ≤ p.ex ∧ p.ex ≤ 20) = n10
  generalize decide (0 ≤ p.de ∧ p.de ≤ 16383) = n11
  generalize decide (2 ≤ p.ids ∧ p.ids ≤ 4611686018427387903) = n14
  generalize decide (0 ≤ p.dg ∧ p.dg ≤ 4611686018427387903) = n32
  generalize p.hasAgain = ha
  generalize p.hasReset = hr
  grind
/-- The numbers by default. -/
def dfl (k : Nat) : Int := match k with
  | 3 => 65527
  | 10 => 3
  | 11 => 25
  | 14 => 2
  | _ => 0
/-- What the reference puts of one number's parameter. -/
def Rq.put1 (q : Rq) (s : Bool) (k : Nat) : List UInt8 :=
  if (k : Int) ∈ numsL then (if q.N k = dfl k then [] else layB k (enc (szN (q.N k)) (q.N k)))
  else if (k = 0 ∧ s = true) ∨ (k = 2 ∧ q.hr = true) ∨ k = 15 ∨ (k = 16 ∧ q.ha = true) then layB k (q.T k).data.toList
  else if k = 12 ∧ q.N 12 = 1 then layB 12 [] else []
/-- What the reference puts. -/
def Rq.putN (q : Rq) (s : Bool) (n : Nat) : List UInt8 := (List.range n).flatMap (q.put1 s)
theorem Rq.putN_succ (q : Rq) (s : Bool) (n : Nat) : q.putN s (n + 1) = q.putN s n ++ q.put1 s n := by
  unfold Rq.putN
  rw [List.range_succ, List.flatMap_append]
  simp
theorem num_put (q : Rq) (s : Bool) (k : Nat) (T : TypeId) (V : Value) (al : Bool) (hk : (k : Int) ∈ numsL) : q.put1 s k = RowB.put s ⟨⟨(k : Int), false, false, T, V, al, !(q.N k == dfl k)⟩, enc (szN (q.N k)) (q.N k)⟩ := by
  unfold Rq.put1
  rw [if_pos hk]
  by_cases h : q.N k = dfl k
  · simp [RowB.put, RowB.said, h]
  · simp [RowB.put, RowB.said, h]
theorem no_put (q : Rq) (s : Bool) (k : Nat) (hk : (k : Int) ∉ numsL) (h1 : 16 < k ∨ k = 13) : q.put1 s k = [] := by
  unfold Rq.put1
  rw [if_neg hk, if_neg (by omega), if_neg (by omega)]
theorem flat17 {α : Type} (g : α → List UInt8) (r0 r1 r2 r3 r4 r5 r6 r7 r8 r9 r10 r11 r12 r14 r15 r16 r32 : α) : [r0, r1, r2, r3, r4, r5, r6, r7, r8, r9, r10, r11, r12, r14, r15, r16, r32].flatMap g = g r0 ++ (g r1 ++ (g r2 ++ (g r3 ++ (g r4 ++ (g r5 ++ (g r6 ++ (g r7 ++ (g r8 ++ (g r9 ++ (g r10 ++ (g r11 ++ (g r12 ++ (g r14 ++ (g r15 ++ (g r16 ++ (g r32)))))))))))))))) := by
  simp only [List.flatMap_cons, List.flatMap_nil, List.append_nil]
theorem flat33 (f : Nat → List UInt8) : (List.range 33).flatMap f = f 0 ++ (f 1 ++ (f 2 ++ (f 3 ++ (f 4 ++ (f 5 ++ (f 6 ++ (f 7 ++ (f 8 ++ (f 9 ++ (f 10 ++ (f 11 ++ (f 12 ++ (f 13 ++ (f 14 ++ (f 15 ++ (f 16 ++ (f 17 ++ (f 18 ++ (f 19 ++ (f 20 ++ (f 21 ++ (f 22 ++ (f 23 ++ (f 24 ++ (f 25 ++ (f 26 ++ (f 27 ++ (f 28 ++ (f 29 ++ (f 30 ++ (f 31 ++ (f 32)))))))))))))))))))))))))))))))) := by
  rw [show List.range 33 = [0, 1, 2, 3, 4, 5, 6, 7, 8, 9, 10, 11, 12, 13, 14, 15, 16, 17, 18, 19, 20, 21, 22, 23, 24, 25, 26, 27, 28, 29, 30, 31, 32] from rfl]
  simp only [List.flatMap_cons, List.flatMap_nil, List.append_nil]
theorem join17 (f : Nat → List UInt8) (a0 a1 a2 a3 a4 a5 a6 a7 a8 a9 a10 a11 a12 a14 a15 a16 a32 : List UInt8) (h0 : f 0 = a0) (h1 : f 1 = a1) (h2 : f 2 = a2) (h3 : f 3 = a3) (h4 : f 4 = a4) (h5 : f 5 = a5) (h6 : f 6 = a6) (h7 : f 7 = a7) (h8 : f 8 = a8) (h9 : f 9 = a9) (h10 : f 10 = a10) (h11 : f 11 = a11) (h12 : f 12 = a12) (h14 : f 14 = a14) (h15 : f 15 = a15) (h16 : f 16 = a16) (h32 : f 32 = a32) (he : ∀ k : Nat, (16 < k ∧ k ≠ 32) ∨ k = 13 → f k = []) : (List.range 33).flatMap f = a0 ++ (a1 ++ (a2 ++ (a3 ++ (a4 ++ (a5 ++ (a6 ++ (a7 ++ (a8 ++ (a9 ++ (a10 ++ (a11 ++ (a12 ++ (a14 ++ (a15 ++ (a16 ++ (a32)))))))))))))))) := by
  rw [flat33, he 13 (by omega), he 17 (by omega), he 18 (by omega), he 19 (by omega), he 20 (by omega), he 21 (by omega), he 22 (by omega), he 23 (by omega), he 24 (by omega), he 25 (by omega), he 26 (by omega), he 27 (by omega), he 28 (by omega), he 29 (by omega), he 30 (by omega), he 31 (by omega)]
  subst h0 h1 h2 h3 h4 h5 h6 h7 h8 h9 h10 h11 h12 h14 h15 h16 h32
  simp only [List.nil_append]
theorem row1 (p : Ps) (s : Bool) : (refq p).put1 s 1 = RowB.put s ⟨⟨1, false, false, 83, numV 0 0 0 4611686018427387903 0, decide (0 ≤ p.idle ∧ p.idle ≤ 4611686018427387903), !(p.idle == 0)⟩, enc (szN p.idle) p.idle⟩ := num_put (refq p) s 1 83 _ _ (by decide)
theorem row3 (p : Ps) (s : Bool) : (refq p).put1 s 3 = RowB.put s ⟨⟨3, false, false, 83, numV 0 1 1200 4611686018427387903 65527, decide (1200 ≤ p.payload ∧ p.payload ≤ 4611686018427387903), !(p.payload == 65527)⟩, enc (szN p.payload) p.payload⟩ := num_put (refq p) s 3 83 _ _ (by decide)
theorem row4 (p : Ps) (s : Bool) : (refq p).put1 s 4 = RowB.put s ⟨⟨4, false, false, 83, numV 0 2 0 4611686018427387903 0, decide (0 ≤ p.data ∧ p.data ≤ 4611686018427387903), !(p.data == 0)⟩, enc (szN p.data) p.data⟩ := num_put (refq p) s 4 83 _ _ (by decide)
theorem row5 (p : Ps) (s : Bool) : (refq p).put1 s 5 = RowB.put s ⟨⟨5, false, false, 83, numV 0 3 0 4611686018427387903 0, decide (0 ≤ p.bl ∧ p.bl ≤ 4611686018427387903), !(p.bl == 0)⟩, enc (szN p.bl) p.bl⟩ := num_put (refq p) s 5 83 _ _ (by decide)
theorem row6 (p : Ps) (s : Bool) : (refq p).put1 s 6 = RowB.put s ⟨⟨6, false, false, 83, numV 0 4 0 4611686018427387903 0, decide (0 ≤ p.br ∧ p.br ≤ 4611686018427387903), !(p.br == 0)⟩, enc (szN p.br) p.br⟩ := num_put (refq p) s 6 83 _ _ (by decide)
theorem row7 (p : Ps) (s : Bool) : (refq p).put1 s 7 = RowB.put s ⟨⟨7, false, false, 83, numV 0 5 0 4611686018427387903 0, decide (0 ≤ p.un ∧ p.un ≤ 4611686018427387903), !(p.un == 0)⟩, enc (szN p.un) p.un⟩ := num_put (refq p) s 7 83 _ _ (by decide)
theorem row8 (p : Ps) (s : Bool) : (refq p).put1 s 8 = RowB.put s ⟨⟨8, false, false, 83, numV 0 6 0 1152921504606846976 0, decide (0 ≤ p.sb ∧ p.sb ≤ 1152921504606846976), !(p.sb == 0)⟩, enc (szN p.sb) p.sb⟩ := num_put (refq p) s 8 83 _ _ (by decide)
theorem row9 (p : Ps) (s : Bool) : (refq p).put1 s 9 = RowB.put s ⟨⟨9, false, false, 83, numV 0 7 0 1152921504606846976 0, decide (0 ≤ p.su ∧ p.su ≤ 1152921504606846976), !(p.su == 0)⟩, enc (szN p.su) p.su⟩ := num_put (refq p) s 9 83 _ _ (by decide)
theorem row10 (p : Ps) (s : Bool) : (refq p).put1 s 10 = RowB.put s ⟨⟨10, false, false, 83, numV 0 8 0 20 3, decide (0 ≤ p.ex ∧ p.ex ≤ 20), !(p.ex == 3)⟩, enc (szN p.ex) p.ex⟩ := num_put (refq p) s 10 83 _ _ (by decide)
theorem row11 (p : Ps) (s : Bool) : (refq p).put1 s 11 = RowB.put s ⟨⟨11, false, false, 83, numV 0 9 0 16383 25, decide (0 ≤ p.de ∧ p.de ≤ 16383), !(p.de == 25)⟩, enc (szN p.de) p.de⟩ := num_put (refq p) s 11 83 _ _ (by decide)
theorem row14 (p : Ps) (s : Bool) : (refq p).put1 s 14 = RowB.put s ⟨⟨14, false, false, 83, numV 0 11 2 4611686018427387903 2, decide (2 ≤ p.ids ∧ p.ids ≤ 4611686018427387903), !(p.ids == 2)⟩, enc (szN p.ids) p.ids⟩ := num_put (refq p) s 14 83 _ _ (by decide)
theorem row32 (p : Ps) (s : Bool) : (refq p).put1 s 32 = RowB.put s ⟨⟨32, false, false, 83, numV 0 12 0 4611686018427387903 0, decide (0 ≤ p.dg ∧ p.dg ≤ 4611686018427387903), !(p.dg == 0)⟩, enc (szN p.dg) p.dg⟩ := num_put (refq p) s 32 83 _ _ (by decide)
theorem refq_bytes (p : Ps) (s : Bool) (h : p.bad s = false) : (refq p).putN s 33 = p.bytes s := by
  have hs : s = false → p.orig.l.length = 0 := by
    intro hs
    subst hs
    have h1 : (tab 0 p).any (fun x => x.r.bad false) = false := h
    rw [List.any_eq_false] at h1
    have h2 := h1 ⟨⟨0, true, true, 87, idV 0 13, decide (p.orig.l.length ≤ 20), decide (0 < p.orig.l.length)⟩, p.orig.l⟩ (by simp [tab])
    simp only [Row.bad, bad] at h2
    by_cases h0 : 0 < p.orig.l.length
    · exfalso
      apply h2
      simp [h0]
    · omega
  have hb : ∀ l : List UInt8, (bt l).data.toList = l := fun l => by simp [bt]
  have g0 : (refq p).put1 s 0 = RowB.put s ⟨⟨0, true, true, 87, idV 0 13, decide (p.orig.l.length ≤ 20), decide (0 < p.orig.l.length)⟩, p.orig.l⟩ := by
    cases s with
    | true => simp [Rq.put1, numsL, RowB.put, RowB.said, refq, hb]
    | false =>
      have := hs rfl
      simp [Rq.put1, numsL, RowB.put, RowB.said, this]
  have g2 : (refq p).put1 s 2 = RowB.put s ⟨⟨2, true, false, 91, resetV 0 17 33, p.hasReset || (p.reset == List.replicate 16 0), p.hasReset⟩, p.reset⟩ := by
    cases hr : p.hasReset <;> simp [Rq.put1, numsL, RowB.put, RowB.said, refq, hb, hr]
  have g12 : (refq p).put1 s 12 = RowB.put s ⟨⟨12, false, false, 93, flagV 0 10, true, p.still⟩, []⟩ := by
    cases hr : p.still <;> simp [Rq.put1, numsL, RowB.put, RowB.said, refq, hr]
  have g15 : (refq p).put1 s 15 = RowB.put s ⟨⟨15, false, true, 87, idV 0 14, decide (p.first.l.length ≤ 20), decide (0 < p.first.l.length)⟩, p.first.l⟩ := by
    simp [Rq.put1, numsL, RowB.put, RowB.said, refq, hb]
  have g16 : (refq p).put1 s 16 = RowB.put s ⟨⟨16, true, false, 95, optV 0 15 16, decide (p.again.l.length ≤ 20) && (p.hasAgain || !decide (0 < p.again.l.length)), p.hasAgain⟩, p.again.l⟩ := by
    cases hr : p.hasAgain <;> simp [Rq.put1, numsL, RowB.put, RowB.said, refq, hb, hr]
  have ge : ∀ k : Nat, (16 < k ∧ k ≠ 32) ∨ k = 13 → (refq p).put1 s k = [] := fun k hk => by
    by_cases h33 : k < 33
    · refine no_put _ s k ?_ (by omega)
      simp only [numsL, List.mem_cons, List.not_mem_nil, or_false]
      omega
    · refine no_put _ s k ?_ (by omega)
      simp only [numsL, List.mem_cons, List.not_mem_nil, or_false]
      omega
  exact (join17 ((refq p).put1 s) _ _ _ _ _ _ _ _ _ _ _ _ _ _ _ _ _ g0 (row1 p s) g2 (row3 p s) (row4 p s) (row5 p s) (row6 p s) (row7 p s) (row8 p s) (row9 p s) (row10 p s) (row11 p s) g12 (row14 p s) g15 g16 (row32 p s) ge).trans (flat17 (RowB.put s) _ _ _ _ _ _ _ _ _ _ _ _ _ _ _ _ _).symm
end Go.Proofs.YtcppnellgkbndaaDoor
