/- frame: what is laid is read: numbers, data, spans. -/
import Derived.Test.YtaeapgkfmofjlaaDoorMf
namespace Go.Proofs.YtaeapgkfmofjlaaDoor
open Go.ChangeShapes Go.WideShapes Go.ChangeAt Go.RowKit
set_option linter.unusedVariables false
set_option maxRecDepth 100000

theorem be_read (l post : List UInt8) (n q P X : Nat) (v : Int) (hq : n + 1 = 2 ^ q) (hP : 2 ^ (8 * (n + 1) - 2) = P) (hX : X / 256 ^ n % 256 / 64 = q) (hv : ((X % 256 ^ (n + 1) : Nat) : Int) % (P : Int) = v) :
    vV (l ++ (be (n + 1) X ++ post)) l.length = v ∧ vN (l ++ (be (n + 1) X ++ post)) l.length = l.length + (n + 1 : Nat) ∧ vE (l ++ (be (n + 1) X ++ post)) l.length = 0 := by
  have hb := be_length (n + 1) X
  have hlt : l.length < (l ++ (be (n + 1) X ++ post)).length := by simp only [List.length_append]; omega
  have hlt2 : l.length < (l ++ be (n + 1) X).length := by simp only [List.length_append]; omega
  have hh := head_be l n X hlt2
  have hg : (l ++ (be (n + 1) X ++ post))[l.length] = (l ++ be (n + 1) X)[l.length] := by
    simp only [← List.append_assoc]
    rw [List.getElem_append_left hlt2]
  have hw : wd (l ++ (be (n + 1) X ++ post)) l.length = n + 1 := by rw [wd_of (q := q) hlt (by rw [hg, hh]; exact hX), hq]
  obtain ⟨e1, e2, e3⟩ := v_yes P hP hlt hw (by simp only [List.length_append]; omega)
  refine ⟨?_, e2, e3⟩
  rw [e1]
  have hs : sub (l ++ (be (n + 1) X ++ post)) l.length (n + 1) = be (n + 1) X := by
    unfold sub
    rw [List.drop_left, List.take_append_of_le_length (by omega), List.take_of_length_le (by omega)]
  rw [hs, num_be]
  exact hv
theorem enc_read (l post : List UInt8) (v : Int) (h0 : 0 ≤ v) (h1 : v ≤ 4611686018427387903) :
    vV (l ++ (enc (szN v) v ++ post)) l.length = v ∧ vN (l ++ (enc (szN v) v ++ post)) l.length = l.length + ((enc (szN v) v).length : Nat) ∧ vE (l ++ (enc (szN v) v ++ post)) l.length = 0 := by
  rw [enc_length]
  unfold enc szN
  by_cases a1 : v < 64
  · rw [if_pos a1]
    exact be_read l post 0 0 64 _ v (by decide) (by decide) (by simp [mV, lim]; omega) (by simp [mV, lim]; omega)
  · rw [if_neg a1]
    by_cases a2 : v < 16384
    · rw [if_pos a2]
      exact be_read l post 1 1 16384 _ v (by decide) (by decide) (by simp [mV, lim]; omega) (by simp [mV, lim]; omega)
    · rw [if_neg a2]
      by_cases a3 : v < 1073741824
      · rw [if_pos a3]
        exact be_read l post 3 2 1073741824 _ v (by decide) (by decide) (by simp [mV, lim]; omega) (by simp [mV, lim]; omega)
      · rw [if_neg a3]
        exact be_read l post 7 3 4611686018427387904 _ v (by decide) (by decide) (by simp [mV, lim]; omega) (by simp [mV, lim]; omega)
/-- Y stands at place i of l. -/
def Hs (l : List UInt8) (i : Nat) (Y : List UInt8) : Prop := ∃ pre post, l = pre ++ (Y ++ post) ∧ pre.length = i
theorem Hs.left {l A B : List UInt8} {i : Nat} (h : Hs l i (A ++ B)) : Hs l i A := by
  obtain ⟨pre, post, h1, h2⟩ := h
  exact ⟨pre, B ++ post, by rw [h1, List.append_assoc], h2⟩
theorem Hs.right {l A B : List UInt8} {i : Nat} (h : Hs l i (A ++ B)) : Hs l (i + A.length) B := by
  obtain ⟨pre, post, h1, h2⟩ := h
  exact ⟨pre ++ A, post, by rw [h1]; simp only [List.append_assoc], by rw [List.length_append, h2]⟩
theorem Hs.le {l Y : List UInt8} {i : Nat} (h : Hs l i Y) : i + Y.length ≤ l.length := by
  obtain ⟨pre, post, h1, h2⟩ := h
  rw [h1]
  simp only [List.length_append]
  omega
theorem Hs.sub {l Y : List UInt8} {i : Nat} (h : Hs l i Y) : sub l i Y.length = Y := by
  obtain ⟨pre, post, h1, h2⟩ := h
  unfold Go.Proofs.YtaeapgkfmofjlaaDoor.sub
  rw [h1, ← h2, List.drop_left, List.take_append_of_le_length (Nat.le_refl _), List.take_of_length_le (Nat.le_refl _)]
theorem badv_ok {v : Int} (h : badv v = false) : 0 ≤ v ∧ v ≤ 4611686018427387903 ∧ encv v = enc (szN v) v := by
  unfold badv vaE at h
  have h' : ¬ (v < 0 ∨ 4611686018427387903 < v) := by
    intro h'
    rw [if_pos h'] at h
    simp at h
  refine ⟨by omega, by omega, ?_⟩
  unfold encv
  rw [if_pos (vaE_ok h')]
theorem v_en {l : List UInt8} {i : Nat} {v : Int} (h : Hs l i (encv v)) (hv : badv v = false) : vV l i = v ∧ vN l i = i + ((encv v).length : Nat) ∧ vE l i = 0 := by
  obtain ⟨h0, h1, h2⟩ := badv_ok hv
  rw [h2] at h ⊢
  obtain ⟨pre, post, rfl, rfl⟩ := h
  exact enc_read pre post v h0 h1
theorem xN_en {l : List UInt8} {i : Nat} {v : Int} (h : Hs l i (encv v)) (hv : badv v = false) : xN l (i, 0) = (v, (i + (encv v).length, 0)) := by
  obtain ⟨e1, e2, e3⟩ := v_en h hv
  unfold xN
  dsimp only
  rw [if_neg (by simp), if_pos e3, e1, e2]
  congr 2
theorem xT_en {l : List UInt8} {i : Nat} {Y : List UInt8} (h : Hs l i Y) : xT l (i, 0) Y.length = (Y, (i + Y.length, 0)) := by
  have := h.le
  rw [xT_yes l i Y.length (by omega), h.sub]
def puts : Fa → List Nat → List Int → Fa
  | x, j :: js, v :: vs => puts (x.put j v) js vs
  | x, _, _ => x
theorem encs_cons (v : Int) (vs : List Int) : encs (v :: vs) = encv v ++ encs vs := rfl
theorem bads_cons (v : Int) (vs : List Int) : bads (v :: vs) = (badv v || bads vs) := rfl
theorem yNs_en {l : List UInt8} : ∀ (js : List Nat) (vs : List Int) (x : Fa) (i : Nat), js.length = vs.length → Hs l i (encs vs) → bads vs = false → yNs l (x, (i, 0)) js = (puts x js vs, (i + (encs vs).length, 0))
  | [], [], x, i, _, _, _ => rfl
  | [], v :: vs, x, i, h, _, _ => by simp at h
  | j :: js, [], x, i, h, _, _ => by simp at h
  | j :: js, v :: vs, x, i, hn, h, hb => by
    rw [bads_cons, Bool.or_eq_false_iff] at hb
    rw [encs_cons] at h
    have e1 := xN_en h.left hb.1
    have ih := yNs_en js vs (x.put j v) (i + (encv v).length) (by simpa using hn) h.right hb.2
    show yNs l (x.put j (xN l (i, 0)).1, (xN l (i, 0)).2) js = _
    rw [e1]
    dsimp only
    rw [ih, encs_cons, List.length_append, Nat.add_assoc]
    rfl
theorem rB_ok {D : List UInt8} (h : bg D = false) : rB D = D ∧ D.length ≤ 1048576 := by
  have : ¬ 1048576 < D.length := by simpa [bg] using h
  exact ⟨if_pos (by omega), by omega⟩
theorem badv_nat {n : Nat} (h : n ≤ 1048576) : badv (n : Int) = false := by
  unfold badv vaE
  rw [decide_eq_false]
  simp
  omega
theorem yC_en {l : List UInt8} {i : Nat} {x : Fa} {D : List UInt8} (h : Hs l i (encv D.length ++ D)) (hD : D.length ≤ 1048576) : yC l (x, (i, 0)) = ({ x with D := D }, (i + (encv D.length).length + D.length, 0)) := by
  have e1 := xN_en h.left (badv_nat hD)
  unfold yC
  rw [e1]
  dsimp only
  rw [Int.toNat_natCast, xT_en h.right]
theorem yE_en {l : List UInt8} {i : Nat} {x : Fa} {D : List UInt8} (h : l.drop i = D) (hi : i ≤ l.length) : yE l (x, (i, 0)) = ({ x with D := D }, (i + D.length, 0)) := by
  have hl : D.length = l.length - i := by rw [← h, List.length_drop]
  have hh : Hs l i D := ⟨l.take i, [], by rw [List.append_nil, ← h, List.take_append_drop], by simp; omega⟩
  unfold yE
  dsimp only
  rw [← hl, xT_en hh]
theorem yI_en {l : List UInt8} {i : Nat} {x : Fa} {I : List UInt8} (h : Hs l i ([UInt8.ofNat I.length] ++ I)) (hI : I.length ≤ 20) : yI l (x, (i, 0)) = ({ x with I := I }, (i + 1 + I.length, 0)) := by
  have e1 := xT_en h.left
  have e2 := xT_en h.right
  rw [show ([UInt8.ofNat I.length] : List UInt8).length = 1 from rfl] at e1 e2
  unfold yI
  dsimp only
  rw [e1]
  dsimp only
  rw [show (([UInt8.ofNat I.length] : List UInt8).headD 0).toNat = I.length by simp; omega, e2]
theorem yR_en {l : List UInt8} {i : Nat} {x : Fa} {R : List UInt8} (h : Hs l i R) (hR : R.length = 16) : yR l (x, (i, 0)) = ({ x with R := R }, (i + 16, 0)) := by
  have e1 := xT_en h
  rw [hR] at e1
  unfold yR
  dsimp only
  rw [e1]
  dsimp only
  rw [if_pos hR]
theorem yP_en {l : List UInt8} {i : Nat} {x : Fa} {R : List UInt8} (h : Hs l i R) (hR : R.length = 8) : yP l (x, (i, 0)) = ({ x with T := R }, (i + 8, 0)) := by
  have e1 := xT_en h
  rw [hR] at e1
  unfold yP
  dsimp only
  rw [e1]
  dsimp only
  rw [if_pos hR]
/-- The numbers that stand for the spans behind one that begins at x. -/
def pr : Int → List (Int × Int) → List Int
  | _, [] => []
  | x, p :: t => (x - p.2 - 2) :: (p.2 - p.1) :: pr p.1 t
def lastF : Int → List (Int × Int) → Int
  | x, [] => x
  | _, p :: t => lastF p.1 t
theorem pr_snoc : ∀ (t : List (Int × Int)) (x : Int) (p : Int × Int), pr x (t ++ [p]) = pr x t ++ [lastF x t - p.2 - 2, p.2 - p.1]
  | [], _, _ => rfl
  | q :: t, x, p => by
    have := pr_snoc t q.1 p
    simp only [List.cons_append, pr, lastF, this]
theorem lastF_snoc : ∀ (t : List (Int × Int)) (x : Int) (p : Int × Int), lastF x (t ++ [p]) = p.1
  | [], _, _ => rfl
  | q :: t, x, p => lastF_snoc t q.1 p
theorem lastF_take (A0 : Int × Int) (T : List (Int × Int)) : ∀ j, j ≤ T.length → lastF A0.1 (T.take j) = ((A0 :: T).getD j (0, 0)).1
  | 0, _ => rfl
  | j + 1, h => by
    rw [List.take_add_one, List.getElem?_eq_getElem (by omega), Option.toList_some, lastF_snoc]
    simp [List.getD, show j < T.length by omega]
theorem pers_pr (A0 : Int × Int) (T : List (Int × Int)) : ∀ j, j ≤ T.length → pers (A0 :: T) (j + 1) = (A0.2 - A0.1) :: pr A0.1 (T.take j)
  | 0, _ => by simp [pers, per, pr]
  | j + 1, h => by
    rw [pers_succ, pers_pr A0 T j (by omega), List.take_add_one, List.getElem?_eq_getElem (by omega), Option.toList_some, pr_snoc, lastF_take A0 T j (by omega)]
    unfold per
    rw [if_neg (by omega)]
    simp only [Nat.add_sub_cancel, List.cons_append]
    simp [List.getD, show j < T.length by omega]
theorem xD_en {l : List UInt8} {p : Nat} {x k n : Int} (h : Hs l p (encv n)) (hb : badv n = false) (h0 : 0 ≤ x - n - k) : xD l (p, 0) x k = (x - n - k, (p + (encv n).length, 0)) := by
  unfold xD
  rw [xN_en h hb]
  dsimp only
  rw [if_neg (by omega)]
theorem sL_pr {l : List UInt8} : ∀ (T : List (Int × Int)) (x : Int) (p : Nat) (acc : List (Int × Int)), okS (x - 2) T = true → Hs l p (encs (pr x T)) → bads (pr x T) = false → sL l T.length x (p, 0) acc = (acc ++ T, (p + (encs (pr x T)).length, 0))
  | [], x, p, acc, _, _, _ => by simp [sL, pr, encs]
  | (a, b) :: t, x, p, acc, hk, h, hb => by
    obtain ⟨k1, k2, k3, k4⟩ := okS_cons hk
    simp only [pr] at h hb ⊢
    rw [bads_cons, bads_cons, Bool.or_eq_false_iff, Bool.or_eq_false_iff] at hb
    rw [encs_cons, encs_cons] at h
    have e1 := xD_en (x := x) (k := 2) h.left hb.1 (by omega)
    have e2 := xD_en (x := b) (k := 0) h.right.left hb.2.1 (by omega)
    rw [show x - (x - b - 2) - 2 = b by omega] at e1
    rw [show b - (b - a) - 0 = a by omega] at e2
    have ih := sL_pr t a (p + (encv (x - b - 2)).length + (encv (b - a)).length) (acc ++ [(a, b)]) k4 h.right.right hb.2.2
    rw [List.length_cons]
    unfold sL
    rw [e1]
    dsimp only
    rw [e2]
    dsimp only
    rw [if_neg (by simp), ih, encs_cons, encs_cons]
    simp only [List.append_assoc, List.length_append, List.singleton_append, Nat.add_assoc]
theorem yA_en {l : List UInt8} {i : Nat} {x : Fa} {A : List (Int × Int)} {del : Int} (hs : spB A = true) (h : Hs l i (encs (ackL A del))) (hb : bads (ackL A del) = false) : yA l (x, (i, 0)) = ({ x with del := del, A := A }, (i + (encs (ackL A del)).length, 0)) := by
  simp only [spB, Bool.and_eq_true, decide_eq_true_eq] at hs
  obtain ⟨⟨s1, s2⟩, s3⟩ := hs
  obtain ⟨A0, T, rfl⟩ : ∃ A0 T, A = A0 :: T := by
    cases A with
    | nil => simp at s1
    | cons a t => exact ⟨a, t, rfl⟩
  obtain ⟨a0, b0⟩ := A0
  obtain ⟨k1, k2, k3, k4⟩ := okS_cons s3
  have hT : (((a0, b0) :: T : List (Int × Int)).length : Int) - 1 = (T.length : Int) := by simp
  have hL : ackL ((a0, b0) :: T) del = b0 :: del :: (T.length : Int) :: (b0 - a0) :: pr a0 T := by
    unfold ackL
    rw [hT, show ((a0, b0) :: T : List (Int × Int)).length = T.length + 1 from rfl, pers_pr (a0, b0) T T.length (Nat.le_refl _), List.take_length]
    rfl
  rw [hL] at h hb ⊢
  simp only [bads_cons, Bool.or_eq_false_iff] at hb
  simp only [encs_cons] at h ⊢
  obtain ⟨c1, c2, c3, c4, c5⟩ := hb
  have e1 := xN_en h.left c1
  have e2 := xN_en h.right.left c2
  have e3 := xN_en h.right.right.left c3
  have e4 := xD_en (x := b0) (k := 0) h.right.right.right.left c4 (by omega)
  rw [show b0 - (b0 - a0) - 0 = a0 by omega] at e4
  have e5 := sL_pr T a0 _ [(a0, b0)] k4 h.right.right.right.right c5
  unfold yA yA3 xS
  dsimp only
  rw [e1]
  dsimp only
  rw [e2]
  dsimp only
  rw [e3]
  dsimp only
  rw [if_neg (by simp at s2; omega), Int.toNat_natCast, e4]
  dsimp only
  rw [e5]
  simp only [List.length_append, List.singleton_append, Nat.add_assoc]
end Go.Proofs.YtaeapgkfmofjlaaDoor
