/- params: Read on lists, of what was put: numbers, pieces, all. params: pieces in any order: what they leave. params: what was put is read. params: what is read can be put. params: Put and Read as a law meets them. -/
import Derived.Test.YtcppnellgkbndaaDoorOh
namespace Go.Proofs.YtcppnellgkbndaaDoor
open Go.ChangeShapes Go.WideShapes Go.ChangeAt Go.RowKit
set_option linter.unusedVariables false
set_option maxRecDepth 100000

theorem be_read (l post : List UInt8) (n q P X : Nat) (v : Int) (hq : n + 1 = 2 ^ q) (hP : 2 ^ (8 * (n + 1) - 2) = P) (hX : X / 256 ^ n % 256 / 64 = q) (hv : ((X % 256 ^ (n + 1) : Nat) : Int) % (P : Int) = v) :
    vV (l ++ (be (n + 1) X ++ post)) l.length = v ∧ vN (l ++ (be (n + 1) X ++ post)) l.length = l.length + (n + 1 : Nat) ∧ vE (l ++ (be (n + 1) X ++ post)) l.length = 0 := by
  have hb := be_length (n + 1) X
  have hlt : l.length < (l ++ (be (n + 1) X ++ post)).length := by simp only [List.length_append]; omega
  have hlt2 : l.length < (l ++ be (n + 1) X).length := by simp only [List.length_append]; omega
  have hh := head_be l n X hlt2
  have hg : (l ++ (be (n + 1) X ++ post))[l.length] = (l ++ be (n + 1) X)[l.length] := by
    simp only [← List.append_assoc]
    rw [List.getElem_append_left hlt2]
  have hw : wd (l ++ (be (n + 1) X ++ post)) l.length = n + 1 := by rw [wd_of (q := q) hlt (by rw [hg, hh]; exact hX), hq]
  obtain ⟨e1, e2, e3⟩ := v_yes P hP hlt hw (by simp only [List.length_append]; omega)
  refine ⟨?_, e2, e3⟩
  rw [e1]
  have hs : sub (l ++ (be (n + 1) X ++ post)) l.length (n + 1) = be (n + 1) X := by
    unfold sub
    rw [List.drop_left, List.take_append_of_le_length (by omega), List.take_of_length_le (by omega)]
  rw [hs, num_be]
  exact hv
theorem enc_read (l post : List UInt8) (v : Int) (h0 : 0 ≤ v) (h1 : v ≤ 4611686018427387903) :
    vV (l ++ (enc (szN v) v ++ post)) l.length = v ∧ vN (l ++ (enc (szN v) v ++ post)) l.length = l.length + ((enc (szN v) v).length : Nat) ∧ vE (l ++ (enc (szN v) v ++ post)) l.length = 0 := by
  rw [enc_length]
  unfold enc szN
  by_cases a1 : v < 64
  · rw [if_pos a1]
    exact be_read l post 0 0 64 _ v (by decide) (by decide) (by simp [mV, lim]; omega) (by simp [mV, lim]; omega)
  · rw [if_neg a1]
    by_cases a2 : v < 16384
    · rw [if_pos a2]
      exact be_read l post 1 1 16384 _ v (by decide) (by decide) (by simp [mV, lim]; omega) (by simp [mV, lim]; omega)
    · rw [if_neg a2]
      by_cases a3 : v < 1073741824
      · rw [if_pos a3]
        exact be_read l post 3 2 1073741824 _ v (by decide) (by decide) (by simp [mV, lim]; omega) (by simp [mV, lim]; omega)
      · rw [if_neg a3]
        exact be_read l post 7 3 4611686018427387904 _ v (by decide) (by decide) (by simp [mV, lim]; omega) (by simp [mV, lim]; omega)
/-- One piece. -/
theorem lay_read (l post x : List UInt8) (k : Int) (h0 : 0 ≤ k) (h1 : k ≤ 4611686018427387903) (hx : x.length ≤ 1000) :
    ∃ a1 a2 : Nat, l.length < a1 ∧ a1 < a2 ∧ a2 + x.length = (l ++ layB k x).length ∧ vE (l ++ (layB k x ++ post)) l.length = 0 ∧ vV (l ++ (layB k x ++ post)) l.length = k ∧ vN (l ++ (layB k x ++ post)) l.length = a1 ∧
      vE (l ++ (layB k x ++ post)) (a1 : Int) = 0 ∧ vV (l ++ (layB k x ++ post)) (a1 : Int) = x.length ∧ vN (l ++ (layB k x ++ post)) (a1 : Int) = a2 ∧ sub (l ++ (layB k x ++ post)) a2 x.length = x := by
  have e : l ++ (layB k x ++ post) = l ++ (enc (szN k) k ++ (enc (szN x.length) x.length ++ (x ++ post))) := by simp [layB]
  have e' : l ++ (layB k x ++ post) = (l ++ enc (szN k) k) ++ (enc (szN x.length) x.length ++ (x ++ post)) := by simp [layB]
  have e'' : l ++ (layB k x ++ post) = (l ++ enc (szN k) k ++ enc (szN x.length) x.length) ++ (x ++ post) := by simp [layB]
  obtain ⟨q1, q2, q3⟩ := enc_read l (enc (szN x.length) x.length ++ (x ++ post)) k h0 h1
  obtain ⟨r1, r2, r3⟩ := enc_read (l ++ enc (szN k) k) (x ++ post) x.length (by omega) (by omega)
  have p1 : 0 < (enc (szN k) k).length := by rw [enc_length]; unfold szN; split <;> (try split) <;> (try split) <;> decide
  have p2 : 0 < (enc (szN (x.length : Int)) x.length).length := by rw [enc_length]; unfold szN; split <;> (try split) <;> (try split) <;> decide
  refine ⟨(l ++ enc (szN k) k).length, (l ++ enc (szN k) k ++ enc (szN x.length) x.length).length, by rw [List.length_append]; omega, by simp only [List.length_append] at *; omega, by simp [layB]; omega, by rw [e]; exact q3, by rw [e]; exact q1, by rw [e, q2, List.length_append]; omega, by rw [e']; exact r3, by rw [e']; exact r1, by rw [e', r2, show (l ++ enc (szN k) k ++ enc (szN (x.length : Int)) x.length).length = (l ++ enc (szN k) k).length + (enc (szN (x.length : Int)) x.length).length from List.length_append]; omega, ?_⟩
  rw [e'']
  unfold sub
  rw [List.drop_left, List.take_append_of_le_length (Nat.le_refl _), List.take_of_length_le (Nat.le_refl _)]
/-- What of pieces is read. -/
def rdP (s : Bool) : List (Int × List UInt8) → (Int → Bool) → Rq → Int × Rq
  | [], S, q => if S 15 && (!s || S 0) then (0, q) else (11, rqE)
  | x :: t, S, q =>
    if S x.1 = true then (13, rqE)
    else match (if x.1 ≤ 32 then rtk s q x.1 x.2 else some q) with
      | none => (11, rqE)
      | some q' => rdP s t (fun y => y == x.1 || S y) q'
/-- Pieces, one behind the other. -/
def enP (L : List (Int × List UInt8)) : List UInt8 := L.flatMap fun x => layB x.1 x.2
theorem rd_en (s : Bool) : ∀ (L : List (Int × List UInt8)) (l : List UInt8) (f : Nat) (S : Int → Bool) (q : Rq), (∀ x ∈ L, 0 ≤ x.1 ∧ x.1 ≤ 4611686018427387903 ∧ x.2.length ≤ 1000) → (enP L).length < f → rdL (l ++ enP L) s f l.length S q = rdP s L S q
  | [], l, f, S, q, _, hf => by
    obtain ⟨f, rfl⟩ : ∃ f', f = f' + 1 := ⟨f - 1, by omega⟩
    rw [rdL_end (by simp [enP])]
    rfl
  | (k, x) :: L, l, f, S, q, h, hf => by
    obtain ⟨f, rfl⟩ : ∃ f', f = f' + 1 := ⟨f - 1, by omega⟩
    obtain ⟨h0, h1, h2⟩ := h (k, x) (by simp)
    have e : enP ((k, x) :: L) = layB k x ++ enP L := by simp [enP]
    rw [e] at hf ⊢
    obtain ⟨a1, a2, b1, b2, b3, c1, c2, c3, c4, c5, c6, c7⟩ := lay_read l (enP L) x k h0 h1 h2
    have hl2 : (l ++ (layB k x ++ enP L)).length = (l ++ layB k x).length + (enP L).length := by simp only [List.length_append]; omega
    have hno : ¬ (vE (l ++ (layB k x ++ enP L)) l.length ≠ 0 ∨ vE (l ++ (layB k x ++ enP L)) (vN (l ++ (layB k x ++ enP L)) l.length) ≠ 0 ∨ ((l ++ (layB k x ++ enP L)).length : Int) - vN (l ++ (layB k x ++ enP L)) (vN (l ++ (layB k x ++ enP L)) l.length) < vV (l ++ (layB k x ++ enP L)) (vN (l ++ (layB k x ++ enP L)) l.length)) := by
      rw [c3, c4, c5, c6, c1]
      omega
    have hlt : (l.length : Int) < (l ++ (layB k x ++ enP L)).length := by omega
    unfold rdP
    simp only
    cases hS : S k with
    | true =>
      rw [if_pos rfl]
      exact rdL_13 hlt hno (by rw [c2]; exact hS)
    | false =>
      rw [if_neg (by decide)]
      have hY : sub (l ++ (layB k x ++ enP L)) (vN (l ++ (layB k x ++ enP L)) (vN (l ++ (layB k x ++ enP L)) l.length)).toNat (vV (l ++ (layB k x ++ enP L)) (vN (l ++ (layB k x ++ enP L)) l.length)).toNat = x := by
        rw [c3, c5, c6]
        exact c7
      cases hr : (if k ≤ 32 then rtk s q k x else some q) with
      | none =>
        have hk : k ≤ 32 := by
          by_cases hk : k ≤ 32
          · exact hk
          · rw [if_neg hk] at hr; cases hr
        rw [if_pos hk] at hr
        exact rdL_11 hlt hno (by rw [c2]; exact hS) (by rw [c2]; exact hk) (by rw [hY, c2]; exact hr)
      | some q' =>
        have hh := rdL_on (s := s) (f := f) (S := S) (q := q) (q' := q') hlt hno (by rw [c2]; exact hS) (by rw [hY, c2]; exact hr)
        rw [hh, c3, c5, c6, c2]
        have hp : (a2 : Int) + x.length = ((l ++ layB k x).length : Nat) := by omega
        rw [hp, show l ++ (layB k x ++ enP L) = (l ++ layB k x) ++ enP L by simp]
        exact rd_en s L (l ++ layB k x) f _ q' (fun y hy => h y (List.mem_cons_of_mem _ hy)) (by
          have : 0 < (layB k x).length := by have := b3; rw [List.length_append] at this; omega
          rw [List.length_append] at hf
          omega)
end Go.Proofs.YtcppnellgkbndaaDoor
namespace Go.Proofs.YtcppnellgkbndaaDoor
open Go.ChangeShapes Go.WideShapes Go.ChangeAt Go.RowKit
set_option linter.unusedVariables false
set_option maxRecDepth 100000

def isN (k : Nat) : Bool := decide ((k : Int) ∈ numsL) || decide (k = 12)
def isT (k : Nat) : Bool := decide (k = 0) || decide (k = 2) || decide (k = 15) || decide (k = 16)
/-- p's parameters where K says so, q's elsewhere. -/
def mix (K : Int → Bool) (p q : Rq) : Rq where
  N := fun k => if K k && isN k then p.N k else q.N k
  T := fun k => if K k && isT k then p.T k else q.T k
  ha := if K 16 then p.ha else q.ha
  hr := if K 2 then p.hr else q.hr
theorem mix_mix (A B : Int → Bool) (p q : Rq) : mix A p (mix B p q) = mix (fun y => A y || B y) p q := by
  refine rq_ext (fun k => ?_) (fun k => ?_) ?_ ?_
  · show (if A k && isN k then p.N k else if B k && isN k then p.N k else q.N k) = if (A k || B k) && isN k then p.N k else q.N k
    cases A k <;> cases B k <;> cases isN k <;> rfl
  · show (if A k && isT k then p.T k else if B k && isT k then p.T k else q.T k) = if (A k || B k) && isT k then p.T k else q.T k
    cases A k <;> cases B k <;> cases isT k <;> rfl
  · show (if A 16 then p.ha else if B 16 then p.ha else q.ha) = if A 16 || B 16 then p.ha else q.ha
    cases A 16 <;> cases B 16 <;> rfl
  · show (if A 2 then p.hr else if B 2 then p.hr else q.hr) = if A 2 || B 2 then p.hr else q.hr
    cases A 2 <;> cases B 2 <;> rfl
theorem mix_none (p q : Rq) : mix (fun _ => false) p q = q := rq_ext (fun _ => rfl) (fun _ => rfl) rfl rfl
/-- A piece that tells p's own. -/
def Good (s : Bool) (p : Rq) (x : Int × List UInt8) : Prop := ∀ q, (if x.1 ≤ 32 then rtk s q x.1 x.2 else some q) = some (mix (fun y => y == x.1) p q)
theorem rd_good (s : Bool) (p : Rq) : ∀ (L : List (Int × List UInt8)) (S : Int → Bool) (q : Rq), (∀ x ∈ L, Good s p x) → (L.map (·.1)).Nodup → (∀ x ∈ L, S x.1 = false) →
    rdP s L S q = if (decide ((15 : Int) ∈ L.map (·.1)) || S 15) && (!s || (decide ((0 : Int) ∈ L.map (·.1)) || S 0)) then (0, mix (fun y => decide (y ∈ L.map (·.1))) p q) else (11, rqE)
  | [], S, q, _, _, _ => by
    show (if S 15 && (!s || S 0) then (0, q) else (11, rqE)) = _
    have : mix (fun y => decide (y ∈ ([] : List (Int × List UInt8)).map (·.1))) p q = q := by
      have e : (fun y : Int => decide (y ∈ ([] : List (Int × List UInt8)).map (·.1))) = fun _ => false := by funext y; simp
      rw [e, mix_none]
    rw [this]
    simp
  | x :: t, S, q, hg, hn, hs => by
    have hx := hs x (by simp)
    have hg' := hg x (by simp) q
    rw [List.map_cons, List.nodup_cons] at hn
    unfold rdP
    rw [if_neg (by rw [hx]; decide), hg']
    show rdP s t (fun y => y == x.1 || S y) (mix (fun y => y == x.1) p q) = _
    rw [rd_good s p t _ _ (fun y hy => hg y (List.mem_cons_of_mem _ hy)) hn.2 (fun y hy => by
      rw [hs y (List.mem_cons_of_mem _ hy), Bool.or_false]
      have : y.1 ≠ x.1 := fun e => hn.1 (by rw [← e]; exact List.mem_map.2 ⟨y, hy, rfl⟩)
      simpa using this), mix_mix]
    have hK : (fun y : Int => decide (y ∈ t.map (·.1)) || (y == x.1)) = fun y => decide (y ∈ (x :: t).map (·.1)) := by
      funext y
      rw [Bool.eq_iff_iff]
      simp only [Bool.or_eq_true, decide_eq_true_eq, beq_iff_eq, List.map_cons, List.mem_cons]
      exact Or.comm
    have hA : ∀ y : Int, (decide (y ∈ t.map (·.1)) || ((y == x.1) || S y)) = (decide (y ∈ (x :: t).map (·.1)) || S y) := fun y => by
      rw [← Bool.or_assoc]
      exact congrArg (· || S y) (congrFun hK y)
    rw [hK, hA 15, hA 0]
/-- What is the same of both under the number y. -/
def Same (p d : Rq) (y : Int) : Prop := (∀ k : Nat, (k : Int) = y → isN k = true → p.N k = d.N k) ∧ (∀ k : Nat, (k : Int) = y → isT k = true → p.T k = d.T k) ∧ (y = 16 → p.ha = d.ha) ∧ (y = 2 → p.hr = d.hr)
theorem mix_same {K K' : Int → Bool} {p d : Rq} (h1 : ∀ y, K y = true → K' y = true) (h2 : ∀ y, K' y = true → K y = false → Same p d y) : mix K p d = mix K' p d := by
  refine rq_ext (fun k => ?_) (fun k => ?_) ?_ ?_
  · show (if K k && isN k then p.N k else d.N k) = if K' k && isN k then p.N k else d.N k
    cases hk : K k with
    | true => rw [h1 _ hk]
    | false =>
      cases hk' : K' k with
      | false => rfl
      | true =>
        cases hi : isN k with
        | false => rfl
        | true => exact ((h2 _ hk' hk).1 k rfl hi).symm
  · show (if K k && isT k then p.T k else d.T k) = if K' k && isT k then p.T k else d.T k
    cases hk : K k with
    | true => rw [h1 _ hk]
    | false =>
      cases hk' : K' k with
      | false => rfl
      | true =>
        cases hi : isT k with
        | false => rfl
        | true => exact ((h2 _ hk' hk).2.1 k rfl hi).symm
  · show (if K 16 then p.ha else d.ha) = if K' 16 then p.ha else d.ha
    cases hk : K 16 with
    | true => rw [h1 _ hk]
    | false =>
      cases hk' : K' 16 with
      | false => rfl
      | true => exact ((h2 _ hk' hk).2.2.1 rfl).symm
  · show (if K 2 then p.hr else d.hr) = if K' 2 then p.hr else d.hr
    cases hk : K 2 with
    | true => rw [h1 _ hk]
    | false =>
      cases hk' : K' 2 with
      | false => rfl
      | true => exact ((h2 _ hk' hk).2.2.2 rfl).symm
/-- A number's own piece. -/
theorem enc_own {v : Int} (h0 : 0 ≤ v) (h1 : v ≤ 4611686018427387903) : vV (enc (szN v) v) 0 = v ∧ vN (enc (szN v) v) 0 = ((enc (szN v) v).length : Nat) ∧ vE (enc (szN v) v) 0 = 0 := by
  have h := enc_read [] [] v h0 h1
  simp only [List.nil_append, List.append_nil, List.length_nil] at h
  refine ⟨h.1, ?_, h.2.2⟩
  rw [show (0 : Int) = ((0 : Nat) : Int) from rfl, h.2.1]
  omega
theorem nums_T : ∀ n ∈ numsL, isT n.toNat = false ∧ isN n.toNat = true ∧ 0 ≤ n ∧ n ≤ 32 ∧ n ≠ 16 ∧ n ≠ 2 := by decide
theorem good_num (s : Bool) (p : Rq) (n v : Int) (hn : n ∈ numsL) (hv : p.N n.toNat = v) (h0 : 0 ≤ v) (h1 : v ≤ 4611686018427387903) (hm : mayR n v = true) : Good s p (n, enc (szN v) v) := by
  intro q
  obtain ⟨a1, a2, a3, a4, a5, a6⟩ := nums_T n hn
  obtain ⟨e1, e2, e3⟩ := enc_own h0 h1
  show (if n ≤ 32 then rtk s q n (enc (szN v) v) else some q) = _
  rw [if_pos a4, rtk_num2 hn ⟨e3, e2, by rw [e1]; exact hm⟩, e1]
  refine congrArg some (rq_ext (fun k => ?_) (fun k => ?_) ?_ ?_)
  · show (if k = n.toNat then v else q.N k) = if ((k : Int) == n) && isN k then p.N k else q.N k
    by_cases hk : k = n.toNat
    · subst hk
      have : ((n.toNat : Int) == n) = true := by simp; omega
      rw [if_pos rfl, this, a2, hv]
      rfl
    · have : ((k : Int) == n) = false := by simp; omega
      rw [if_neg hk, this]
      rfl
  · show q.T k = if ((k : Int) == n) && isT k then p.T k else q.T k
    by_cases hk : k = n.toNat
    · subst hk
      rw [a1, Bool.and_false]
      rfl
    · have : ((k : Int) == n) = false := by simp; omega
      rw [this]
      rfl
  · show q.ha = if ((16 : Int) == n) then p.ha else q.ha
    have : ((16 : Int) == n) = false := by simp; omega
    rw [this]
    rfl
  · show q.hr = if ((2 : Int) == n) then p.hr else q.hr
    have : ((2 : Int) == n) = false := by simp; omega
    rw [this]
    rfl
end Go.Proofs.YtcppnellgkbndaaDoor
namespace Go.Proofs.YtcppnellgkbndaaDoor
open Go.ChangeShapes Go.WideShapes Go.ChangeAt Go.RowKit
set_option linter.unusedVariables false
set_option maxRecDepth 100000

theorem setN_mix (q p : Rq) (n : Nat) (hi : isN n = true) (ht : isT n = false) (h : (16 : Int) ≠ n ∧ (2 : Int) ≠ n) : q.setN n (p.N n) = mix (fun y => y == (n : Int)) p q := by
  refine rq_ext (fun k => ?_) (fun k => ?_) ?_ ?_
  · show (if k = n then p.N n else q.N k) = if ((k : Int) == n) && isN k then p.N k else q.N k
    by_cases hk : k = n
    · subst hk
      rw [if_pos rfl, hi]
      simp
    · have : ((k : Int) == (n : Int)) = false := by simp; omega
      rw [if_neg hk, this]
      rfl
  · show q.T k = if ((k : Int) == n) && isT k then p.T k else q.T k
    by_cases hk : k = n
    · subst hk
      rw [ht, Bool.and_false]
      rfl
    · have : ((k : Int) == (n : Int)) = false := by simp; omega
      rw [this]
      rfl
  · show q.ha = if ((16 : Int) == n) then p.ha else q.ha
    have : ((16 : Int) == (n : Int)) = false := by simpa using h.1
    rw [this]
    rfl
  · show q.hr = if ((2 : Int) == n) then p.hr else q.hr
    have : ((2 : Int) == (n : Int)) = false := by simpa using h.2
    rw [this]
    rfl
theorem setT_mix (q p : Rq) (n : Nat) (A H : Bool) (hi : isN n = false) (ht : isT n = true) (hA : A = if (16 : Int) == n then p.ha else q.ha) (hH : H = if (2 : Int) == n then p.hr else q.hr) : ({ q.setT n (p.T n) with ha := A, hr := H } : Rq) = mix (fun y => y == (n : Int)) p q := by
  refine rq_ext (fun k => ?_) (fun k => ?_) hA hH
  · show q.N k = if ((k : Int) == n) && isN k then p.N k else q.N k
    by_cases hk : k = n
    · subst hk
      rw [hi, Bool.and_false]
      rfl
    · have : ((k : Int) == (n : Int)) = false := by simp; omega
      rw [this]
      rfl
  · show (if k = n then p.T n else q.T k) = if ((k : Int) == n) && isT k then p.T k else q.T k
    by_cases hk : k = n
    · subst hk
      rw [if_pos rfl, ht]
      simp
    · have : ((k : Int) == (n : Int)) = false := by simp; omega
      rw [if_neg hk, this]
      rfl
theorem tab_sv {P : Nat} {p : Ps} {s : Bool} (h : p.bad s = false) : ∀ x ∈ tab P p, (!(s || !x.r.sv) && x.r.th) = false := by
  intro x hx
  have h1 : ((tab P p).map (·.r)).any (Row.bad s) = false := h
  rw [List.any_eq_false] at h1
  have h2 := h1 x.r (List.mem_map.2 ⟨x, hx, rfl⟩)
  unfold Row.bad bad at h2
  cases hc : (!(s || !x.r.sv) && x.r.th) with
  | false => rfl
  | true => rw [hc, Bool.or_true] at h2; exact absurd rfl h2
theorem good_row {p : Ps} {s : Bool} (h16 : p.reset.length = 16) (hb : p.bad s = false) : ∀ x ∈ tab 0 p, x.said s = true → Good s (refq p) (x.r.n, x.bs) ∧ x.bs.length ≤ 1000 := by
  intro x hx hs
  have ha := tab_al hb x hx
  have hv := tab_sv hb x hx
  simp only [tab, List.mem_cons, List.not_mem_nil, or_false] at hx
  rcases hx with rfl | rfl | rfl | rfl | rfl | rfl | rfl | rfl | rfl | rfl | rfl | rfl | rfl | rfl | rfl | rfl | rfl
  · have hl := of_decide_eq_true ha
    have hst : s = true := by
      cases s
      · have hh : 0 < p.orig.l.length := by simpa [RowB.said] using hs
        have hv' : ¬ 0 < p.orig.l.length := by simpa using hv
        exact absurd hh hv'
      · rfl
    subst hst
    refine ⟨fun q => ?_, by show p.orig.l.length ≤ 1000; omega⟩
    show (if (0 : Int) ≤ 32 then rtk true q 0 p.orig.l else some q) = _
    rw [if_pos (by decide), rtk0y hl]
    exact congrArg some (setT_mix q (refq p) 0 q.ha q.hr (by decide) (by decide) rfl rfl)
  · have hb' := of_decide_eq_true ha
    exact ⟨good_num s (refq p) 1 p.idle (by decide) rfl (by omega) (by omega) (by rw [may1]; exact ha), Nat.le_trans (enc_le _) (by decide)⟩
  · have hr : p.hasReset = true := by simpa [RowB.said] using hs
    have hst : s = true := by
      cases s
      · rw [hr] at hv; cases hv
      · rfl
    subst hst
    refine ⟨fun q => ?_, by show p.reset.length ≤ 1000; omega⟩
    show (if (2 : Int) ≤ 32 then rtk true q 2 p.reset else some q) = _
    rw [if_pos (by decide), rtk2y h16]
    exact congrArg some (setT_mix q (refq p) 2 q.ha true (by decide) (by decide) rfl hr.symm)
  · have hb' := of_decide_eq_true ha
    exact ⟨good_num s (refq p) 3 p.payload (by decide) rfl (by omega) (by omega) (by rw [may3]; exact ha), Nat.le_trans (enc_le _) (by decide)⟩
  · have hb' := of_decide_eq_true ha
    exact ⟨good_num s (refq p) 4 p.data (by decide) rfl (by omega) (by omega) (by rw [may4]; exact ha), Nat.le_trans (enc_le _) (by decide)⟩
  · have hb' := of_decide_eq_true ha
    exact ⟨good_num s (refq p) 5 p.bl (by decide) rfl (by omega) (by omega) (by rw [may5]; exact ha), Nat.le_trans (enc_le _) (by decide)⟩
  · have hb' := of_decide_eq_true ha
    exact ⟨good_num s (refq p) 6 p.br (by decide) rfl (by omega) (by omega) (by rw [may6]; exact ha), Nat.le_trans (enc_le _) (by decide)⟩
  · have hb' := of_decide_eq_true ha
    exact ⟨good_num s (refq p) 7 p.un (by decide) rfl (by omega) (by omega) (by rw [may7]; exact ha), Nat.le_trans (enc_le _) (by decide)⟩
  · have hb' := of_decide_eq_true ha
    exact ⟨good_num s (refq p) 8 p.sb (by decide) rfl (by omega) (by omega) (by rw [may8]; exact ha), Nat.le_trans (enc_le _) (by decide)⟩
  · have hb' := of_decide_eq_true ha
    exact ⟨good_num s (refq p) 9 p.su (by decide) rfl (by omega) (by omega) (by rw [may9]; exact ha), Nat.le_trans (enc_le _) (by decide)⟩
  · have hb' := of_decide_eq_true ha
    exact ⟨good_num s (refq p) 10 p.ex (by decide) rfl (by omega) (by omega) (by rw [may10]; exact ha), Nat.le_trans (enc_le _) (by decide)⟩
  · have hb' := of_decide_eq_true ha
    exact ⟨good_num s (refq p) 11 p.de (by decide) rfl (by omega) (by omega) (by rw [may11]; exact ha), Nat.le_trans (enc_le _) (by decide)⟩
  · have hst : p.still = true := by simpa [RowB.said] using hs
    refine ⟨fun q => ?_, Nat.zero_le _⟩
    show (if (12 : Int) ≤ 32 then rtk s q 12 [] else some q) = _
    rw [if_pos (by decide), rtk12y rfl, ← show (refq p).N 12 = 1 by show (if p.still then (1 : Int) else 0) = 1; rw [hst]; rfl]
    exact congrArg some (setN_mix q (refq p) 12 (by decide) (by decide) (by decide))
  · have hb' := of_decide_eq_true ha
    exact ⟨good_num s (refq p) 14 p.ids (by decide) rfl (by omega) (by omega) (by rw [may14]; exact ha), Nat.le_trans (enc_le _) (by decide)⟩
  · have hl := of_decide_eq_true ha
    refine ⟨fun q => ?_, by show p.first.l.length ≤ 1000; omega⟩
    show (if (15 : Int) ≤ 32 then rtk s q 15 p.first.l else some q) = _
    rw [if_pos (by decide), rtk15y hl]
    exact congrArg some (setT_mix q (refq p) 15 q.ha q.hr (by decide) (by decide) rfl rfl)
  · have hg : p.hasAgain = true := by simpa [RowB.said] using hs
    have hst : s = true := by
      cases s
      · rw [hg] at hv; cases hv
      · rfl
    subst hst
    have hl : p.again.l.length ≤ 20 := by simp only [Bool.and_eq_true, decide_eq_true_eq] at ha; exact ha.1
    refine ⟨fun q => ?_, by show p.again.l.length ≤ 1000; omega⟩
    show (if (16 : Int) ≤ 32 then rtk true q 16 p.again.l else some q) = _
    rw [if_pos (by decide), rtk16y hl]
    exact congrArg some (setT_mix q (refq p) 16 true q.hr (by decide) (by decide) hg.symm rfl)
  · have hb' := of_decide_eq_true ha
    exact ⟨good_num s (refq p) 32 p.dg (by decide) rfl (by omega) (by omega) (by rw [may32]; exact ha), Nat.le_trans (enc_le _) (by decide)⟩
theorem same_num {p d : Rq} {n : Int} (hn : n ∈ numsL) (h : p.N n.toNat = d.N n.toNat) : Same p d n := by
  obtain ⟨a1, a2, a3, a4, a5, a6⟩ := nums_T n hn
  refine ⟨fun k hk _ => ?_, fun k hk ht => ?_, fun h => absurd h a5, fun h => absurd h a6⟩
  · have : k = n.toNat := by omega
    subst this
    exact h
  · have : k = n.toNat := by omega
    subst this
    rw [a1] at ht
    cases ht
theorem same_text {p d : Rq} (n : Nat) (hn : isN n = false) (h : p.T n = d.T n) (h1 : n = 16 → p.ha = d.ha) (h2 : n = 2 → p.hr = d.hr) : Same p d (n : Int) := by
  refine ⟨fun k hk hi => ?_, fun k hk _ => ?_, fun h => h1 (by omega), fun h => h2 (by omega)⟩
  · have : k = n := by omega
    subst this
    rw [hn] at hi
    cases hi
  · have : k = n := by omega
    subst this
    exact h
theorem same_row {p : Ps} {s : Bool} (h16 : p.reset.length = 16) (hb : p.bad s = false) : ∀ x ∈ tab 0 p, x.said s = false → Same (refq p) (refq dps) x.r.n := by
  intro x hx hs
  have ha := tab_al hb x hx
  simp only [tab, List.mem_cons, List.not_mem_nil, or_false] at hx
  rcases hx with rfl | rfl | rfl | rfl | rfl | rfl | rfl | rfl | rfl | rfl | rfl | rfl | rfl | rfl | rfl | rfl | rfl
  · have hz : p.orig.l.length = 0 := by simp [RowB.said] at hs; simp [hs.1]
    exact same_text 0 (by decide) (by show bt p.orig.l = bt []; rw [List.length_eq_zero_iff.1 hz]) (fun h => absurd h (by decide)) (fun h => absurd h (by decide))
  · have hz : p.idle = 0 := by simpa [RowB.said] using hs
    exact same_num (n := 1) (by decide) (show p.idle = 0 from hz)
  · have hz : p.hasReset = false := by simpa [RowB.said] using hs
    have hr : p.reset = List.replicate 16 0 := by simp only [hz, Bool.false_or] at ha; simpa using ha
    exact same_text 2 (by decide) (by show bt p.reset = bt (List.replicate 16 0); rw [hr]) (fun h => absurd h (by decide)) (fun _ => hz)
  · have hz : p.payload = 65527 := by simpa [RowB.said] using hs
    exact same_num (n := 3) (by decide) (show p.payload = 65527 from hz)
  · have hz : p.data = 0 := by simpa [RowB.said] using hs
    exact same_num (n := 4) (by decide) (show p.data = 0 from hz)
  · have hz : p.bl = 0 := by simpa [RowB.said] using hs
    exact same_num (n := 5) (by decide) (show p.bl = 0 from hz)
  · have hz : p.br = 0 := by simpa [RowB.said] using hs
    exact same_num (n := 6) (by decide) (show p.br = 0 from hz)
  · have hz : p.un = 0 := by simpa [RowB.said] using hs
    exact same_num (n := 7) (by decide) (show p.un = 0 from hz)
  · have hz : p.sb = 0 := by simpa [RowB.said] using hs
    exact same_num (n := 8) (by decide) (show p.sb = 0 from hz)
  · have hz : p.su = 0 := by simpa [RowB.said] using hs
    exact same_num (n := 9) (by decide) (show p.su = 0 from hz)
  · have hz : p.ex = 3 := by simpa [RowB.said] using hs
    exact same_num (n := 10) (by decide) (show p.ex = 3 from hz)
  · have hz : p.de = 25 := by simpa [RowB.said] using hs
    exact same_num (n := 11) (by decide) (show p.de = 25 from hz)
  · have hz : p.still = false := by simpa [RowB.said] using hs
    refine ⟨fun k hk _ => ?_, fun k hk ht => ?_, fun h => absurd (show (12 : Int) = 16 from h) (by decide), fun h => absurd (show (12 : Int) = 2 from h) (by decide)⟩
    · have : k = 12 := by simp only at hk; omega
      subst this
      show (if p.still then (1 : Int) else 0) = 0
      rw [hz]
      rfl
    · have : k = 12 := by simp only at hk; omega
      subst this
      cases ht
  · have hz : p.ids = 2 := by simpa [RowB.said] using hs
    exact same_num (n := 14) (by decide) (show p.ids = 2 from hz)
  · simp [RowB.said] at hs
  · have hz : p.hasAgain = false := by simpa [RowB.said] using hs
    have hr : p.again.l.length = 0 := by simp only [hz, Bool.false_or, Bool.and_eq_true, Bool.not_eq_true', decide_eq_false_iff_not] at ha; omega
    exact same_text 16 (by decide) (by show bt p.again.l = bt []; rw [List.length_eq_zero_iff.1 hr]) (fun _ => hz) (fun h => absurd h (by decide))
  · have hz : p.dg = 0 := by simpa [RowB.said] using hs
    exact same_num (n := 32) (by decide) (show p.dg = 0 from hz)
/-- The pieces of parameters, in their order. -/
def pcs (s : Bool) (L : List RowB) : List (Int × List UInt8) := (L.filter (RowB.said s)).map fun x => (x.r.n, x.bs)
theorem pcs_en (s : Bool) : ∀ L : List RowB, enP (pcs s L) = putB s L
  | [] => rfl
  | x :: t => by
    have ih := pcs_en s t
    unfold putB
    rw [List.flatMap_cons, show t.flatMap (RowB.put s) = putB s t from rfl, ← ih]
    unfold pcs RowB.put
    cases h : x.said s with
    | true => rw [List.filter_cons_of_pos h]; simp [enP]
    | false => rw [List.filter_cons_of_neg (by rw [h]; decide)]; simp
theorem pcs_keys (s : Bool) (L : List RowB) : (pcs s L).map (·.1) = (L.filter (RowB.said s)).map (·.r.n) := by simp [pcs, Function.comp_def]
def allK : List Int := [0, 1, 2, 3, 4, 5, 6, 7, 8, 9, 10, 11, 12, 14, 15, 16, 32]
theorem tab_keys (p : Ps) : (tab 0 p).map (·.r.n) = allK := rfl
theorem numsL_all : ∀ n ∈ numsL, n ∈ allK := by decide
theorem mix_all (p : Ps) : mix (fun y => decide (y ∈ allK)) (refq p) (refq dps) = refq p := by
  refine rq_ext (fun k => ?_) (fun k => ?_) ?_ ?_
  · show (if decide ((k : Int) ∈ allK) && isN k then (refq p).N k else (refq dps).N k) = (refq p).N k
    cases hi : isN k with
    | true =>
      have hm : (k : Int) ∈ allK := by
        unfold isN at hi
        simp only [Bool.or_eq_true, decide_eq_true_eq] at hi
        rcases hi with h | rfl
        · exact numsL_all _ h
        · decide
      rw [decide_eq_true hm]
      rfl
    | false =>
      rw [Bool.and_false]
      show (refq dps).N k = (refq p).N k
      unfold refq
      simp only
      split <;> first | rfl | (exfalso; revert hi; decide)
  · show (if decide ((k : Int) ∈ allK) && isT k then (refq p).T k else (refq dps).T k) = (refq p).T k
    cases hi : isT k with
    | true =>
      have hm : (k : Int) ∈ allK := by
        unfold isT at hi
        simp only [Bool.or_eq_true, decide_eq_true_eq] at hi
        rcases hi with ((rfl | rfl) | rfl) | rfl <;> decide
      rw [decide_eq_true hm]
      rfl
    | false =>
      rw [Bool.and_false]
      show (refq dps).T k = (refq p).T k
      unfold refq
      simp only
      split <;> first | rfl | (exfalso; revert hi; decide)
  · rfl
  · rfl
/-- Pieces of p's own, in whatever order, among them all that are said. -/
theorem pcs_read {p : Ps} {s : Bool} (h16 : p.reset.length = 16) (hb : p.bad s = false) (L : List (Int × List UInt8)) (hL : ∀ x, x ∈ L ↔ x ∈ pcs s (tab 0 p)) (hn : (L.map (·.1)).Nodup) : rdP s L (fun _ => false) (refq dps) = (0, refq p) := by
  have hkeys : ∀ y, y ∈ L.map (·.1) ↔ y ∈ ((tab 0 p).filter (RowB.said s)).map (·.r.n) := fun y => by
    rw [← pcs_keys]
    constructor
    · intro h
      obtain ⟨x, hx, rfl⟩ := List.mem_map.1 h
      exact List.mem_map.2 ⟨x, (hL x).1 hx, rfl⟩
    · intro h
      obtain ⟨x, hx, rfl⟩ := List.mem_map.1 h
      exact List.mem_map.2 ⟨x, (hL x).2 hx, rfl⟩
  have hg : ∀ x ∈ L, Good s (refq p) x := fun x hx => by
    obtain ⟨r, hr, rfl⟩ := List.mem_map.1 ((hL x).1 hx)
    obtain ⟨h1, h2⟩ := List.mem_filter.1 hr
    exact (good_row h16 hb r h1 h2).1
  rw [rd_good s (refq p) L _ _ hg hn (fun _ _ => rfl)]
  have k15 : (15 : Int) ∈ L.map (·.1) := (hkeys 15).2 (by
    refine List.mem_map.2 ⟨(⟨⟨15, false, true, 87, idV 0 14, decide (p.first.l.length ≤ 20), decide (0 < p.first.l.length)⟩, p.first.l⟩ : RowB), List.mem_filter.2 ⟨?_, ?_⟩, rfl⟩
    · simp [tab]
    · simp [RowB.said])
  have k0 : s = true → (0 : Int) ∈ L.map (·.1) := fun hs => (hkeys 0).2 (by
    subst hs
    refine List.mem_map.2 ⟨(⟨⟨0, true, true, 87, idV 0 13, decide (p.orig.l.length ≤ 20), decide (0 < p.orig.l.length)⟩, p.orig.l⟩ : RowB), List.mem_filter.2 ⟨?_, ?_⟩, rfl⟩
    · simp [tab]
    · simp [RowB.said])
  have hc : ((decide ((15 : Int) ∈ L.map (·.1)) || false) && (!s || (decide ((0 : Int) ∈ L.map (·.1)) || false))) = true := by
    rw [decide_eq_true k15]
    cases s
    · rfl
    · rw [decide_eq_true (k0 rfl)]
      rfl
  rw [if_pos hc]
  refine congrArg (Prod.mk 0) ?_
  rw [mix_same (K' := fun y => decide (y ∈ allK)) (fun y hy => ?_) (fun y h1 h2 => ?_), mix_all]
  · obtain ⟨x, hx, rfl⟩ := List.mem_map.1 ((hkeys y).1 (of_decide_eq_true hy))
    rw [← tab_keys p]
    exact decide_eq_true (List.mem_map.2 ⟨x, (List.mem_filter.1 hx).1, rfl⟩)
  · have h3 := of_decide_eq_true h1
    rw [← tab_keys p] at h3
    obtain ⟨x, hx, rfl⟩ := List.mem_map.1 h3
    refine same_row h16 hb x hx ?_
    cases hsd : x.said s with
    | false => rfl
    | true => exact absurd ((hkeys _).2 (List.mem_map.2 ⟨x, List.mem_filter.2 ⟨hx, hsd⟩, rfl⟩)) (of_decide_eq_false h2)
theorem pcs_nodup (p : Ps) (s : Bool) : ((pcs s (tab 0 p)).map (·.1)).Nodup := by
  rw [pcs_keys]
  have h : ((tab 0 p).map (·.r.n)).Nodup := by rw [tab_keys]; decide
  exact h.sublist (List.filter_sublist.map _)
theorem pcs_fit {p : Ps} {s : Bool} (h16 : p.reset.length = 16) (hb : p.bad s = false) : ∀ x ∈ pcs s (tab 0 p), 0 ≤ x.1 ∧ x.1 ≤ 4611686018427387903 ∧ x.2.length ≤ 1000 := fun x hx => by
  obtain ⟨r, hr, rfl⟩ := List.mem_map.1 hx
  obtain ⟨h1, h2⟩ := List.mem_filter.1 hr
  have h3 : r.r.n ∈ allK := by rw [← tab_keys p]; exact List.mem_map.2 ⟨r, h1, rfl⟩
  have h4 : ∀ n ∈ allK, 0 ≤ n ∧ n ≤ 4611686018427387903 := by decide
  exact ⟨(h4 _ h3).1, (h4 _ h3).2, (good_row h16 hb r h1 h2).2⟩
/-- What was put is read. -/
theorem put_read {p : Ps} {s : Bool} (h16 : p.reset.length = 16) (hb : p.bad s = false) : rdL (p.bytes s) s ((p.bytes s).length + 1) 0 (fun _ => false) (refq dps) = (0, refq p) := by
  have h := rd_en s (pcs s (tab 0 p)) [] ((p.bytes s).length + 1) (fun _ => false) (refq dps) (pcs_fit h16 hb) (by rw [pcs_en]; exact Nat.lt_succ_self _)
  rw [pcs_en, List.nil_append, pcs_read h16 hb _ (fun _ => Iff.rfl) (pcs_nodup p s)] at h
  exact h
end Go.Proofs.YtcppnellgkbndaaDoor
namespace Go.Proofs.YtcppnellgkbndaaDoor
open Go.ChangeShapes Go.WideShapes Go.ChangeAt Go.RowKit
set_option linter.unusedVariables false
set_option maxRecDepth 100000

/-- Parameters of the reference's that may be said. -/
structure Fq (s : Bool) (q : Rq) : Prop where
  n : ∀ k ∈ numsL, mayR k (q.N k.toNat) = true
  t0 : (q.T 0).size ≤ 20
  t15 : (q.T 15).size ≤ 20
  t16 : (q.T 16).size ≤ 20
  c : s = false → (q.T 0).toList = [] ∧ (q.T 16).toList = [] ∧ q.ha = false ∧ q.hr = false
  a : q.ha = false → (q.T 16).toList = []
  r : q.hr = false → (q.T 2).toList = ZS.toList
theorem nums_ne : ∀ n ∈ numsL, n ≠ 0 ∧ n ≠ 2 ∧ n ≠ 12 ∧ n ≠ 15 ∧ n ≠ 16 ∧ 0 ≤ n := by decide
theorem nums_n12 : (12 : Int) ∉ numsL := by decide
theorem Fq.take {s : Bool} {q q' : Rq} {k : Int} {X : List UInt8} (h : Fq s q) (ht : rtk s q k X = some q') : Fq s q' := by
  unfold rtk at ht
  split at ht
  · cases ht
  · rename_i hs
    split at ht
    · rename_i hk
      obtain ⟨k0, k2, k12, k15, k16, kp⟩ := nums_ne k hk
      split at ht
      · rename_i hv
        injection ht with ht
        subst ht
        refine ⟨fun j hj => ?_, h.t0, h.t15, h.t16, h.c, h.a, h.r⟩
        show mayR j (if j.toNat = k.toNat then vV X 0 else q.N j.toNat) = true
        by_cases hjk : j = k
        · subst hjk; rw [if_pos rfl]; exact hv.2.2
        · have := (nums_ne j hj).2.2.2.2.2
          rw [if_neg (by omega)]
          exact h.n j hj
      · cases ht
    · split at ht
      · split at ht
        · injection ht with ht
          subst ht
          refine ⟨fun j hj => ?_, h.t0, h.t15, h.t16, h.c, h.a, h.r⟩
          show mayR j (if j.toNat = 12 then 1 else q.N j.toNat) = true
          obtain ⟨_, _, j12, _, _, jp⟩ := nums_ne j hj
          rw [if_neg (by omega)]
          exact h.n j hj
        · cases ht
      · split at ht
        · rename_i hk2
          subst hk2
          split at ht
          · injection ht with ht
            subst ht
            refine ⟨h.n, h.t0, h.t15, h.t16, fun hf => absurd ⟨hf, Or.inr (Or.inl rfl)⟩ hs, h.a, fun hf => ?_⟩
            cases hf
          · cases ht
        · split at ht
          · rename_i hk
            split at ht
            · rename_i hX
              injection ht with ht
              subst ht
              have hsz : (bt X).size ≤ 20 := by rw [bt_size]; exact hX
              rcases hk with rfl | rfl | rfl
              · refine ⟨h.n, hsz, h.t15, h.t16, fun hf => absurd ⟨hf, Or.inl rfl⟩ hs, fun hf => ?_, h.r⟩
                exact h.a (by simpa using hf)
              · refine ⟨h.n, h.t0, hsz, h.t16, fun hf => ?_, fun hf => ?_, h.r⟩
                · obtain ⟨c1, c2, c3, c4⟩ := h.c hf
                  exact ⟨c1, c2, by show (q.ha || decide ((15 : Int) = 16)) = false; rw [c3]; rfl, c4⟩
                · exact h.a (by simpa using hf)
              · refine ⟨h.n, h.t0, h.t15, hsz, fun hf => absurd ⟨hf, Or.inr (Or.inr rfl)⟩ hs, fun hf => ?_, h.r⟩
                simp at hf
            · cases ht
          · injection ht with ht
            subst ht
            exact h
theorem Fq.read {l : List UInt8} {s : Bool} : ∀ (f : Nat) {a : Int} {S : Int → Bool} {q RQ : Rq}, Fq s q → rdL l s f a S q = (0, RQ) → Fq s RQ
  | 0, a, S, q, RQ, h, he => by
    unfold rdL at he
    injection he with h1 h2
    subst h2
    exact h
  | f + 1, a, S, q, RQ, h, he => by
    unfold rdL at he
    split at he
    · split at he
      · injection he with h1 h2
        subst h2
        exact h
      · injection he with h1 h2
        cases h1
    · split at he
      · injection he with h1 h2
        cases h1
      · split at he
        · injection he with h1 h2
          cases h1
        · split at he
          · injection he with h1 h2
            cases h1
          · rename_i q' hq
            refine Fq.read f ?_ he
            split at hq
            · exact h.take hq
            · injection hq with hq
              subst hq
              exact h
theorem Fq.fit {s : Bool} {q : Rq} (h : Fq s q) : (numsL.any q.nbad || q.tbad s) = false := by
  have h1 : numsL.any q.nbad = false := by
    rw [List.any_eq_false]
    intro k hk
    unfold Rq.nbad
    rw [h.n k hk]
    decide
  have e0 : decide ((20 : Int) < ((q.T 0).size : Int)) = false := decide_eq_false (by have := h.t0; omega)
  have e1 : decide ((20 : Int) < ((q.T 15).size : Int)) = false := decide_eq_false (by have := h.t15; omega)
  have e2 : decide ((20 : Int) < ((q.T 16).size : Int)) = false := decide_eq_false (by have := h.t16; omega)
  rw [h1, Bool.false_or]
  unfold Rq.tbad
  rw [e0, e1, e2]
  have hA : (!q.ha && (q.T 16).toList != []) = false := by
    cases hh : q.ha with
    | true => rfl
    | false => rw [h.a hh]; rfl
  have hR : (!q.hr && (q.T 2).toList != ZS.toList) = false := by
    cases hh : q.hr with
    | true => rfl
    | false => rw [h.r hh]; simp
  rw [hA, hR]
  cases s with
  | true => rfl
  | false =>
    obtain ⟨c1, c2, c3, c4⟩ := h.c rfl
    rw [c1, c2, c3, c4]
    rfl
theorem Fq.ofDps (s : Bool) : Fq s (refq dps) := by
  have e : ∀ k, k = 0 ∨ k = 16 → ((refq dps).T k).toList = [] := fun k hk => by
    rcases hk with rfl | rfl
    · exact bt_list []
    · exact bt_list []
  refine ⟨?_, ?_, ?_, ?_, fun _ => ⟨e 0 (.inl rfl), e 16 (.inr rfl), rfl, rfl⟩, fun _ => e 16 (.inr rfl), fun _ => rfl⟩
  · have : ∀ k ∈ numsL, mayR k (dflQ.N k.toNat) = true := by decide
    rw [dps_ref']
    exact this
  all_goals exact Nat.zero_le _
/-- What was read can be put. -/
theorem read_fit {l : List UInt8} {s : Bool} {f : Nat} {p : Ps} (h : rdL l s f 0 (fun _ => false) (refq dps) = (0, refq p)) : p.bad s = false := by
  rw [refq_bad]
  exact (Fq.read f (Fq.ofDps s) h).fit
theorem dps_fit : dps.bad false = false := by rw [refq_bad]; exact (Fq.ofDps false).fit
theorem dps_bytes : dps.bytes false = [15, 0] := by decide
end Go.Proofs.YtcppnellgkbndaaDoor
namespace Go.Proofs.YtcppnellgkbndaaDoor
open Go.ChangeShapes Go.WideShapes Go.ChangeAt Go.RowKit
set_option linter.unusedVariables false
set_option maxRecDepth 100000

/-- Bytes as they lie, with their slice. -/
structure Lb (X : World) (o : Option Addr) (c : Nat) (l : List UInt8) : Prop where
  sl : Sl X o l
  le : l.length ≤ c
  cm : c ≤ 9223372036854775807
  nil : o = none → l.length = 0 ∧ c = 0
theorem Lb.bel {X Y : World} {o : Option Addr} {c : Nat} {l : List UInt8} (h : Lb X o c l) (hb : Below X.heap.size X Y) : Lb Y o c l := ⟨Sl_below h.sl hb, h.le, h.cm, h.nil⟩
theorem Lb.own {B : Nat} {w : World} {v : Value} {l : List UInt8} (h : w.ownsRow B 5 1 v l.length (bc l)) : ∃ o c, v = .slice o l.length c ∧ Lb w o c l := by
  have h' := h
  obtain ⟨_, ⟨h0, h1⟩ | ⟨g, cap, cur, rfl, k1, k2, k3, k4, k5, k6⟩⟩ := h
  · subst h0
    refine ⟨none, 0, by rw [h1], fun j hj => by omega, by omega, by decide, fun _ => ⟨h1, rfl⟩⟩
  · exact ⟨_, cap, rfl, own_sl0 h', k3, by unfold maxLen at k4; omega, fun h => nomatch h⟩
theorem bytes_len {p : Ps} {s : Bool} (h16 : p.reset.length = 16) (hb : p.bad s = false) : (p.bytes s).length ≤ 680 := by
  have h1 := putB_len s (tab 0 p) (fun x hx => tab_bs h16 x hx (tab_al hb x hx))
  rw [tab_put, tab_len] at h1
  omega
theorem put_s (p : Ps) (s : Bool) (w : World) (h : Pl w p) (ht : Tb w) (hb : p.bad s = false) : Calls Tryd.prog 8 #[.agg p.cells.toArray, .bool s] w fun e w' => ∃ o c, e = .returned (.tuple #[.slice o (p.bytes s).length c, .int .i64 0]) ∧ Lb w' o c (p.bytes s) ∧ Below w.heap.size w w' := by
  refine (put_c p s w h ht hb).mono ?_
  rintro e w' ⟨v, rfl, hown, hbb⟩
  obtain ⟨o, c, rfl, hlb⟩ := Lb.own hown
  exact ⟨o, c, rfl, hlb, hbb⟩
/-- What Put put is read. -/
theorem read_s (p : Ps) (s : Bool) (w : World) (h16 : p.reset.length = 16) (hb : p.bad s = false) (o : Option Addr) (c : Nat) (hl : Lb w o c (p.bytes s)) (ht : Tb w) (x : Option Addr) (hu : w.cell? ⟨1, 0, none⟩ = some (.iface 138 (.pointer x))) :
    Calls Tryd.prog 17 #[.slice o (p.bytes s).length c, .bool s] w fun e w' => ∃ q, e = .returned (.tuple #[.agg q.cells.toArray, .int .i64 0]) ∧ refq q = refq p ∧ Pn w.heap.size w' q ∧ Below w.heap.size w w' :=
  read_c o c (p.bytes s) s w ht hl.sl (by have := bytes_len h16 hb; omega) hl.le hl.cm x hu 0 (refq p) (put_read h16 hb)
theorem dflt_s (w : World) (ht : Tb w) : Calls Tryd.prog 8 #[.agg defA, .bool false] w fun e w' => ∃ o c, e = .returned (.tuple #[.slice o 2 c, .int .i64 0]) ∧ (convert 22 9 (.slice o 2 c)).run Tryd.prog w' = .ok (.string ⟨#[15, 0]⟩) w' ∧ Below w.heap.size w w' := by
  rw [← dps_cells]
  refine (put_s dps false w (dps_pl w) ht dps_fit).mono ?_
  rintro e w' ⟨o, c, rfl, hl, hb⟩
  refine ⟨o, c, by rw [dps_bytes]; rfl, ?_, hb⟩
  have := str_any hl.sl rfl hl.nil
  rw [dps_bytes] at this
  exact this
end Go.Proofs.YtcppnellgkbndaaDoor
