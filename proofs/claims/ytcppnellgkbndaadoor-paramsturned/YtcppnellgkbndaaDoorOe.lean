/- params: Read on lists: what the reference leaves of one parameter, of all; that the program's rows say the same. params: one round of Read: the reader's parameter, whole, and what fault tells of it, against Read on lists. params: the reference's take. Written by tools/gen-params-rtake.py. params: the numbers that came, as the reference keeps them: a row of ints; how many there may be. -/
import Derived.Test.YtcppnellgkbndaaDoorNt
import Derived.Lib.ConvBytes
import Derived.Laws.OwnMore
import Derived.Maps.AppendAt
namespace Go.Proofs.YtcppnellgkbndaaDoor
open Go.ChangeShapes Go.WideShapes Go.ChangeAt Go.RowKit
set_option linter.unusedVariables false
set_option maxRecDepth 100000

/-- What the reference leaves of the parameter k with the bytes X; none: it may not be. -/
def rtk (s : Bool) (q : Rq) (k : Int) (X : List UInt8) : Option Rq :=
  if s = false ∧ (k = 0 ∨ k = 2 ∨ k = 16) then none
  else if k ∈ numsL then (if vE X 0 = 0 ∧ vN X 0 = (X.length : Int) ∧ mayR k (vV X 0) = true then some (q.setN k.toNat (vV X 0)) else none)
  else if k = 12 then (if X.length = 0 then some (q.setN 12 1) else none)
  else if k = 2 then (if X.length = 16 then some { q.setT 2 (bt X) with hr := true } else none)
  else if k = 0 ∨ k = 15 ∨ k = 16 then (if X.length ≤ 20 then some { q.setT k.toNat (bt X) with ha := q.ha || decide (k = 16) } else none)
  else some q
theorem rq_ext {q r : Rq} (h1 : ∀ k, q.N k = r.N k) (h2 : ∀ k, q.T k = r.T k) (h3 : q.ha = r.ha) (h4 : q.hr = r.hr) : q = r := by
  obtain ⟨a, b, c, d⟩ := q
  obtain ⟨a', b', c', d'⟩ := r
  simp only at h1 h2 h3 h4
  rw [funext h1, funext h2, h3, h4]
/-- A row's number. -/
def rowN (k : Nat) : Int := [0, 1, 2, 3, 4, 5, 6, 7, 8, 9, 10, 11, 12, 14, 15, 16, 32].getD k 0
theorem rowN_tab (P : Nat) (p0 : Ps) (k : Nat) (r : Row) (h : (rwL P p0)[k]? = some r) : r.n = rowN k ∧ (r.sv = true ↔ (k = 0 ∨ k = 2 ∨ k = 15)) ∧ k < 17 := by
  have hk : k < 17 := by
    have := (List.getElem?_eq_some_iff.1 h).1
    rwa [rwL_len] at this
  match k, hk with
  | 0, _ => cases h; exact ⟨rfl, ⟨fun h => of_decide_eq_true (p := (0 = 0 ∨ 0 = 2 ∨ 0 = 15)) h, fun h => decide_eq_true (p := (0 = 0 ∨ 0 = 2 ∨ 0 = 15)) h⟩, by decide⟩
  | 1, _ => cases h; exact ⟨rfl, ⟨fun h => of_decide_eq_true (p := (1 = 0 ∨ 1 = 2 ∨ 1 = 15)) h, fun h => decide_eq_true (p := (1 = 0 ∨ 1 = 2 ∨ 1 = 15)) h⟩, by decide⟩
  | 2, _ => cases h; exact ⟨rfl, ⟨fun h => of_decide_eq_true (p := (2 = 0 ∨ 2 = 2 ∨ 2 = 15)) h, fun h => decide_eq_true (p := (2 = 0 ∨ 2 = 2 ∨ 2 = 15)) h⟩, by decide⟩
  | 3, _ => cases h; exact ⟨rfl, ⟨fun h => of_decide_eq_true (p := (3 = 0 ∨ 3 = 2 ∨ 3 = 15)) h, fun h => decide_eq_true (p := (3 = 0 ∨ 3 = 2 ∨ 3 = 15)) h⟩, by decide⟩
  | 4, _ => cases h; exact ⟨rfl, ⟨fun h => of_decide_eq_true (p := (4 = 0 ∨ 4 = 2 ∨ 4 = 15)) h, fun h => decide_eq_true (p := (4 = 0 ∨ 4 = 2 ∨ 4 = 15)) h⟩, by decide⟩
  | 5, _ => cases h; exact ⟨rfl, ⟨fun h => of_decide_eq_true (p := (5 = 0 ∨ 5 = 2 ∨ 5 = 15)) h, fun h => decide_eq_true (p := (5 = 0 ∨ 5 = 2 ∨ 5 = 15)) h⟩, by decide⟩
  | 6, _ => cases h; exact ⟨rfl, ⟨fun h => of_decide_eq_true (p := (6 = 0 ∨ 6 = 2 ∨ 6 = 15)) h, fun h => decide_eq_true (p := (6 = 0 ∨ 6 = 2 ∨ 6 = 15)) h⟩, by decide⟩
  | 7, _ => cases h; exact ⟨rfl, ⟨fun h => of_decide_eq_true (p := (7 = 0 ∨ 7 = 2 ∨ 7 = 15)) h, fun h => decide_eq_true (p := (7 = 0 ∨ 7 = 2 ∨ 7 = 15)) h⟩, by decide⟩
  | 8, _ => cases h; exact ⟨rfl, ⟨fun h => of_decide_eq_true (p := (8 = 0 ∨ 8 = 2 ∨ 8 = 15)) h, fun h => decide_eq_true (p := (8 = 0 ∨ 8 = 2 ∨ 8 = 15)) h⟩, by decide⟩
  | 9, _ => cases h; exact ⟨rfl, ⟨fun h => of_decide_eq_true (p := (9 = 0 ∨ 9 = 2 ∨ 9 = 15)) h, fun h => decide_eq_true (p := (9 = 0 ∨ 9 = 2 ∨ 9 = 15)) h⟩, by decide⟩
  | 10, _ => cases h; exact ⟨rfl, ⟨fun h => of_decide_eq_true (p := (10 = 0 ∨ 10 = 2 ∨ 10 = 15)) h, fun h => decide_eq_true (p := (10 = 0 ∨ 10 = 2 ∨ 10 = 15)) h⟩, by decide⟩
  | 11, _ => cases h; exact ⟨rfl, ⟨fun h => of_decide_eq_true (p := (11 = 0 ∨ 11 = 2 ∨ 11 = 15)) h, fun h => decide_eq_true (p := (11 = 0 ∨ 11 = 2 ∨ 11 = 15)) h⟩, by decide⟩
  | 12, _ => cases h; exact ⟨rfl, ⟨fun h => of_decide_eq_true (p := (12 = 0 ∨ 12 = 2 ∨ 12 = 15)) h, fun h => decide_eq_true (p := (12 = 0 ∨ 12 = 2 ∨ 12 = 15)) h⟩, by decide⟩
  | 13, _ => cases h; exact ⟨rfl, ⟨fun h => of_decide_eq_true (p := (13 = 0 ∨ 13 = 2 ∨ 13 = 15)) h, fun h => decide_eq_true (p := (13 = 0 ∨ 13 = 2 ∨ 13 = 15)) h⟩, by decide⟩
  | 14, _ => cases h; exact ⟨rfl, ⟨fun h => of_decide_eq_true (p := (14 = 0 ∨ 14 = 2 ∨ 14 = 15)) h, fun h => decide_eq_true (p := (14 = 0 ∨ 14 = 2 ∨ 14 = 15)) h⟩, by decide⟩
  | 15, _ => cases h; exact ⟨rfl, ⟨fun h => of_decide_eq_true (p := (15 = 0 ∨ 15 = 2 ∨ 15 = 15)) h, fun h => decide_eq_true (p := (15 = 0 ∨ 15 = 2 ∨ 15 = 15)) h⟩, by decide⟩
  | 16, _ => cases h; exact ⟨rfl, ⟨fun h => of_decide_eq_true (p := (16 = 0 ∨ 16 = 2 ∨ 16 = 15)) h, fun h => decide_eq_true (p := (16 = 0 ∨ 16 = 2 ∨ 16 = 15)) h⟩, by decide⟩
theorem ix_row {P : Nat} {p0 : Ps} {q : Int} {k : Nat} {r : Row} (h : ixE (rwL P p0) q = some k) (hr : (rwL P p0)[k]? = some r) : q = rowN k := by
  obtain ⟨hk, h1, _⟩ := List.findIdx?_eq_some_iff_getElem.1 h
  have h2 : (rwL P p0)[k] = r := by
    have := List.getElem?_eq_getElem hk
    rw [hr] at this
    injection this with this
    exact this.symm
  rw [h2] at h1
  have := (rowN_tab P p0 k r hr).1
  rw [← this]
  exact (show r.n = q by simpa using h1).symm
theorem ix_none {P : Nat} {p0 : Ps} {q : Int} (h : ixE (rwL P p0) q = none) : ∀ k, k < 17 → q ≠ rowN k := by
  intro k hk he
  have h1 := List.findIdx?_eq_none_iff.1 h
  have hk' : k < (rwL P p0).length := by rw [rwL_len]; exact hk
  have h2 := h1 _ (List.getElem_mem hk')
  have h3 := (rowN_tab P p0 k _ (List.getElem?_eq_getElem hk')).1
  rw [h3, he] at h2
  simp at h2
/-- A number that is in no row changes nothing of the reference's. -/
theorem rtk_none {q : Int} (h : ∀ k, k < 17 → q ≠ rowN k) (s : Bool) (r : Rq) (X : List UInt8) : rtk s r q X = some r := by
  have h0 := h 0 (by decide)
  have h1 := h 1 (by decide)
  have h2 := h 2 (by decide)
  have h3 := h 3 (by decide)
  have h4 := h 4 (by decide)
  have h5 := h 5 (by decide)
  have h6 := h 6 (by decide)
  have h7 := h 7 (by decide)
  have h8 := h 8 (by decide)
  have h9 := h 9 (by decide)
  have h10 := h 10 (by decide)
  have h11 := h 11 (by decide)
  have h12 := h 12 (by decide)
  have h13 := h 13 (by decide)
  have h14 := h 14 (by decide)
  have h15 := h 15 (by decide)
  have h16 := h 16 (by decide)
  simp only [rowN, List.getD_cons_zero, List.getD_cons_succ] at *
  have hn : q ∉ numsL := by simp only [numsL, List.mem_cons, List.not_mem_nil, or_false]; omega
  unfold rtk
  rw [if_neg (by omega), if_neg hn, if_neg (by omega), if_neg (by omega), if_neg (by omega)]
theorem row_le {k : Nat} (hk : k < 17) : rowN k ≤ 32 ∧ 0 ≤ rowN k := by
  have : ∀ k, k < 17 → rowN k ≤ 32 ∧ 0 ≤ rowN k := by decide
  exact this k hk
/-- A number, read: the row and the reference. -/
theorem num_both {X : List UInt8} {lo hi : Int} {k : Int} (s : Bool) (q : Rq) (hk : k ∈ numsL) (hm : ∀ v, mayR k v = decide (lo ≤ v ∧ v ≤ hi)) : rtk s q k X = if okN X lo hi = true then some (q.setN k.toNat (vV X 0)) else none := by
  have h0 : ¬ (k = 0 ∨ k = 2 ∨ k = 16) := by
    intro h
    have : (0 : Int) ∉ numsL ∧ (2 : Int) ∉ numsL ∧ (16 : Int) ∉ numsL := by decide
    rcases h with rfl | rfl | rfl
    · exact this.1 hk
    · exact this.2.1 hk
    · exact this.2.2 hk
  unfold rtk okN
  rw [if_neg (fun h => h0 h.2), if_pos hk, hm]
  by_cases h1 : vE X 0 = 0
  · by_cases h2 : vN X 0 = (X.length : Int)
    · by_cases h3 : lo ≤ vV X 0 ∧ vV X 0 ≤ hi
      · simp [h1, h2, h3]
      · simp [h1, h2, h3]
    · simp [h1, h2]
  · simp [h1]
/-- A number's field turned. -/
theorem setN_ext {q r : Rq} {n : Nat} {v : Int} (h1 : ∀ j, (if j = n then v else q.N j) = r.N j) (h2 : q.T = r.T) (h3 : q.ha = r.ha) (h4 : q.hr = r.hr) : q.setN n v = r := rq_ext h1 (fun k => by show q.T k = _; rw [h2]) h3 h4
/-- What is to be shown of a row. -/
def RowOk (k : Nat) (s : Bool) (X : List UInt8) (p : Ps) : Prop :=
  (s = false ∧ (k = 0 ∨ k = 2 ∨ k = 15) → rtk s (refq p) (rowN k) X = none) ∧
    (¬ (s = false ∧ (k = 0 ∨ k = 2 ∨ k = 15)) → (rdOk k X = false → rtk s (refq p) (rowN k) X = none) ∧ ∀ p', rdOk k X = true → rdTo k X p p' → rtk s (refq p) (rowN k) X = some (refq p') ∧ p'.reset.length = 16)
theorem rowOk_num {k : Nat} {s : Bool} {X : List UInt8} {p : Ps} (hr : p.reset.length = 16) (lo hi n : Int) (p1 : Ps) (hk : ¬ (k = 0 ∨ k = 2 ∨ k = 15)) (hn : rowN k = n) (h1 : n ∈ numsL) (h2 : ∀ v, mayR n v = decide (lo ≤ v ∧ v ≤ hi)) (h3 : (refq p).setN n.toNat (vV X 0) = refq p1) (h4 : p1.reset = p.reset) (h5 : rdOk k X = okN X lo hi) (h6 : ∀ p', rdTo k X p p' → p' = p1) : RowOk k s X p := by
  unfold RowOk
  rw [hn, num_both s (refq p) h1 h2, h5]
  refine ⟨fun h => absurd h.2 hk, fun _ => ⟨fun h => by rw [h]; rfl, fun p' h hp => ?_⟩⟩
  rw [h, h6 p' hp, h3, h4]
  exact ⟨rfl, hr⟩
theorem rowOk_1 (s : Bool) (X : List UInt8) (p : Ps) (hr : p.reset.length = 16) : RowOk 1 s X p :=
  rowOk_num hr _ _ 1 { p with idle := vV X 0 } (by decide) rfl (by decide) may1 (setN_ext (fun j => by
    by_cases hj : j = 1
    · subst hj; rfl
    · rw [if_neg (show ¬ j = Int.toNat 1 from hj)]
      unfold refq
      simp only
      split <;> first | rfl | omega | (split <;> first | rfl | omega | simp_all)) rfl rfl rfl) rfl rfl (fun _ h => h)
theorem rowOk_3 (s : Bool) (X : List UInt8) (p : Ps) (hr : p.reset.length = 16) : RowOk 3 s X p :=
  rowOk_num hr _ _ 3 { p with payload := vV X 0 } (by decide) rfl (by decide) may3 (setN_ext (fun j => by
    by_cases hj : j = 3
    · subst hj; rfl
    · rw [if_neg (show ¬ j = Int.toNat 3 from hj)]
      unfold refq
      simp only
      split <;> first | rfl | omega | (split <;> first | rfl | omega | simp_all)) rfl rfl rfl) rfl rfl (fun _ h => h)
theorem rowOk_4 (s : Bool) (X : List UInt8) (p : Ps) (hr : p.reset.length = 16) : RowOk 4 s X p :=
  rowOk_num hr _ _ 4 { p with data := vV X 0 } (by decide) rfl (by decide) may4 (setN_ext (fun j => by
    by_cases hj : j = 4
    · subst hj; rfl
    · rw [if_neg (show ¬ j = Int.toNat 4 from hj)]
      unfold refq
      simp only
      split <;> first | rfl | omega | (split <;> first | rfl | omega | simp_all)) rfl rfl rfl) rfl rfl (fun _ h => h)
theorem rowOk_5 (s : Bool) (X : List UInt8) (p : Ps) (hr : p.reset.length = 16) : RowOk 5 s X p :=
  rowOk_num hr _ _ 5 { p with bl := vV X 0 } (by decide) rfl (by decide) may5 (setN_ext (fun j => by
    by_cases hj : j = 5
    · subst hj; rfl
    · rw [if_neg (show ¬ j = Int.toNat 5 from hj)]
      unfold refq
      simp only
      split <;> first | rfl | omega | (split <;> first | rfl | omega | simp_all)) rfl rfl rfl) rfl rfl (fun _ h => h)
theorem rowOk_6 (s : Bool) (X : List UInt8) (p : Ps) (hr : p.reset.length = 16) : RowOk 6 s X p :=
  rowOk_num hr _ _ 6 { p with br := vV X 0 } (by decide) rfl (by decide) may6 (setN_ext (fun j => by
    by_cases hj : j = 6
    · subst hj; rfl
    · rw [if_neg (show ¬ j = Int.toNat 6 from hj)]
      unfold refq
      simp only
      split <;> first | rfl | omega | (split <;> first | rfl | omega | simp_all)) rfl rfl rfl) rfl rfl (fun _ h => h)
theorem rowOk_7 (s : Bool) (X : List UInt8) (p : Ps) (hr : p.reset.length = 16) : RowOk 7 s X p :=
  rowOk_num hr _ _ 7 { p with un := vV X 0 } (by decide) rfl (by decide) may7 (setN_ext (fun j => by
    by_cases hj : j = 7
    · subst hj; rfl
    · rw [if_neg (show ¬ j = Int.toNat 7 from hj)]
      unfold refq
      simp only
      split <;> first | rfl | omega | (split <;> first | rfl | omega | simp_all)) rfl rfl rfl) rfl rfl (fun _ h => h)
theorem rowOk_8 (s : Bool) (X : List UInt8) (p : Ps) (hr : p.reset.length = 16) : RowOk 8 s X p :=
  rowOk_num hr _ _ 8 { p with sb := vV X 0 } (by decide) rfl (by decide) may8 (setN_ext (fun j => by
    by_cases hj : j = 8
    · subst hj; rfl
    · rw [if_neg (show ¬ j = Int.toNat 8 from hj)]
      unfold refq
      simp only
      split <;> first | rfl | omega | (split <;> first | rfl | omega | simp_all)) rfl rfl rfl) rfl rfl (fun _ h => h)
theorem rowOk_9 (s : Bool) (X : List UInt8) (p : Ps) (hr : p.reset.length = 16) : RowOk 9 s X p :=
  rowOk_num hr _ _ 9 { p with su := vV X 0 } (by decide) rfl (by decide) may9 (setN_ext (fun j => by
    by_cases hj : j = 9
    · subst hj; rfl
    · rw [if_neg (show ¬ j = Int.toNat 9 from hj)]
      unfold refq
      simp only
      split <;> first | rfl | omega | (split <;> first | rfl | omega | simp_all)) rfl rfl rfl) rfl rfl (fun _ h => h)
theorem rowOk_10 (s : Bool) (X : List UInt8) (p : Ps) (hr : p.reset.length = 16) : RowOk 10 s X p :=
  rowOk_num hr _ _ 10 { p with ex := vV X 0 } (by decide) rfl (by decide) may10 (setN_ext (fun j => by
    by_cases hj : j = 10
    · subst hj; rfl
    · rw [if_neg (show ¬ j = Int.toNat 10 from hj)]
      unfold refq
      simp only
      split <;> first | rfl | omega | (split <;> first | rfl | omega | simp_all)) rfl rfl rfl) rfl rfl (fun _ h => h)
theorem rowOk_11 (s : Bool) (X : List UInt8) (p : Ps) (hr : p.reset.length = 16) : RowOk 11 s X p :=
  rowOk_num hr _ _ 11 { p with de := vV X 0 } (by decide) rfl (by decide) may11 (setN_ext (fun j => by
    by_cases hj : j = 11
    · subst hj; rfl
    · rw [if_neg (show ¬ j = Int.toNat 11 from hj)]
      unfold refq
      simp only
      split <;> first | rfl | omega | (split <;> first | rfl | omega | simp_all)) rfl rfl rfl) rfl rfl (fun _ h => h)
theorem rowOk_13 (s : Bool) (X : List UInt8) (p : Ps) (hr : p.reset.length = 16) : RowOk 13 s X p :=
  rowOk_num hr _ _ 14 { p with ids := vV X 0 } (by decide) rfl (by decide) may14 (setN_ext (fun j => by
    by_cases hj : j = 14
    · subst hj; rfl
    · rw [if_neg (show ¬ j = Int.toNat 14 from hj)]
      unfold refq
      simp only
      split <;> first | rfl | omega | (split <;> first | rfl | omega | simp_all)) rfl rfl rfl) rfl rfl (fun _ h => h)
theorem rowOk_16 (s : Bool) (X : List UInt8) (p : Ps) (hr : p.reset.length = 16) : RowOk 16 s X p :=
  rowOk_num hr _ _ 32 { p with dg := vV X 0 } (by decide) rfl (by decide) may32 (setN_ext (fun j => by
    by_cases hj : j = 32
    · subst hj; rfl
    · rw [if_neg (show ¬ j = Int.toNat 32 from hj)]
      unfold refq
      simp only
      split <;> first | rfl | omega | (split <;> first | rfl | omega | simp_all)) rfl rfl rfl) rfl rfl (fun _ h => h)
theorem rowOk_12 (s : Bool) (X : List UInt8) (p : Ps) (hr : p.reset.length = 16) : RowOk 12 s X p := by
  have hn : (12 : Int) ∉ numsL := by decide
  have hp : (refq p).setN 12 1 = refq { p with still := true } := setN_ext (fun j => by
    by_cases hj : j = 12
    · subst hj; rfl
    · rw [if_neg hj]
      unfold refq
      simp only
      split <;> first | rfl | omega | (split <;> first | rfl | omega | simp_all)) rfl rfl rfl
  have e : rtk s (refq p) (rowN 12) X = if X.length = 0 then some ((refq p).setN 12 1) else none := by
    unfold rtk
    rw [show rowN 12 = 12 from rfl, if_neg (by omega), if_neg hn, if_pos rfl]
  unfold RowOk
  rw [e, show rdOk 12 X = decide (X.length = 0) from rfl]
  refine ⟨fun h => absurd h.2 (by decide), fun _ => ⟨fun h => by rw [if_neg (of_decide_eq_false h)], fun p' h hq => ?_⟩⟩
  rw [if_pos (of_decide_eq_true h), hp]
  have hq' : p' = { p with still := true } := hq
  subst hq'
  exact ⟨rfl, hr⟩
theorem rowOk_2 (s : Bool) (X : List UInt8) (p : Ps) (hr : p.reset.length = 16) : RowOk 2 s X p := by
  have hn : (2 : Int) ∉ numsL := by decide
  have e1 : s = false → rtk s (refq p) (rowN 2) X = none := fun h => by unfold rtk; rw [show rowN 2 = 2 from rfl, if_pos ⟨h, by omega⟩]
  have e : ¬ s = false → rtk s (refq p) (rowN 2) X = if X.length = 16 then some { (refq p).setT 2 (bt X) with hr := true } else none := fun h => by
    unfold rtk
    rw [show rowN 2 = 2 from rfl, if_neg (fun x => h x.1), if_neg hn, if_neg (by omega), if_pos rfl]
  refine ⟨fun h => e1 h.1, fun hh => ?_⟩
  have hs : ¬ s = false := fun h => hh ⟨h, by omega⟩
  rw [e hs, show rdOk 2 X = decide (X.length = 16) from rfl]
  refine ⟨fun h => by rw [if_neg (of_decide_eq_false h)], fun p' h hq => ?_⟩
  have hX := of_decide_eq_true h
  have hq' : p' = { p with reset := X.take 16 ++ p.reset.drop (X.take 16).length, hasReset := true } := hq
  have e3 : X.take 16 ++ p.reset.drop (X.take 16).length = X := by
    rw [List.take_of_length_le (by omega), List.drop_eq_nil_of_le (by omega), List.append_nil]
  rw [e3] at hq'
  subst hq'
  rw [if_pos hX]
  refine ⟨congrArg some (rq_ext (fun _ => rfl) (fun j => ?_) rfl rfl), hX⟩
  show (if j = 2 then bt X else (refq p).T j) = _
  by_cases hj : j = 2
  · subst hj; rfl
  · rw [if_neg hj]
    unfold refq
    simp only
    split <;> first | rfl | omega | (split <;> first | rfl | omega | simp_all)
theorem rowOk_0 (s : Bool) (X : List UInt8) (p : Ps) (hr : p.reset.length = 16) : RowOk 0 s X p := by
  have hn : (0 : Int) ∉ numsL := by decide
  have e1 : s = false → rtk s (refq p) (rowN 0) X = none := fun h => by unfold rtk; rw [show rowN 0 = 0 from rfl, if_pos ⟨h, by omega⟩]
  have e : ¬ s = false → rtk s (refq p) (rowN 0) X = if X.length ≤ 20 then some { (refq p).setT 0 (bt X) with ha := (refq p).ha || decide ((0 : Int) = 16) } else none := fun h => by
    unfold rtk
    rw [show rowN 0 = 0 from rfl, if_neg (fun x => h x.1), if_neg hn, if_neg (by omega), if_neg (by omega), if_pos (by omega)]
    rfl
  refine ⟨fun h => e1 h.1, fun hh => ?_⟩
  have hs : ¬ s = false := fun h => hh ⟨h, by omega⟩
  rw [e hs, show rdOk 0 X = decide (X.length ≤ 20) from rfl]
  refine ⟨fun h => by rw [if_neg (of_decide_eq_false h)], fun p' h hq => ?_⟩
  have hX := of_decide_eq_true h
  obtain ⟨b, rfl, rfl⟩ : ∃ b : Bl, b.l = X ∧ p' = { p with orig := b } := hq
  rw [if_pos hX]
  refine ⟨congrArg some (rq_ext (fun _ => rfl) (fun j => ?_) (by simp [refq]) rfl), hr⟩
  show (if j = 0 then bt b.l else (refq p).T j) = _
  by_cases hj : j = 0
  · subst hj; rfl
  · rw [if_neg hj]
    unfold refq
    simp only
    split <;> first | rfl | omega | (split <;> first | rfl | omega | simp_all)
theorem rowOk_14 (s : Bool) (X : List UInt8) (p : Ps) (hr : p.reset.length = 16) : RowOk 14 s X p := by
  have hn : (15 : Int) ∉ numsL := by decide
  have e : rtk s (refq p) (rowN 14) X = if X.length ≤ 20 then some { (refq p).setT 15 (bt X) with ha := (refq p).ha || decide ((15 : Int) = 16) } else none := by
    unfold rtk
    rw [show rowN 14 = 15 from rfl, if_neg (fun x => by omega), if_neg hn, if_neg (by omega), if_neg (by omega), if_pos (by omega)]
    rfl
  refine ⟨fun h => absurd h.2 (by decide), fun hh => ?_⟩
  rw [e, show rdOk 14 X = decide (X.length ≤ 20) from rfl]
  refine ⟨fun h => by rw [if_neg (of_decide_eq_false h)], fun p' h hq => ?_⟩
  have hX := of_decide_eq_true h
  obtain ⟨b, rfl, rfl⟩ : ∃ b : Bl, b.l = X ∧ p' = { p with first := b } := hq
  rw [if_pos hX]
  refine ⟨congrArg some (rq_ext (fun _ => rfl) (fun j => ?_) (by simp [refq]) rfl), hr⟩
  show (if j = 15 then bt b.l else (refq p).T j) = _
  by_cases hj : j = 15
  · subst hj; rfl
  · rw [if_neg hj]
    unfold refq
    simp only
    split <;> first | rfl | omega | (split <;> first | rfl | omega | simp_all)
theorem rowOk_15 (s : Bool) (X : List UInt8) (p : Ps) (hr : p.reset.length = 16) : RowOk 15 s X p := by
  have hn : (16 : Int) ∉ numsL := by decide
  have e1 : s = false → rtk s (refq p) (rowN 15) X = none := fun h => by unfold rtk; rw [show rowN 15 = 16 from rfl, if_pos ⟨h, by omega⟩]
  have e : ¬ s = false → rtk s (refq p) (rowN 15) X = if X.length ≤ 20 then some { (refq p).setT 16 (bt X) with ha := (refq p).ha || decide ((16 : Int) = 16) } else none := fun h => by
    unfold rtk
    rw [show rowN 15 = 16 from rfl, if_neg (fun x => h x.1), if_neg hn, if_neg (by omega), if_neg (by omega), if_pos (by omega)]
    rfl
  refine ⟨fun h => e1 h.1, fun hh => ?_⟩
  have hs : ¬ s = false := fun h => hh ⟨h, by omega⟩
  rw [e hs, show rdOk 15 X = decide (X.length ≤ 20) from rfl]
  refine ⟨fun h => by rw [if_neg (of_decide_eq_false h)], fun p' h hq => ?_⟩
  have hX := of_decide_eq_true h
  obtain ⟨b, rfl, rfl⟩ : ∃ b : Bl, b.l = X ∧ p' = { p with again := b, hasAgain := true } := hq
  rw [if_pos hX]
  refine ⟨congrArg some (rq_ext (fun _ => rfl) (fun j => ?_) (by simp [refq]) rfl), hr⟩
  show (if j = 16 then bt b.l else (refq p).T j) = _
  by_cases hj : j = 16
  · subst hj; rfl
  · rw [if_neg hj]
    unfold refq
    simp only
    split <;> first | rfl | omega | (split <;> first | rfl | omega | simp_all)
theorem rtk_row {k : Nat} (hk : k < 17) (s : Bool) (X : List UInt8) (p : Ps) (hr : p.reset.length = 16) : RowOk k s X p :=
  match k, hk with
  | 0, _ => rowOk_0 s X p hr
  | 1, _ => rowOk_1 s X p hr
  | 2, _ => rowOk_2 s X p hr
  | 3, _ => rowOk_3 s X p hr
  | 4, _ => rowOk_4 s X p hr
  | 5, _ => rowOk_5 s X p hr
  | 6, _ => rowOk_6 s X p hr
  | 7, _ => rowOk_7 s X p hr
  | 8, _ => rowOk_8 s X p hr
  | 9, _ => rowOk_9 s X p hr
  | 10, _ => rowOk_10 s X p hr
  | 11, _ => rowOk_11 s X p hr
  | 12, _ => rowOk_12 s X p hr
  | 13, _ => rowOk_13 s X p hr
  | 14, _ => rowOk_14 s X p hr
  | 15, _ => rowOk_15 s X p hr
  | 16, _ => rowOk_16 s X p hr
  | n + 17, h => absurd h (by omega)
/-- What of all is read: fuel, the place, the numbers that came, the parameters so far; answers the code, and what is told. -/
def rdL (l : List UInt8) (s : Bool) : Nat → Int → (Int → Bool) → Rq → Int × Rq
  | 0, _, _, q => (0, q)
  | f + 1, a, S, q =>
    if (l.length : Int) ≤ a then (if S 15 && (!s || S 0) then (0, q) else (11, rq0.setT 2 ZS))
    else if vE l a ≠ 0 ∨ vE l (vN l a) ≠ 0 ∨ (l.length : Int) - vN l (vN l a) < vV l (vN l a) then (10, rq0.setT 2 ZS)
    else if S (vV l a) = true then (13, rq0.setT 2 ZS)
    else match (if vV l a ≤ 32 then rtk s q (vV l a) (sub l (vN l (vN l a)).toNat (vV l (vN l a)).toNat) else some q) with
      | none => (11, rq0.setT 2 ZS)
      | some q' => rdL l s f (vN l (vN l a) + vV l (vN l a)) (fun x => x == vV l a || S x) q'
end Go.Proofs.YtcppnellgkbndaaDoor
namespace Go.Proofs.YtcppnellgkbndaaDoor
open Go.ChangeShapes Go.WideShapes Go.ChangeAt Go.RowKit
set_option linter.unusedVariables false
set_option maxRecDepth 100000

abbrev rqE : Rq := rq0.setT 2 ZS
section
variable {l : List UInt8} {s : Bool} {f : Nat} {a : Int} {S : Int → Bool} {q : Rq}
theorem rdL_10 (ha : a < l.length) (h : vE l a ≠ 0 ∨ vE l (vN l a) ≠ 0 ∨ (l.length : Int) - vN l (vN l a) < vV l (vN l a)) : rdL l s (f + 1) a S q = (10, rqE) := by
  unfold rdL
  rw [if_neg (by omega), if_pos h]
theorem rdL_13 (ha : a < l.length) (h : ¬ (vE l a ≠ 0 ∨ vE l (vN l a) ≠ 0 ∨ (l.length : Int) - vN l (vN l a) < vV l (vN l a))) (hS : S (vV l a) = true) : rdL l s (f + 1) a S q = (13, rqE) := by
  unfold rdL
  rw [if_neg (by omega), if_neg h, if_pos hS]
theorem rdL_11 (ha : a < l.length) (h : ¬ (vE l a ≠ 0 ∨ vE l (vN l a) ≠ 0 ∨ (l.length : Int) - vN l (vN l a) < vV l (vN l a))) (hS : S (vV l a) = false) (hk : vV l a ≤ 32) (ht : rtk s q (vV l a) (sub l (vN l (vN l a)).toNat (vV l (vN l a)).toNat) = none) : rdL l s (f + 1) a S q = (11, rqE) := by
  unfold rdL
  rw [if_neg (by omega), if_neg h, if_neg (by rw [hS]; decide), if_pos hk, ht]
theorem rdL_on {q' : Rq} (ha : a < l.length) (h : ¬ (vE l a ≠ 0 ∨ vE l (vN l a) ≠ 0 ∨ (l.length : Int) - vN l (vN l a) < vV l (vN l a))) (hS : S (vV l a) = false) (ht : (if vV l a ≤ 32 then rtk s q (vV l a) (sub l (vN l (vN l a)).toNat (vV l (vN l a)).toNat) else some q) = some q') : rdL l s (f + 1) a S q = rdL l s f (vN l (vN l a) + vV l (vN l a)) (fun x => x == vV l a || S x) q' := by
  conv => lhs; unfold rdL
  rw [if_neg (by omega), if_neg h, if_neg (by rw [hS]; decide), ht]
theorem vE_10 {l : List UInt8} {a : Int} (h0 : 0 ≤ a) (h1 : a ≤ l.length) (h : vE l a ≠ 0) : vE l a = 10 := by
  unfold vE at h ⊢
  rw [if_neg (by omega)] at h ⊢
  by_cases ho : vOk l a
  · rw [if_pos ho] at h; exact absurd rfl h
  · rw [if_neg ho]
end
/-- What a round of Read leaves: the error ev, what fault tells of it, and where the reading stands. -/
def StepR (B : Pl4) (p0 p : Ps) (o : Option Addr) (c : Nat) (l : List UInt8) (a : Int) (s : Bool) (m : Nat) (S : Int → Bool) (w : World) (ev : Value) (w' : World) : Prop :=
  ∃ code : Int, Calls Tryd.prog 31 #[ev] w' (fun r w'' => r = .returned (.int .i64 code) ∧ Below w'.heap.size w' w'') ∧ Gs (fun k => k = B.P ∨ k = B.mb ∨ k = B.R) w w' ∧
    ((code ≠ 0 ∧ ∀ f, rdL l s (f + 1) a S (refq p) = (code, rqE)) ∨
     (code = 0 ∧ ∃ S' p' m' a', Rds w' B p0 p' o l.length c a' s m' S' ∧ m' ≤ m + 1 ∧ a < a' ∧ a' ≤ l.length ∧ ∀ f, rdL l s (f + 1) a S (refq p) = rdL l s f a' S' (refq p')))
section
variable {w : World} {B : Pl4} {p0 p : Ps} {b off c : Nat} {a : Int} {s : Bool} {m : Nat} {S : Int → Bool} {l : List UInt8}
theorem par_c (h : Rds w B p0 p (some ⟨b, off, none⟩) l.length c a s m S) (hs : ∀ j (hj : j < l.length), w.cell? ⟨b, off + j, none⟩ = some (.int .u8 (l[j].toNat))) (hl : l.length ≤ 140737488351232) (hlc : l.length ≤ c) (hc : c ≤ 9223372036854775807) (hbP : b ≠ B.P) (hbR : b ≠ B.R) (hbM : b ≠ B.mb)
    (x : Option Addr) (hu : w.cell? ⟨1, 0, none⟩ = some (.iface 138 (.pointer x))) (h1m : 1 < B.mb ∧ 1 < B.R) (hm : m < 9000000000000000000) (ha0 : 0 ≤ a) (ha : a < l.length) :
    Calls Tryd.prog 32 #[.pointer (some ⟨B.R, 0, none⟩)] w fun e w' => ∃ ev, e = .returned ev ∧ StepR B p0 p (some ⟨b, off, none⟩) c l a s m S w ev w' := by
  have hsl : Sl w (some ⟨b, off, none⟩) l := fun j hj => ⟨b, off, rfl, hs j hj⟩
  by_cases he : vE l a = 0
  rotate_left
  · refine (par_first h hsl (by omega) he).mono ?_
    rintro e w' ⟨rfl, hb⟩
    rw [vE_10 ha0 (by omega) he]
    exact ⟨_, rfl, 10, fault_num 10 w' (.inl rfl), Gs.of_below hb, .inl ⟨by decide, fun f => rdL_10 ha (.inl he)⟩⟩
  obtain ⟨r1, r2, r3, r4, r5⟩ := v_rng he
  by_cases he2 : vE l (vN l a) = 0
  rotate_left
  · refine (par_second h hsl (by omega) he he2).mono ?_
    rintro e w' ⟨rfl, hb⟩
    rw [vE_10 (by omega) r3 he2]
    exact ⟨_, rfl, 10, fault_num 10 w' (.inl rfl), Gs.of_below hb, .inl ⟨by decide, fun f => rdL_10 ha (.inr (.inl he2))⟩⟩
  obtain ⟨t1, t2, t3, t4, t5⟩ := v_rng he2
  by_cases hgt : (l.length : Int) - vN l (vN l a) < vV l (vN l a)
  · refine (par_end h hsl (by omega) he he2 hgt).mono ?_
    rintro e w' ⟨rfl, hb⟩
    exact ⟨_, rfl, 10, fault_num 10 w' (.inl rfl), Gs.of_below hb, .inl ⟨by decide, fun f => rdL_10 ha (.inr (.inr hgt))⟩⟩
  have hno : ¬ (vE l a ≠ 0 ∨ vE l (vN l a) ≠ 0 ∨ (l.length : Int) - vN l (vN l a) < vV l (vN l a)) := fun h => h.elim (fun h => h he) (fun h => h.elim (fun h => h he2) hgt)
  refine (par_take h hs hl hlc hc hbP hbR hbM (.iface 138 (.pointer x)) hu h1m hm he (vN l (vN l a)).toNat (vV l (vN l a)).toNat (by omega) (by omega) he2 (by omega)).mono ?_
  rintro e w' ⟨ev, rfl, S', p', m', hT, hR, hm', hg⟩
  refine ⟨ev, rfl, ?_⟩
  have hpl : ((vN l (vN l a)).toNat : Int) + (vV l (vN l a)).toNat = vN l (vN l a) + vV l (vN l a) := by omega
  rw [hpl] at hR
  rcases hT with ⟨k1, rfl, rfl, rfl⟩ | ⟨k1, rfl, ⟨k2, rfl, rfl⟩ | ⟨k, r, k2, k3, ⟨k4, rfl, rfl⟩ | ⟨k4, k5, rfl⟩⟩⟩
  · exact ⟨13, fault_num 13 w' (.inr (.inl rfl)), hg, .inl ⟨by decide, fun f => rdL_13 ha hno k1⟩⟩
  · refine ⟨0, fault_unknown x w', hg, .inr ⟨rfl, _, p', m', _, hR, hm', by omega, by omega, fun f => rdL_on ha hno k1 ?_⟩⟩
    rw [rtk_none (ix_none k2)]
    split <;> rfl
  · have hq := ix_row k2 k3
    obtain ⟨e1, e2, e3⟩ := rowN_tab _ _ _ _ k3
    have hk := row_le e3
    have hro := (rtk_row e3 s (sub l (vN l (vN l a)).toNat (vV l (vN l a)).toNat) p' h.pq.r16).1
    have h5 : s = false ∧ (k = 0 ∨ k = 2 ∨ k = 15) := by
      cases s
      · exact ⟨rfl, e2.1 (by simpa using k4)⟩
      · simp at k4
    refine ⟨11, fault_num 11 w' (.inr (.inr rfl)), hg, .inl ⟨by decide, fun f => rdL_11 ha hno k1 (by rw [hq]; exact hk.1) ?_⟩⟩
    rw [hq]
    exact hro h5
  · have hq := ix_row k2 k3
    obtain ⟨e1, e2, e3⟩ := rowN_tab _ _ _ _ k3
    have hk := row_le e3
    have h5 : ¬ (s = false ∧ (k = 0 ∨ k = 2 ∨ k = 15)) := by
      rintro ⟨rfl, hx⟩
      rw [e2.2 hx] at k4
      cases k4
    obtain ⟨q1, q2⟩ := (rtk_row e3 s (sub l (vN l (vN l a)).toNat (vV l (vN l a)).toNat) p h.pq.r16).2 h5
    cases hok : rdOk k (sub l (vN l (vN l a)).toNat (vV l (vN l a)).toNat) with
    | false =>
      refine ⟨11, fault_num 11 w' (.inr (.inr rfl)), hg, .inl ⟨by decide, fun f => rdL_11 ha hno k1 (by rw [hq]; exact hk.1) ?_⟩⟩
      rw [hq]
      exact q1 hok
    | true =>
      refine ⟨0, fault_nil w', hg, .inr ⟨rfl, _, p', m', _, hR, hm', by omega, by omega, fun f => rdL_on ha hno k1 ?_⟩⟩
      rw [if_pos (by rw [hq]; exact hk.1), hq]
      exact (q2 p' hok k5).1
end
end Go.Proofs.YtcppnellgkbndaaDoor
namespace Go.Proofs.YtcppnellgkbndaaDoor
open Go.ChangeShapes Go.WideShapes Go.ChangeAt Go.RowKit
set_option linter.unusedVariables false
set_option maxRecDepth 100000

theorem res35 {X : World} {g : Nat} {cs : Array Value} (tmps : Array Value) (hp : tmps.getD 8 undef = .pointer (some ⟨g, 0, none⟩)) (hg : X.heap[g]? = some (.cells cs 34 (0, 0))) (hi : (Tryd.prog.info? 34).map (·.size) = some cs.size) : (results Tryd.f35 tmps).run Tryd.prog X = .ok (.tuple #[.agg cs, tmps.getD 9 undef]) X := by
  have hp' : tmps[8]?.getD undef = .pointer (some ⟨g, 0, none⟩) := by simpa using hp
  have hl := run_loadVar_row (P := Tryd.prog) X g 34 34 cs (0, 0) _ hg hu34 rfl hi
  simp [results, hp', asAddr, hl, Result.andThen]
/-- The reference's parameters in block A, the answer's block behind it. -/
structure Te (w : World) (A : Nat) (q : Rq) (X : World) : Prop where
  r : Rr X A q
  z : X.heap[A + 1]? = some (.cells Tryd.zeroCells34 34 (0, 0))
  b : Below w.heap.size w X
  a : A = w.heap.size
theorem Te.new (w : World) (q : Rq) : Te w w.heap.size q ((w.alloc (.cells q.cells.toArray 34)).alloc (.cells Tryd.zeroCells34 34)) := by
  refine ⟨((bel1 (w.alloc (.cells q.cells.toArray 34)) _).block _ (by simp)).trans (heap_alloc_new w _), ?_, bel_trans (bel1 w _) (bel1 _ _), rfl⟩
  have := heap_alloc_new (w.alloc (.cells q.cells.toArray 34)) (.cells Tryd.zeroCells34 34)
  simpa using this
theorem Te.bel {w X Y : World} {A : Nat} {q : Rq} (h : Te w A q X) (hb : Below X.heap.size X Y) : Te w A q Y := ⟨(hb.block A (lt_block (show X.heap[A]? = _ from h.r))).trans h.r, (hb.block _ (lt_block h.z)).trans h.z, bel_trans h.b hb, h.a⟩
theorem Te.set {w X : World} {A : Nat} {q q' : Rq} (h : Te w A q X) (j : Nat) (v : Value) (hr : Rr (X.setCell ⟨A, j, none⟩ v) A q') : Te w A q' (X.setCell ⟨A, j, none⟩ v) :=
  ⟨hr, (h.r.other j v (by omega)).trans h.z, h.r.bel h.b (by rw [h.a]; exact Nat.le_refl _) j v, h.a⟩
/-- What the end wants. -/
structure Tz (w : World) (A : Nat) (D : Array Value) (X : World) : Prop where
  g : X.heap[A]? = some (.cells D 34 (0, 0))
  r : X.heap[A + 1]? = some (.cells Tryd.zeroCells34 34 (0, 0))
  s : (X.setRow (A + 1) D).heap[A + 1]? = some (.cells D 34 (0, 0))
  b : Below w.heap.size w (X.setRow (A + 1) D)
  i : (Tryd.prog.info? 34).map (·.size) = some D.size
  z : Tryd.zeroCells34.size = D.size
  o : D.all (·.oneCell') = true
theorem Te.tz {w X : World} {A : Nat} {q : Rq} (h : Te w A q X) : Tz w A q.cells.toArray X :=
  ⟨h.r, h.z, setRow_heap X _ _ _ 34 (0, 0) h.z, h.b.trans ⟨rfl, rfl, rfl, by simp, fun j hj => setRow_other X _ j _ (by rw [h.a]; omega)⟩, hi34q _, by rw [zQ_eq, Rq.size, Rq.size], q.one⟩
theorem Rq.setHr_cells (q : Rq) (b : Bool) : q.cells.toArray.setIfInBounds 67 (.bool b) = ({ q with hr := b } : Rq).cells.toArray := by
  rw [List.setIfInBounds_toArray]
  congr 1
theorem Rq.setHa_cells (q : Rq) (b : Bool) : q.cells.toArray.setIfInBounds 66 (.bool b) = ({ q with ha := b } : Rq).cells.toArray := by
  rw [List.setIfInBounds_toArray]
  congr 1
theorem Rr.setHr {w : World} {g : Nat} {q : Rq} (h : Rr w g q) (b : Bool) : Rr (w.setCell ⟨g, 67, none⟩ (.bool b)) g { q with hr := b } := by
  show (w.setCell ⟨g, 67, none⟩ (.bool b)).heap[g]? = _
  rw [setCell_eq_setRow w g 67 _ 34 (0, 0) _ h, setRow_heap w g _ _ 34 (0, 0) h, Rq.setHr_cells]
theorem Rr.setHa {w : World} {g : Nat} {q : Rq} (h : Rr w g q) (b : Bool) : Rr (w.setCell ⟨g, 66, none⟩ (.bool b)) g { q with ha := b } := by
  show (w.setCell ⟨g, 66, none⟩ (.bool b)).heap[g]? = _
  rw [setCell_eq_setRow w g 66 _ 34 (0, 0) _ h, setRow_heap w g _ _ 34 (0, 0) h, Rq.setHa_cells]
def TkR (q : Rq) (s : Bool) (k : Int) (X : List UInt8) (w : World) (e : Ending) (w' : World) : Prop :=
  Below w.heap.size w w' ∧ match rtk s q k X with
    | none => e = .returned (.tuple #[.agg q.cells.toArray, .int .i64 11])
    | some q' => e = .returned (.tuple #[.agg q'.cells.toArray, .int .i64 0])
section
variable {q : Rq} {s : Bool} {k : Int} {X : List UInt8}
theorem num_not (hk : k ∈ numsL) : ¬ (k = 0 ∨ k = 2 ∨ k = 16) := by
  have h : (0 : Int) ∉ numsL ∧ (2 : Int) ∉ numsL ∧ (16 : Int) ∉ numsL := by decide
  rintro (rfl | rfl | rfl)
  · exact h.1 hk
  · exact h.2.1 hk
  · exact h.2.2 hk
theorem rtk_num1 (hk : k ∈ numsL) (h : ¬ (vE X 0 = 0 ∧ vN X 0 = (X.length : Int) ∧ mayR k (vV X 0) = true)) : rtk s q k X = none := by
  unfold rtk
  rw [if_neg (fun x => num_not hk x.2), if_pos hk, if_neg h]
theorem rtk_num2 (hk : k ∈ numsL) (h : vE X 0 = 0 ∧ vN X 0 = (X.length : Int) ∧ mayR k (vV X 0) = true) : rtk s q k X = some (q.setN k.toNat (vV X 0)) := by
  unfold rtk
  rw [if_neg (fun x => num_not hk x.2), if_pos hk, if_pos h]
theorem rtk12y (h : X = []) : rtk s q 12 X = some (q.setN 12 1) := by
  subst h
  unfold rtk
  rw [if_neg (by omega), if_neg (by decide), if_pos rfl]
  rfl
theorem rtk12n (h : ¬ X = []) : rtk s q 12 X = none := by
  unfold rtk
  rw [if_neg (by omega), if_neg (by decide), if_pos rfl, if_neg (fun x => h (List.length_eq_zero_iff.1 x))]
theorem rtk2y (h : X.length = 16) : rtk true q 2 X = some { q.setT 2 (bt X) with hr := true } := by
  unfold rtk
  rw [if_neg (by simp), if_neg (by decide), if_neg (by omega), if_pos rfl, if_pos h]
theorem rtk2n (h : ¬ X.length = 16) : rtk true q 2 X = none := by
  unfold rtk
  rw [if_neg (by simp), if_neg (by decide), if_neg (by omega), if_pos rfl, if_neg h]
theorem rtk0y (h : X.length ≤ 20) : rtk true q 0 X = some { q.setT 0 (bt X) with ha := q.ha } := by
  unfold rtk
  rw [if_neg (by simp), if_neg (by decide), if_neg (by omega), if_neg (by omega), if_pos (by omega), if_pos h]
  simp
theorem rtk0n (h : ¬ X.length ≤ 20) : rtk true q 0 X = none := by
  unfold rtk
  rw [if_neg (by simp), if_neg (by decide), if_neg (by omega), if_neg (by omega), if_pos (by omega), if_neg h]
theorem rtk15y (h : X.length ≤ 20) : rtk s q 15 X = some { q.setT 15 (bt X) with ha := q.ha } := by
  unfold rtk
  rw [if_neg (by omega), if_neg (by decide), if_neg (by omega), if_neg (by omega), if_pos (by omega), if_pos h]
  simp
theorem rtk15n (h : ¬ X.length ≤ 20) : rtk s q 15 X = none := by
  unfold rtk
  rw [if_neg (by omega), if_neg (by decide), if_neg (by omega), if_neg (by omega), if_pos (by omega), if_neg h]
theorem rtk16y (h : X.length ≤ 20) : rtk true q 16 X = some { q.setT 16 (bt X) with ha := true } := by
  unfold rtk
  rw [if_neg (by simp), if_neg (by decide), if_neg (by omega), if_neg (by omega), if_pos (by omega), if_pos h]
  simp
theorem rtk16n (h : ¬ X.length ≤ 20) : rtk true q 16 X = none := by
  unfold rtk
  rw [if_neg (by simp), if_neg (by decide), if_neg (by omega), if_neg (by omega), if_pos (by omega), if_neg h]
/-- '[]byte(s)'. -/
theorem conv_text (X : List UInt8) (hX : X.length ≤ 140737488351232) (Y : World) : ∃ cp W', (convert 9 22 (.string (bt X))).run Tryd.prog Y = .ok (.slice (some ⟨Y.heap.size, 0, none⟩) X.length cp) W' ∧ Below Y.heap.size Y W' ∧ Sl W' (some ⟨Y.heap.size, 0, none⟩) X ∧ X.length ≤ cp ∧ cp ≤ 9223372036854775807 := by
  have hsz := bt_size X
  have hdt : (bt X).data.toList = X := rfl
  have h := Go.Lib.run_convert_string_bytes Y 9 22 5 (bt X) Tryd.underlying9 Tryd.underlying22 Tryd.underlying5
  rw [hsz] at h
  have hge := grownCap_ge Y X.length 0 5
  have hle := grownCap_le_maxLen Y X.length 0 5 (by unfold maxLen; omega)
  refine ⟨_, Go.Lib.bytesWorld Y 5 (bt X), h, ⟨rfl, rfl, rfl, by rw [Go.Lib.bytesWorld_size]; omega, fun k hk => Go.Lib.bytesWorld_at_old Y 5 _ k hk⟩, fun j hj => ⟨Y.heap.size, 0, rfl, ?_⟩, by omega, by unfold maxLen at hle; omega⟩
  rw [Nat.zero_add, Go.Lib.bytesWorld_cell Y 5 (bt X) j (by omega)]
  simp only [hdt, List.getD_eq_getElem?_getD, List.getElem?_eq_getElem hj, Option.getD_some]
end
set_option maxHeartbeats 1000000 in
theorem rtake_srv (q : Rq) (s : Bool) (k : Int) (X : List UInt8) (w : World) (hs : s = false) (hk : k = 0 ∨ k = 2 ∨ k = 16) : Calls Tryd.prog 35 #[.agg q.cells.toArray, .int .i64 k, .string (bt X), .bool s] w (TkR q s k X w) := by
  obtain ⟨W1, hW1⟩ : ∃ W1, ((w.alloc (.cells q.cells.toArray 34)).alloc (.cells Tryd.zeroCells34 34)) = W1 := ⟨_, rfl⟩
  have HT : Aside (Te w w.heap.size q W1) := by show Te _ _ _ _; rw [← hW1]; exact Te.new w q
  obtain ⟨D, hD⟩ : ∃ D, (q).cells.toArray = D := ⟨_, rfl⟩
  have HZ : Aside (Tz w w.heap.size D W1) := by show Tz _ _ D _; rw [← hD]; exact (HT.out).tz
  have HF : Aside (∀ w', Below w.heap.size w w' → TkR q s k X w (.returned (.tuple #[.agg D, .int .i64 11])) w') := fun w' hb => ⟨hb, by
    have hE : rtk s q k X = none := by unfold rtk; rw [if_pos ⟨hs, hk⟩]
    rw [hE, ← hD]⟩
  generalize TkR q s k X w = RR at *
  subst hs
  clear hD HT
  generalize q.cells.toArray = cs at *
  rcases hk with rfl | rfl | rfl
  all_goals
    go_enter Tryd.func35, Tryd.ntmps35
    go_wp2_with (first
      | (refine wpList_load_row rfl 34 (.tmp 4) rfl w.heap.size rfl 34 _ (0, 0) _ HZ.out.g hu34 rfl HZ.out.i ?_)
      | (refine wpList_store_row rfl 34 (.tmp 8) (.tmp 27) rfl (w.heap.size + 1) D rfl rfl 34 _ HZ.out.r HZ.out.i HZ.out.z HZ.out.o ?_))
    refine bodyPost_ret (res35 _ rfl HZ.out.s HZ.out.i) rfl ?_
    exact HF.out _ HZ.out.b
set_option maxHeartbeats 1000000 in
theorem rtake_oth (q : Rq) (s : Bool) (k : Int) (X : List UInt8) (w : World) (hk : ¬ (k = 0 ∨ k = 2 ∨ k = 12 ∨ k = 15 ∨ k = 16)) (hn : k ∉ numsL) : Calls Tryd.prog 35 #[.agg q.cells.toArray, .int .i64 k, .string (bt X), .bool s] w (TkR q s k X w) := by
  obtain ⟨W1, hW1⟩ : ∃ W1, ((w.alloc (.cells q.cells.toArray 34)).alloc (.cells Tryd.zeroCells34 34)) = W1 := ⟨_, rfl⟩
  have HT : Aside (Te w w.heap.size q W1) := by show Te _ _ _ _; rw [← hW1]; exact Te.new w q
  have HN : Aside (∀ X, Calls Tryd.prog 22 #[.int .i64 k] X fun e w' => e = .returned (.bool false) ∧ Below X.heap.size X w') := fun X => by
    have := isNumber_c k X
    rwa [show decide (k ∈ numsL) = false from decide_eq_false hn] at this
  have n0 : (k == 0) = false := by simp; omega
  have n2 : (k == 2) = false := by simp; omega
  have n16 : (k == 16) = false := by simp; omega
  have n12 : (k == 12) = false := by simp; omega
  have n15 : (k == 15) = false := by simp; omega
  have m0 : ¬ k = 0 := by omega
  have m2 : ¬ k = 2 := by omega
  have m16 : ¬ k = 16 := by omega
  have m12 : ¬ k = 12 := by omega
  have m15 : ¬ k = 15 := by omega
  have HE : Aside (rtk s q k X = some q) := by
    show rtk s q k X = some q
    unfold rtk
    rw [if_neg (by omega), if_neg hn, if_neg m12, if_neg m2, if_neg (by omega)]
  clear hk hn
  obtain ⟨cs, hcs⟩ : ∃ cs, q.cells.toArray = cs := ⟨_, rfl⟩
  have HCS : Aside (q.cells.toArray = cs) := hcs
  have HF : Aside (∀ w', Below w.heap.size w w' → TkR q s k X w (.returned (.tuple #[.agg cs, .int .i64 0])) w') := fun w' hb => ⟨hb, by rw [HE.out]; show _ = _; rw [HCS.out]⟩
  rw [hcs] at hW1
  rw [hcs]
  clear hcs
  generalize TkR q s k X w = RR at *
  cases s
  all_goals
    go_enter Tryd.func35, Tryd.ntmps35
    go_wp2_with fail
    refine Calls.mono (HN.out _) ?_
    rintro e W2 ⟨rfl, hb2⟩
    have HT2 : Aside (Te w w.heap.size q W2) := (HT.out).bel hb2
    clear hb2 HN
    have HZ : Aside (Tz w w.heap.size cs W2) := by show Tz _ _ _ _; rw [← HCS.out]; exact HT2.out.tz
    clear HT2 HT HCS
    go_wp2_with (first
      | (refine wpList_load_row rfl 34 (.tmp 4) rfl w.heap.size rfl 34 _ (0, 0) _ HZ.out.g hu34 rfl HZ.out.i ?_)
      | (refine wpList_store_row rfl 34 (.tmp 8) (.tmp 102) rfl (w.heap.size + 1) cs rfl rfl 34 _ HZ.out.r HZ.out.i HZ.out.z HZ.out.o ?_))
    refine bodyPost_ret (res35 _ rfl HZ.out.s HZ.out.i) rfl ?_
    exact HF.out _ HZ.out.b
set_option maxHeartbeats 1000000 in
theorem rtake_12y (q : Rq) (s : Bool) (k : Int) (X : List UInt8) (w : World) (hk : k = 12) (hX : X = []) : Calls Tryd.prog 35 #[.agg q.cells.toArray, .int .i64 k, .string (bt X), .bool s] w (TkR q s k X w) := by
  subst hk
  obtain ⟨W1, hW1⟩ : ∃ W1, ((w.alloc (.cells q.cells.toArray 34)).alloc (.cells Tryd.zeroCells34 34)) = W1 := ⟨_, rfl⟩
  have HT : Aside (Te w w.heap.size q W1) := by show Te _ _ _ _; rw [← hW1]; exact Te.new w q
  have HN : Aside (∀ X, Calls Tryd.prog 22 #[.int .i64 12] X fun e w' => e = .returned (.bool false) ∧ Below X.heap.size X w') := fun X => by
    have := isNumber_c 12 X
    rwa [show decide ((12 : Int) ∈ numsL) = false from by decide] at this
  obtain ⟨D, hD⟩ : ∃ D, (q.setN 12 1).cells.toArray = D := ⟨_, rfl⟩
  have HD : Aside ((q.setN 12 1).cells.toArray = D) := hD
  have HF : Aside (∀ w', Below w.heap.size w w' → TkR q s 12 X w (.returned (.tuple #[.agg D, .int .i64 0])) w') := fun w' hb => ⟨hb, by
    have hE : rtk s q 12 X = some (q.setN 12 1) := rtk12y hX
    rw [hE]
    show _ = _
    rw [HD.out]⟩
  clear hD
  have hv : (bt X).toList = [] := by rw [bt_list]; exact hX
  have hve : (bt X).toList.isEmpty = true := by rw [bt_list]; simpa using hX
  clear hX
  generalize bt X = V at *
  generalize TkR q s 12 X w = RR at *
  obtain ⟨cs, hcs⟩ : ∃ cs, q.cells.toArray = cs := ⟨_, rfl⟩
  have HCS : Aside (q.cells.toArray = cs) := hcs
  rw [hcs] at hW1
  rw [hcs]
  clear hcs
  cases s
  all_goals
    go_enter Tryd.func35, Tryd.ntmps35
    go_wp2_with fail
    refine Calls.mono (HN.out _) ?_
    rintro e W2 ⟨rfl, hb2⟩
    have HT2 : Aside (Te w w.heap.size q W2) := (HT.out).bel hb2
    clear hb2 HN
    obtain ⟨X3, hX3⟩ : ∃ X3, W2.setCell ⟨w.heap.size, 12, none⟩ (.int .i64 1) = X3 := ⟨_, rfl⟩
    have HT3 : Aside (Te w w.heap.size (q.setN 12 1) X3) := by show Te _ _ _ _; rw [← hX3]; exact HT2.out.set _ _ (HT2.out.r.setN 12 1 (by decide))
    have f12 := HT2.out.r.frozen 12
    have k12 := HT2.out.r.rc.n 12 (by decide)
    have HZ : Aside (Tz w w.heap.size D X3) := by show Tz _ _ D _; rw [← HD.out]; exact HT3.out.tz
    clear HT3 HT2
    go_wp2_with (first
      | (refine wpList_load_row rfl 34 (.tmp 4) rfl w.heap.size rfl 34 _ (0, 0) _ HZ.out.g hu34 rfl HZ.out.i ?_)
      | (refine wpList_store_row rfl 34 (.tmp 8) (.tmp 102) rfl (w.heap.size + 1) D rfl rfl 34 _ HZ.out.r HZ.out.i HZ.out.z HZ.out.o ?_))
    refine bodyPost_ret (res35 _ rfl HZ.out.s HZ.out.i) rfl ?_
    exact HF.out _ HZ.out.b
set_option maxHeartbeats 1000000 in
theorem rtake_12n (q : Rq) (s : Bool) (k : Int) (X : List UInt8) (w : World) (hk : k = 12) (hX : ¬ X = []) : Calls Tryd.prog 35 #[.agg q.cells.toArray, .int .i64 k, .string (bt X), .bool s] w (TkR q s k X w) := by
  subst hk
  obtain ⟨W1, hW1⟩ : ∃ W1, ((w.alloc (.cells q.cells.toArray 34)).alloc (.cells Tryd.zeroCells34 34)) = W1 := ⟨_, rfl⟩
  have HT : Aside (Te w w.heap.size q W1) := by show Te _ _ _ _; rw [← hW1]; exact Te.new w q
  have HN : Aside (∀ X, Calls Tryd.prog 22 #[.int .i64 12] X fun e w' => e = .returned (.bool false) ∧ Below X.heap.size X w') := fun X => by
    have := isNumber_c 12 X
    rwa [show decide ((12 : Int) ∈ numsL) = false from by decide] at this
  obtain ⟨D, hD⟩ : ∃ D, (q).cells.toArray = D := ⟨_, rfl⟩
  have HD : Aside ((q).cells.toArray = D) := hD
  have HF : Aside (∀ w', Below w.heap.size w w' → TkR q s 12 X w (.returned (.tuple #[.agg D, .int .i64 11])) w') := fun w' hb => ⟨hb, by
    have hE : rtk s q 12 X = none := rtk12n hX
    rw [hE]
    show _ = _
    rw [HD.out]⟩
  clear hD
  have hv : ¬ (bt X).toList = [] := by rw [bt_list]; exact hX
  have hve : (bt X).toList.isEmpty = false := by rw [bt_list]; simpa using hX
  clear hX
  generalize bt X = V at *
  generalize TkR q s 12 X w = RR at *
  obtain ⟨cs, hcs⟩ : ∃ cs, q.cells.toArray = cs := ⟨_, rfl⟩
  have HCS : Aside (q.cells.toArray = cs) := hcs
  rw [hcs] at hW1
  rw [hcs]
  clear hcs
  cases s
  all_goals
    go_enter Tryd.func35, Tryd.ntmps35
    go_wp2_with fail
    refine Calls.mono (HN.out _) ?_
    rintro e W2 ⟨rfl, hb2⟩
    have HT2 : Aside (Te w w.heap.size q W2) := (HT.out).bel hb2
    clear hb2 HN
    have HT3 : Aside (Te w w.heap.size q W2) := HT2.out
    have HZ : Aside (Tz w w.heap.size D W2) := by show Tz _ _ D _; rw [← HD.out]; exact HT3.out.tz
    clear HT3 HT2
    go_wp2_with (first
      | (refine wpList_load_row rfl 34 (.tmp 4) rfl w.heap.size rfl 34 _ (0, 0) _ HZ.out.g hu34 rfl HZ.out.i ?_)
      | (refine wpList_store_row rfl 34 (.tmp 8) (.tmp 62) rfl (w.heap.size + 1) D rfl rfl 34 _ HZ.out.r HZ.out.i HZ.out.z HZ.out.o ?_))
    refine bodyPost_ret (res35 _ rfl HZ.out.s HZ.out.i) rfl ?_
    exact HF.out _ HZ.out.b
set_option maxHeartbeats 1000000 in
theorem rtake_2y (q : Rq) (s : Bool) (k : Int) (X : List UInt8) (w : World) (hk : k = 2) (hs : s = true) (hX : X.length = 16) : Calls Tryd.prog 35 #[.agg q.cells.toArray, .int .i64 k, .string (bt X), .bool s] w (TkR q s k X w) := by
  subst hk
  subst hs
  obtain ⟨W1, hW1⟩ : ∃ W1, ((w.alloc (.cells q.cells.toArray 34)).alloc (.cells Tryd.zeroCells34 34)) = W1 := ⟨_, rfl⟩
  have HT : Aside (Te w w.heap.size q W1) := by show Te _ _ _ _; rw [← hW1]; exact Te.new w q
  have HN : Aside (∀ X, Calls Tryd.prog 22 #[.int .i64 2] X fun e w' => e = .returned (.bool false) ∧ Below X.heap.size X w') := fun X => by
    have := isNumber_c 2 X
    rwa [show decide ((2 : Int) ∈ numsL) = false from by decide] at this
  obtain ⟨D, hD⟩ : ∃ D, ({ q.setT 2 (bt X) with hr := true }).cells.toArray = D := ⟨_, rfl⟩
  have HD : Aside (({ q.setT 2 (bt X) with hr := true }).cells.toArray = D) := hD
  have HF : Aside (∀ w', Below w.heap.size w w' → TkR q true 2 X w (.returned (.tuple #[.agg D, .int .i64 0])) w') := fun w' hb => ⟨hb, by
    have hE : rtk true q 2 X = some ({ q.setT 2 (bt X) with hr := true }) := rtk2y hX
    rw [hE]
    show _ = _
    rw [HD.out]⟩
  clear hD
  have hv : ((bt X).size : Int) = X.length := by rw [bt_size]
  have hv2 : ((X.length : Int) == 16) = true := by simp; omega
  have hv3 : (X.length : Int) = 16 := by omega
  clear hX
  generalize TkR q true 2 X w = RR at *
  generalize (X.length : Int) = n at *
  generalize bt X = V at *
  obtain ⟨cs, hcs⟩ : ∃ cs, q.cells.toArray = cs := ⟨_, rfl⟩
  have HCS : Aside (q.cells.toArray = cs) := hcs
  rw [hcs] at hW1
  rw [hcs]
  clear hcs
  go_enter Tryd.func35, Tryd.ntmps35
  go_wp2_with fail
  refine Calls.mono (HN.out _) ?_
  rintro e W2 ⟨rfl, hb2⟩
  have HT2 : Aside (Te w w.heap.size q W2) := (HT.out).bel hb2
  clear hb2 HN
  obtain ⟨X3, hX3⟩ : ∃ X3, (W2.setCell ⟨w.heap.size, 35, none⟩ (.string V)).setCell ⟨w.heap.size, 67, none⟩ (.bool true) = X3 := ⟨_, rfl⟩
  have hT3 : Te w w.heap.size (q.setT 2 V) (W2.setCell ⟨w.heap.size, 35, none⟩ (.string V)) := HT2.out.set _ _ (HT2.out.r.setT 2 V (by decide))
  have HT3 : Aside (Te w w.heap.size { q.setT 2 V with hr := true } X3) := by show Te _ _ _ _; rw [← hX3]; exact hT3.set _ _ (hT3.r.setHr true)
  have f35 := HT2.out.r.frozen 35
  have k35 : W2.cell? ⟨w.heap.size, 35, none⟩ = _ := HT2.out.r.rc.t 2 (by decide)
  have f67 := hT3.r.frozen 67
  have k67 := hT3.r.rc.r
  clear hT3
  have HZ : Aside (Tz w w.heap.size D X3) := by show Tz _ _ D _; rw [← HD.out]; exact HT3.out.tz
  clear HT3 HT2
  go_wp2_with (first
    | (refine wpList_load_row rfl 34 (.tmp 4) rfl w.heap.size rfl 34 _ (0, 0) _ HZ.out.g hu34 rfl HZ.out.i ?_)
    | (refine wpList_store_row rfl 34 (.tmp 8) (.tmp 102) rfl (w.heap.size + 1) D rfl rfl 34 _ HZ.out.r HZ.out.i HZ.out.z HZ.out.o ?_))
  refine bodyPost_ret (res35 _ rfl HZ.out.s HZ.out.i) rfl ?_
  exact HF.out _ HZ.out.b
set_option maxHeartbeats 1000000 in
theorem rtake_2n (q : Rq) (s : Bool) (k : Int) (X : List UInt8) (w : World) (hk : k = 2) (hs : s = true) (hX : ¬ X.length = 16) : Calls Tryd.prog 35 #[.agg q.cells.toArray, .int .i64 k, .string (bt X), .bool s] w (TkR q s k X w) := by
  subst hk
  subst hs
  obtain ⟨W1, hW1⟩ : ∃ W1, ((w.alloc (.cells q.cells.toArray 34)).alloc (.cells Tryd.zeroCells34 34)) = W1 := ⟨_, rfl⟩
  have HT : Aside (Te w w.heap.size q W1) := by show Te _ _ _ _; rw [← hW1]; exact Te.new w q
  have HN : Aside (∀ X, Calls Tryd.prog 22 #[.int .i64 2] X fun e w' => e = .returned (.bool false) ∧ Below X.heap.size X w') := fun X => by
    have := isNumber_c 2 X
    rwa [show decide ((2 : Int) ∈ numsL) = false from by decide] at this
  obtain ⟨D, hD⟩ : ∃ D, (q).cells.toArray = D := ⟨_, rfl⟩
  have HD : Aside ((q).cells.toArray = D) := hD
  have HF : Aside (∀ w', Below w.heap.size w w' → TkR q true 2 X w (.returned (.tuple #[.agg D, .int .i64 11])) w') := fun w' hb => ⟨hb, by
    have hE : rtk true q 2 X = none := rtk2n hX
    rw [hE]
    show _ = _
    rw [HD.out]⟩
  clear hD
  have hv : ((bt X).size : Int) = X.length := by rw [bt_size]
  have hv2 : ((X.length : Int) == 16) = false := by simp; omega
  have hv3 : ¬ (X.length : Int) = 16 := by omega
  clear hX
  generalize TkR q true 2 X w = RR at *
  generalize (X.length : Int) = n at *
  generalize bt X = V at *
  obtain ⟨cs, hcs⟩ : ∃ cs, q.cells.toArray = cs := ⟨_, rfl⟩
  have HCS : Aside (q.cells.toArray = cs) := hcs
  rw [hcs] at hW1
  rw [hcs]
  clear hcs
  go_enter Tryd.func35, Tryd.ntmps35
  go_wp2_with fail
  refine Calls.mono (HN.out _) ?_
  rintro e W2 ⟨rfl, hb2⟩
  have HT2 : Aside (Te w w.heap.size q W2) := (HT.out).bel hb2
  clear hb2 HN
  have HT3 : Aside (Te w w.heap.size q W2) := HT2.out
  have HZ : Aside (Tz w w.heap.size D W2) := by show Tz _ _ D _; rw [← HD.out]; exact HT3.out.tz
  clear HT3 HT2
  go_wp2_with (first
    | (refine wpList_load_row rfl 34 (.tmp 4) rfl w.heap.size rfl 34 _ (0, 0) _ HZ.out.g hu34 rfl HZ.out.i ?_)
    | (refine wpList_store_row rfl 34 (.tmp 8) (.tmp 71) rfl (w.heap.size + 1) D rfl rfl 34 _ HZ.out.r HZ.out.i HZ.out.z HZ.out.o ?_))
  refine bodyPost_ret (res35 _ rfl HZ.out.s HZ.out.i) rfl ?_
  exact HF.out _ HZ.out.b
set_option maxHeartbeats 1000000 in
theorem rtake_0y (q : Rq) (s : Bool) (k : Int) (X : List UInt8) (w : World) (hk : k = 0) (hs : s = true) (hX : X.length ≤ 20) : Calls Tryd.prog 35 #[.agg q.cells.toArray, .int .i64 k, .string (bt X), .bool s] w (TkR q s k X w) := by
  subst hk
  subst hs
  obtain ⟨W1, hW1⟩ : ∃ W1, ((w.alloc (.cells q.cells.toArray 34)).alloc (.cells Tryd.zeroCells34 34)) = W1 := ⟨_, rfl⟩
  have HT : Aside (Te w w.heap.size q W1) := by show Te _ _ _ _; rw [← hW1]; exact Te.new w q
  have HN : Aside (∀ X, Calls Tryd.prog 22 #[.int .i64 0] X fun e w' => e = .returned (.bool false) ∧ Below X.heap.size X w') := fun X => by
    have := isNumber_c 0 X
    rwa [show decide ((0 : Int) ∈ numsL) = false from by decide] at this
  obtain ⟨D, hD⟩ : ∃ D, ({ q.setT 0 (bt X) with ha := q.ha }).cells.toArray = D := ⟨_, rfl⟩
  have HD : Aside (({ q.setT 0 (bt X) with ha := q.ha }).cells.toArray = D) := hD
  have HF : Aside (∀ w', Below w.heap.size w w' → TkR q true 0 X w (.returned (.tuple #[.agg D, .int .i64 0])) w') := fun w' hb => ⟨hb, by
    have hE : rtk true q 0 X = some ({ q.setT 0 (bt X) with ha := q.ha }) := rtk0y hX
    rw [hE]
    show _ = _
    rw [HD.out]⟩
  clear hD
  have hv : ((bt X).size : Int) = X.length := by rw [bt_size]
  have hv2 : ¬ (20 : Int) < (X.length : Int) := by omega
  clear hX
  generalize TkR q true 0 X w = RR at *
  generalize (X.length : Int) = n at *
  generalize bt X = V at *
  obtain ⟨HA, hHA⟩ : ∃ HA, q.ha = HA := ⟨_, rfl⟩
  rw [hHA] at HD
  obtain ⟨cs, hcs⟩ : ∃ cs, q.cells.toArray = cs := ⟨_, rfl⟩
  have HCS : Aside (q.cells.toArray = cs) := hcs
  rw [hcs] at hW1
  rw [hcs]
  clear hcs
  all_goals
    cases HA
    case false =>
      go_enter Tryd.func35, Tryd.ntmps35
      go_wp2_with fail
      refine Calls.mono (HN.out _) ?_
      rintro e W2 ⟨rfl, hb2⟩
      have HT2 : Aside (Te w w.heap.size q W2) := (HT.out).bel hb2
      clear hb2 HN
      obtain ⟨X3, hX3⟩ : ∃ X3, (W2.setCell ⟨w.heap.size, 33, none⟩ (.string V)).setCell ⟨w.heap.size, 66, none⟩ (.bool false) = X3 := ⟨_, rfl⟩
      have hT3 : Te w w.heap.size (q.setT 0 V) (W2.setCell ⟨w.heap.size, 33, none⟩ (.string V)) := HT2.out.set _ _ (HT2.out.r.setT 0 V (by decide))
      have HT3 : Aside (Te w w.heap.size { q.setT 0 V with ha := false } X3) := by show Te _ _ _ _; rw [← hX3]; exact hT3.set _ _ (hT3.r.setHa false)
      have f35 := HT2.out.r.frozen 33
      have k35 : W2.cell? ⟨w.heap.size, 33, none⟩ = _ := HT2.out.r.rc.t 0 (by decide)
      have f67 := hT3.r.frozen 66
      have k67 := hT3.r.rc.a
      rw [show (q.setT 0 V).ha = false from hHA] at k67
      clear hT3
      have HZ : Aside (Tz w w.heap.size D X3) := by show Tz _ _ D _; rw [← HD.out]; exact HT3.out.tz
      clear HT3 HT2
      go_wp2_with (first
        | (refine wpList_load_row rfl 34 (.tmp 4) rfl w.heap.size rfl 34 _ (0, 0) _ HZ.out.g hu34 rfl HZ.out.i ?_)
        | (refine wpList_store_row rfl 34 (.tmp 8) (.tmp 102) rfl (w.heap.size + 1) D rfl rfl 34 _ HZ.out.r HZ.out.i HZ.out.z HZ.out.o ?_))
      refine bodyPost_ret (res35 _ rfl HZ.out.s HZ.out.i) rfl ?_
      exact HF.out _ HZ.out.b
    case true =>
      go_enter Tryd.func35, Tryd.ntmps35
      go_wp2_with fail
      refine Calls.mono (HN.out _) ?_
      rintro e W2 ⟨rfl, hb2⟩
      have HT2 : Aside (Te w w.heap.size q W2) := (HT.out).bel hb2
      clear hb2 HN
      obtain ⟨X3, hX3⟩ : ∃ X3, (W2.setCell ⟨w.heap.size, 33, none⟩ (.string V)).setCell ⟨w.heap.size, 66, none⟩ (.bool true) = X3 := ⟨_, rfl⟩
      have hT3 : Te w w.heap.size (q.setT 0 V) (W2.setCell ⟨w.heap.size, 33, none⟩ (.string V)) := HT2.out.set _ _ (HT2.out.r.setT 0 V (by decide))
      have HT3 : Aside (Te w w.heap.size { q.setT 0 V with ha := true } X3) := by show Te _ _ _ _; rw [← hX3]; exact hT3.set _ _ (hT3.r.setHa true)
      have f35 := HT2.out.r.frozen 33
      have k35 : W2.cell? ⟨w.heap.size, 33, none⟩ = _ := HT2.out.r.rc.t 0 (by decide)
      have f67 := hT3.r.frozen 66
      have k67 := hT3.r.rc.a
      rw [show (q.setT 0 V).ha = true from hHA] at k67
      clear hT3
      have HZ : Aside (Tz w w.heap.size D X3) := by show Tz _ _ D _; rw [← HD.out]; exact HT3.out.tz
      clear HT3 HT2
      go_wp2_with (first
        | (refine wpList_load_row rfl 34 (.tmp 4) rfl w.heap.size rfl 34 _ (0, 0) _ HZ.out.g hu34 rfl HZ.out.i ?_)
        | (refine wpList_store_row rfl 34 (.tmp 8) (.tmp 102) rfl (w.heap.size + 1) D rfl rfl 34 _ HZ.out.r HZ.out.i HZ.out.z HZ.out.o ?_))
      refine bodyPost_ret (res35 _ rfl HZ.out.s HZ.out.i) rfl ?_
      exact HF.out _ HZ.out.b
set_option maxHeartbeats 1000000 in
theorem rtake_0n (q : Rq) (s : Bool) (k : Int) (X : List UInt8) (w : World) (hk : k = 0) (hs : s = true) (hX : ¬ X.length ≤ 20) : Calls Tryd.prog 35 #[.agg q.cells.toArray, .int .i64 k, .string (bt X), .bool s] w (TkR q s k X w) := by
  subst hk
  subst hs
  obtain ⟨W1, hW1⟩ : ∃ W1, ((w.alloc (.cells q.cells.toArray 34)).alloc (.cells Tryd.zeroCells34 34)) = W1 := ⟨_, rfl⟩
  have HT : Aside (Te w w.heap.size q W1) := by show Te _ _ _ _; rw [← hW1]; exact Te.new w q
  have HN : Aside (∀ X, Calls Tryd.prog 22 #[.int .i64 0] X fun e w' => e = .returned (.bool false) ∧ Below X.heap.size X w') := fun X => by
    have := isNumber_c 0 X
    rwa [show decide ((0 : Int) ∈ numsL) = false from by decide] at this
  obtain ⟨D, hD⟩ : ∃ D, (q).cells.toArray = D := ⟨_, rfl⟩
  have HD : Aside ((q).cells.toArray = D) := hD
  have HF : Aside (∀ w', Below w.heap.size w w' → TkR q true 0 X w (.returned (.tuple #[.agg D, .int .i64 11])) w') := fun w' hb => ⟨hb, by
    have hE : rtk true q 0 X = none := rtk0n hX
    rw [hE]
    show _ = _
    rw [HD.out]⟩
  clear hD
  have hv : ((bt X).size : Int) = X.length := by rw [bt_size]
  have hv2 : (20 : Int) < (X.length : Int) := by omega
  clear hX
  generalize TkR q true 0 X w = RR at *
  generalize (X.length : Int) = n at *
  generalize bt X = V at *
  obtain ⟨HA, hHA⟩ : ∃ HA, q.ha = HA := ⟨_, rfl⟩
  obtain ⟨cs, hcs⟩ : ∃ cs, q.cells.toArray = cs := ⟨_, rfl⟩
  have HCS : Aside (q.cells.toArray = cs) := hcs
  rw [hcs] at hW1
  rw [hcs]
  clear hcs
  go_enter Tryd.func35, Tryd.ntmps35
  go_wp2_with fail
  refine Calls.mono (HN.out _) ?_
  rintro e W2 ⟨rfl, hb2⟩
  have HT2 : Aside (Te w w.heap.size q W2) := (HT.out).bel hb2
  clear hb2 HN
  have HT3 : Aside (Te w w.heap.size q W2) := HT2.out
  have HZ : Aside (Tz w w.heap.size D W2) := by show Tz _ _ D _; rw [← HD.out]; exact HT3.out.tz
  clear HT3 HT2
  go_wp2_with (first
    | (refine wpList_load_row rfl 34 (.tmp 4) rfl w.heap.size rfl 34 _ (0, 0) _ HZ.out.g hu34 rfl HZ.out.i ?_)
    | (refine wpList_store_row rfl 34 (.tmp 8) (.tmp 90) rfl (w.heap.size + 1) D rfl rfl 34 _ HZ.out.r HZ.out.i HZ.out.z HZ.out.o ?_))
  refine bodyPost_ret (res35 _ rfl HZ.out.s HZ.out.i) rfl ?_
  exact HF.out _ HZ.out.b
set_option maxHeartbeats 1000000 in
theorem rtake_15y (q : Rq) (s : Bool) (k : Int) (X : List UInt8) (w : World) (hk : k = 15) (hX : X.length ≤ 20) : Calls Tryd.prog 35 #[.agg q.cells.toArray, .int .i64 k, .string (bt X), .bool s] w (TkR q s k X w) := by
  subst hk
  obtain ⟨W1, hW1⟩ : ∃ W1, ((w.alloc (.cells q.cells.toArray 34)).alloc (.cells Tryd.zeroCells34 34)) = W1 := ⟨_, rfl⟩
  have HT : Aside (Te w w.heap.size q W1) := by show Te _ _ _ _; rw [← hW1]; exact Te.new w q
  have HN : Aside (∀ X, Calls Tryd.prog 22 #[.int .i64 15] X fun e w' => e = .returned (.bool false) ∧ Below X.heap.size X w') := fun X => by
    have := isNumber_c 15 X
    rwa [show decide ((15 : Int) ∈ numsL) = false from by decide] at this
  obtain ⟨D, hD⟩ : ∃ D, ({ q.setT 15 (bt X) with ha := q.ha }).cells.toArray = D := ⟨_, rfl⟩
  have HD : Aside (({ q.setT 15 (bt X) with ha := q.ha }).cells.toArray = D) := hD
  have HF : Aside (∀ w', Below w.heap.size w w' → TkR q s 15 X w (.returned (.tuple #[.agg D, .int .i64 0])) w') := fun w' hb => ⟨hb, by
    have hE : rtk s q 15 X = some ({ q.setT 15 (bt X) with ha := q.ha }) := rtk15y hX
    rw [hE]
    show _ = _
    rw [HD.out]⟩
  clear hD
  have hv : ((bt X).size : Int) = X.length := by rw [bt_size]
  have hv2 : ¬ (20 : Int) < (X.length : Int) := by omega
  clear hX
  generalize TkR q s 15 X w = RR at *
  generalize (X.length : Int) = n at *
  generalize bt X = V at *
  obtain ⟨HA, hHA⟩ : ∃ HA, q.ha = HA := ⟨_, rfl⟩
  rw [hHA] at HD
  obtain ⟨cs, hcs⟩ : ∃ cs, q.cells.toArray = cs := ⟨_, rfl⟩
  have HCS : Aside (q.cells.toArray = cs) := hcs
  rw [hcs] at hW1
  rw [hcs]
  clear hcs
  cases s
  all_goals
    cases HA
    case false =>
      go_enter Tryd.func35, Tryd.ntmps35
      go_wp2_with fail
      refine Calls.mono (HN.out _) ?_
      rintro e W2 ⟨rfl, hb2⟩
      have HT2 : Aside (Te w w.heap.size q W2) := (HT.out).bel hb2
      clear hb2 HN
      obtain ⟨X3, hX3⟩ : ∃ X3, (W2.setCell ⟨w.heap.size, 48, none⟩ (.string V)).setCell ⟨w.heap.size, 66, none⟩ (.bool false) = X3 := ⟨_, rfl⟩
      have hT3 : Te w w.heap.size (q.setT 15 V) (W2.setCell ⟨w.heap.size, 48, none⟩ (.string V)) := HT2.out.set _ _ (HT2.out.r.setT 15 V (by decide))
      have HT3 : Aside (Te w w.heap.size { q.setT 15 V with ha := false } X3) := by show Te _ _ _ _; rw [← hX3]; exact hT3.set _ _ (hT3.r.setHa false)
      have f35 := HT2.out.r.frozen 48
      have k35 : W2.cell? ⟨w.heap.size, 48, none⟩ = _ := HT2.out.r.rc.t 15 (by decide)
      have f67 := hT3.r.frozen 66
      have k67 := hT3.r.rc.a
      rw [show (q.setT 15 V).ha = false from hHA] at k67
      clear hT3
      have HZ : Aside (Tz w w.heap.size D X3) := by show Tz _ _ D _; rw [← HD.out]; exact HT3.out.tz
      clear HT3 HT2
      go_wp2_with (first
        | (refine wpList_load_row rfl 34 (.tmp 4) rfl w.heap.size rfl 34 _ (0, 0) _ HZ.out.g hu34 rfl HZ.out.i ?_)
        | (refine wpList_store_row rfl 34 (.tmp 8) (.tmp 102) rfl (w.heap.size + 1) D rfl rfl 34 _ HZ.out.r HZ.out.i HZ.out.z HZ.out.o ?_))
      refine bodyPost_ret (res35 _ rfl HZ.out.s HZ.out.i) rfl ?_
      exact HF.out _ HZ.out.b
    case true =>
      go_enter Tryd.func35, Tryd.ntmps35
      go_wp2_with fail
      refine Calls.mono (HN.out _) ?_
      rintro e W2 ⟨rfl, hb2⟩
      have HT2 : Aside (Te w w.heap.size q W2) := (HT.out).bel hb2
      clear hb2 HN
      obtain ⟨X3, hX3⟩ : ∃ X3, (W2.setCell ⟨w.heap.size, 48, none⟩ (.string V)).setCell ⟨w.heap.size, 66, none⟩ (.bool true) = X3 := ⟨_, rfl⟩
      have hT3 : Te w w.heap.size (q.setT 15 V) (W2.setCell ⟨w.heap.size, 48, none⟩ (.string V)) := HT2.out.set _ _ (HT2.out.r.setT 15 V (by decide))
      have HT3 : Aside (Te w w.heap.size { q.setT 15 V with ha := true } X3) := by show Te _ _ _ _; rw [← hX3]; exact hT3.set _ _ (hT3.r.setHa true)
      have f35 := HT2.out.r.frozen 48
      have k35 : W2.cell? ⟨w.heap.size, 48, none⟩ = _ := HT2.out.r.rc.t 15 (by decide)
      have f67 := hT3.r.frozen 66
      have k67 := hT3.r.rc.a
      rw [show (q.setT 15 V).ha = true from hHA] at k67
      clear hT3
      have HZ : Aside (Tz w w.heap.size D X3) := by show Tz _ _ D _; rw [← HD.out]; exact HT3.out.tz
      clear HT3 HT2
      go_wp2_with (first
        | (refine wpList_load_row rfl 34 (.tmp 4) rfl w.heap.size rfl 34 _ (0, 0) _ HZ.out.g hu34 rfl HZ.out.i ?_)
        | (refine wpList_store_row rfl 34 (.tmp 8) (.tmp 102) rfl (w.heap.size + 1) D rfl rfl 34 _ HZ.out.r HZ.out.i HZ.out.z HZ.out.o ?_))
      refine bodyPost_ret (res35 _ rfl HZ.out.s HZ.out.i) rfl ?_
      exact HF.out _ HZ.out.b
set_option maxHeartbeats 1000000 in
theorem rtake_15n (q : Rq) (s : Bool) (k : Int) (X : List UInt8) (w : World) (hk : k = 15) (hX : ¬ X.length ≤ 20) : Calls Tryd.prog 35 #[.agg q.cells.toArray, .int .i64 k, .string (bt X), .bool s] w (TkR q s k X w) := by
  subst hk
  obtain ⟨W1, hW1⟩ : ∃ W1, ((w.alloc (.cells q.cells.toArray 34)).alloc (.cells Tryd.zeroCells34 34)) = W1 := ⟨_, rfl⟩
  have HT : Aside (Te w w.heap.size q W1) := by show Te _ _ _ _; rw [← hW1]; exact Te.new w q
  have HN : Aside (∀ X, Calls Tryd.prog 22 #[.int .i64 15] X fun e w' => e = .returned (.bool false) ∧ Below X.heap.size X w') := fun X => by
    have := isNumber_c 15 X
    rwa [show decide ((15 : Int) ∈ numsL) = false from by decide] at this
  obtain ⟨D, hD⟩ : ∃ D, (q).cells.toArray = D := ⟨_, rfl⟩
  have HD : Aside ((q).cells.toArray = D) := hD
  have HF : Aside (∀ w', Below w.heap.size w w' → TkR q s 15 X w (.returned (.tuple #[.agg D, .int .i64 11])) w') := fun w' hb => ⟨hb, by
    have hE : rtk s q 15 X = none := rtk15n hX
    rw [hE]
    show _ = _
    rw [HD.out]⟩
  clear hD
  have hv : ((bt X).size : Int) = X.length := by rw [bt_size]
  have hv2 : (20 : Int) < (X.length : Int) := by omega
  clear hX
  generalize TkR q s 15 X w = RR at *
  generalize (X.length : Int) = n at *
  generalize bt X = V at *
  obtain ⟨HA, hHA⟩ : ∃ HA, q.ha = HA := ⟨_, rfl⟩
  obtain ⟨cs, hcs⟩ : ∃ cs, q.cells.toArray = cs := ⟨_, rfl⟩
  have HCS : Aside (q.cells.toArray = cs) := hcs
  rw [hcs] at hW1
  rw [hcs]
  clear hcs
  cases s
  all_goals
    go_enter Tryd.func35, Tryd.ntmps35
    go_wp2_with fail
    refine Calls.mono (HN.out _) ?_
    rintro e W2 ⟨rfl, hb2⟩
    have HT2 : Aside (Te w w.heap.size q W2) := (HT.out).bel hb2
    clear hb2 HN
    have HT3 : Aside (Te w w.heap.size q W2) := HT2.out
    have HZ : Aside (Tz w w.heap.size D W2) := by show Tz _ _ D _; rw [← HD.out]; exact HT3.out.tz
    clear HT3 HT2
    go_wp2_with (first
      | (refine wpList_load_row rfl 34 (.tmp 4) rfl w.heap.size rfl 34 _ (0, 0) _ HZ.out.g hu34 rfl HZ.out.i ?_)
      | (refine wpList_store_row rfl 34 (.tmp 8) (.tmp 90) rfl (w.heap.size + 1) D rfl rfl 34 _ HZ.out.r HZ.out.i HZ.out.z HZ.out.o ?_))
    refine bodyPost_ret (res35 _ rfl HZ.out.s HZ.out.i) rfl ?_
    exact HF.out _ HZ.out.b
set_option maxHeartbeats 1000000 in
theorem rtake_16y (q : Rq) (s : Bool) (k : Int) (X : List UInt8) (w : World) (hk : k = 16) (hs : s = true) (hX : X.length ≤ 20) : Calls Tryd.prog 35 #[.agg q.cells.toArray, .int .i64 k, .string (bt X), .bool s] w (TkR q s k X w) := by
  subst hk
  subst hs
  obtain ⟨W1, hW1⟩ : ∃ W1, ((w.alloc (.cells q.cells.toArray 34)).alloc (.cells Tryd.zeroCells34 34)) = W1 := ⟨_, rfl⟩
  have HT : Aside (Te w w.heap.size q W1) := by show Te _ _ _ _; rw [← hW1]; exact Te.new w q
  have HN : Aside (∀ X, Calls Tryd.prog 22 #[.int .i64 16] X fun e w' => e = .returned (.bool false) ∧ Below X.heap.size X w') := fun X => by
    have := isNumber_c 16 X
    rwa [show decide ((16 : Int) ∈ numsL) = false from by decide] at this
  obtain ⟨D, hD⟩ : ∃ D, ({ q.setT 16 (bt X) with ha := true }).cells.toArray = D := ⟨_, rfl⟩
  have HD : Aside (({ q.setT 16 (bt X) with ha := true }).cells.toArray = D) := hD
  have HF : Aside (∀ w', Below w.heap.size w w' → TkR q true 16 X w (.returned (.tuple #[.agg D, .int .i64 0])) w') := fun w' hb => ⟨hb, by
    have hE : rtk true q 16 X = some ({ q.setT 16 (bt X) with ha := true }) := rtk16y hX
    rw [hE]
    show _ = _
    rw [HD.out]⟩
  clear hD
  have hv : ((bt X).size : Int) = X.length := by rw [bt_size]
  have hv2 : ¬ (20 : Int) < (X.length : Int) := by omega
  clear hX
  generalize TkR q true 16 X w = RR at *
  generalize (X.length : Int) = n at *
  generalize bt X = V at *
  obtain ⟨HA, hHA⟩ : ∃ HA, q.ha = HA := ⟨_, rfl⟩
  obtain ⟨cs, hcs⟩ : ∃ cs, q.cells.toArray = cs := ⟨_, rfl⟩
  have HCS : Aside (q.cells.toArray = cs) := hcs
  rw [hcs] at hW1
  rw [hcs]
  clear hcs
  all_goals
    cases HA
    case false =>
      go_enter Tryd.func35, Tryd.ntmps35
      go_wp2_with fail
      refine Calls.mono (HN.out _) ?_
      rintro e W2 ⟨rfl, hb2⟩
      have HT2 : Aside (Te w w.heap.size q W2) := (HT.out).bel hb2
      clear hb2 HN
      obtain ⟨X3, hX3⟩ : ∃ X3, (W2.setCell ⟨w.heap.size, 49, none⟩ (.string V)).setCell ⟨w.heap.size, 66, none⟩ (.bool true) = X3 := ⟨_, rfl⟩
      have hT3 : Te w w.heap.size (q.setT 16 V) (W2.setCell ⟨w.heap.size, 49, none⟩ (.string V)) := HT2.out.set _ _ (HT2.out.r.setT 16 V (by decide))
      have HT3 : Aside (Te w w.heap.size { q.setT 16 V with ha := true } X3) := by show Te _ _ _ _; rw [← hX3]; exact hT3.set _ _ (hT3.r.setHa true)
      have f35 := HT2.out.r.frozen 49
      have k35 : W2.cell? ⟨w.heap.size, 49, none⟩ = _ := HT2.out.r.rc.t 16 (by decide)
      have f67 := hT3.r.frozen 66
      have k67 := hT3.r.rc.a
      rw [show (q.setT 16 V).ha = false from hHA] at k67
      clear hT3
      have HZ : Aside (Tz w w.heap.size D X3) := by show Tz _ _ D _; rw [← HD.out]; exact HT3.out.tz
      clear HT3 HT2
      go_wp2_with (first
        | (refine wpList_load_row rfl 34 (.tmp 4) rfl w.heap.size rfl 34 _ (0, 0) _ HZ.out.g hu34 rfl HZ.out.i ?_)
        | (refine wpList_store_row rfl 34 (.tmp 8) (.tmp 102) rfl (w.heap.size + 1) D rfl rfl 34 _ HZ.out.r HZ.out.i HZ.out.z HZ.out.o ?_))
      refine bodyPost_ret (res35 _ rfl HZ.out.s HZ.out.i) rfl ?_
      exact HF.out _ HZ.out.b
    case true =>
      go_enter Tryd.func35, Tryd.ntmps35
      go_wp2_with fail
      refine Calls.mono (HN.out _) ?_
      rintro e W2 ⟨rfl, hb2⟩
      have HT2 : Aside (Te w w.heap.size q W2) := (HT.out).bel hb2
      clear hb2 HN
      obtain ⟨X3, hX3⟩ : ∃ X3, (W2.setCell ⟨w.heap.size, 49, none⟩ (.string V)).setCell ⟨w.heap.size, 66, none⟩ (.bool true) = X3 := ⟨_, rfl⟩
      have hT3 : Te w w.heap.size (q.setT 16 V) (W2.setCell ⟨w.heap.size, 49, none⟩ (.string V)) := HT2.out.set _ _ (HT2.out.r.setT 16 V (by decide))
      have HT3 : Aside (Te w w.heap.size { q.setT 16 V with ha := true } X3) := by show Te _ _ _ _; rw [← hX3]; exact hT3.set _ _ (hT3.r.setHa true)
      have f35 := HT2.out.r.frozen 49
      have k35 : W2.cell? ⟨w.heap.size, 49, none⟩ = _ := HT2.out.r.rc.t 16 (by decide)
      have f67 := hT3.r.frozen 66
      have k67 := hT3.r.rc.a
      rw [show (q.setT 16 V).ha = true from hHA] at k67
      clear hT3
      have HZ : Aside (Tz w w.heap.size D X3) := by show Tz _ _ D _; rw [← HD.out]; exact HT3.out.tz
      clear HT3 HT2
      go_wp2_with (first
        | (refine wpList_load_row rfl 34 (.tmp 4) rfl w.heap.size rfl 34 _ (0, 0) _ HZ.out.g hu34 rfl HZ.out.i ?_)
        | (refine wpList_store_row rfl 34 (.tmp 8) (.tmp 102) rfl (w.heap.size + 1) D rfl rfl 34 _ HZ.out.r HZ.out.i HZ.out.z HZ.out.o ?_))
      refine bodyPost_ret (res35 _ rfl HZ.out.s HZ.out.i) rfl ?_
      exact HF.out _ HZ.out.b
set_option maxHeartbeats 1000000 in
theorem rtake_16n (q : Rq) (s : Bool) (k : Int) (X : List UInt8) (w : World) (hk : k = 16) (hs : s = true) (hX : ¬ X.length ≤ 20) : Calls Tryd.prog 35 #[.agg q.cells.toArray, .int .i64 k, .string (bt X), .bool s] w (TkR q s k X w) := by
  subst hk
  subst hs
  obtain ⟨W1, hW1⟩ : ∃ W1, ((w.alloc (.cells q.cells.toArray 34)).alloc (.cells Tryd.zeroCells34 34)) = W1 := ⟨_, rfl⟩
  have HT : Aside (Te w w.heap.size q W1) := by show Te _ _ _ _; rw [← hW1]; exact Te.new w q
  have HN : Aside (∀ X, Calls Tryd.prog 22 #[.int .i64 16] X fun e w' => e = .returned (.bool false) ∧ Below X.heap.size X w') := fun X => by
    have := isNumber_c 16 X
    rwa [show decide ((16 : Int) ∈ numsL) = false from by decide] at this
  obtain ⟨D, hD⟩ : ∃ D, (q).cells.toArray = D := ⟨_, rfl⟩
  have HD : Aside ((q).cells.toArray = D) := hD
  have HF : Aside (∀ w', Below w.heap.size w w' → TkR q true 16 X w (.returned (.tuple #[.agg D, .int .i64 11])) w') := fun w' hb => ⟨hb, by
    have hE : rtk true q 16 X = none := rtk16n hX
    rw [hE]
    show _ = _
    rw [HD.out]⟩
  clear hD
  have hv : ((bt X).size : Int) = X.length := by rw [bt_size]
  have hv2 : (20 : Int) < (X.length : Int) := by omega
  clear hX
  generalize TkR q true 16 X w = RR at *
  generalize (X.length : Int) = n at *
  generalize bt X = V at *
  obtain ⟨HA, hHA⟩ : ∃ HA, q.ha = HA := ⟨_, rfl⟩
  obtain ⟨cs, hcs⟩ : ∃ cs, q.cells.toArray = cs := ⟨_, rfl⟩
  have HCS : Aside (q.cells.toArray = cs) := hcs
  rw [hcs] at hW1
  rw [hcs]
  clear hcs
  go_enter Tryd.func35, Tryd.ntmps35
  go_wp2_with fail
  refine Calls.mono (HN.out _) ?_
  rintro e W2 ⟨rfl, hb2⟩
  have HT2 : Aside (Te w w.heap.size q W2) := (HT.out).bel hb2
  clear hb2 HN
  have HT3 : Aside (Te w w.heap.size q W2) := HT2.out
  have HZ : Aside (Tz w w.heap.size D W2) := by show Tz _ _ D _; rw [← HD.out]; exact HT3.out.tz
  clear HT3 HT2
  go_wp2_with (first
    | (refine wpList_load_row rfl 34 (.tmp 4) rfl w.heap.size rfl 34 _ (0, 0) _ HZ.out.g hu34 rfl HZ.out.i ?_)
    | (refine wpList_store_row rfl 34 (.tmp 8) (.tmp 90) rfl (w.heap.size + 1) D rfl rfl 34 _ HZ.out.r HZ.out.i HZ.out.z HZ.out.o ?_))
  refine bodyPost_ret (res35 _ rfl HZ.out.s HZ.out.i) rfl ?_
  exact HF.out _ HZ.out.b
set_option maxHeartbeats 1000000 in
theorem rtake_num1 (q : Rq) (s : Bool) (k : Int) (X : List UInt8) (w : World) (h0 : 0 ≤ k) (h33 : k < 33) (hX : X.length ≤ 140737488351232) (hk : k ∈ numsL) (he : ¬ vE X 0 = 0) : Calls Tryd.prog 35 #[.agg q.cells.toArray, .int .i64 k, .string (bt X), .bool s] w (TkR q s k X w) := by
  obtain ⟨W1, hW1⟩ : ∃ W1, ((w.alloc (.cells q.cells.toArray 34)).alloc (.cells Tryd.zeroCells34 34)) = W1 := ⟨_, rfl⟩
  have HT : Aside (Te w w.heap.size q W1) := by show Te _ _ _ _; rw [← hW1]; exact Te.new w q
  obtain ⟨K, rfl⟩ := Int.eq_ofNat_of_zero_le h0
  have HKK : Aside (K < 33) := by show K < 33; omega
  have i0 : 0 ≤ (K : Int) := by omega
  have i33 : (K : Int) < 33 := by omega
  have HN : Aside (∀ X, Calls Tryd.prog 22 #[.int .i64 (K : Int)] X fun e w' => e = .returned (.bool true) ∧ Below X.heap.size X w') := fun X => by
    have := isNumber_c K X
    rwa [show decide ((K : Int) ∈ numsL) = true from decide_eq_true hk] at this
  have HMY : Aside (∀ X', Calls Tryd.prog 30 #[.int .i64 (K : Int), .int .i64 (vV X 0)] X' fun e w' => e = .returned (.bool (mayR K (vV X 0))) ∧ w' = X') := fun X' => may_c K (vV X 0) hk X'
  obtain ⟨D, hD⟩ : ∃ D, (q).cells.toArray = D := ⟨_, rfl⟩
  have HD : Aside ((q).cells.toArray = D) := hD
  have HF : Aside (∀ w', Below w.heap.size w w' → TkR q s (K : Int) X w (.returned (.tuple #[.agg D, .int .i64 11])) w') := fun w' hb => ⟨hb, by
    have hE : rtk s q (K : Int) X = none := rtk_num1 hk (fun h => he h.1)
    rw [hE]
    show _ = _
    rw [HD.out]⟩
  clear hD
  have hnk : ¬ ((K : Int) = 0 ∨ (K : Int) = 2 ∨ (K : Int) = 16) := num_not hk
  have m0 : ¬ (K : Int) = 0 := by omega
  have m2 : ¬ (K : Int) = 2 := by omega
  have m16 : ¬ (K : Int) = 16 := by omega
  have n0 : ((K : Int) == 0) = false := by simpa using m0
  have n2 : ((K : Int) == 2) = false := by simpa using m2
  have n16 : ((K : Int) == 16) = false := by simpa using m16
  clear hnk
  have HCV : Aside (∀ Y, ∃ cp W', (convert 9 22 (.string (bt X))).run Tryd.prog Y = .ok (.slice (some ⟨Y.heap.size, 0, none⟩) X.length cp) W' ∧ Below Y.heap.size Y W' ∧ Sl W' (some ⟨Y.heap.size, 0, none⟩) X ∧ X.length ≤ cp ∧ cp ≤ 9223372036854775807) := fun Y => conv_text X hX Y
  have HRD : Aside (∀ Y bk cp, Sl Y (some ⟨bk, 0, none⟩) X → X.length ≤ cp → cp ≤ 9223372036854775807 → Calls Tryd.prog 34 #[.slice (some ⟨bk, 0, none⟩) X.length cp, .int .i64 0] Y fun e w' => e = .returned (.tuple #[.int .i64 (vV X 0), .int .i64 (vN X 0), .int .i64 (vE X 0)]) ∧ Below Y.heap.size Y w') := fun Y bk cp h1 h2 h3 => rread_any _ X cp 0 Y h1 (by omega) h2 h3
  have hv : ((bt X).size : Int) = X.length := by rw [bt_size]
  have e1 : (vE X 0 == 0) = false := by simpa using he
  have e2 : (vE X 0 != 0) = true := by simpa using he
  generalize TkR q s (K : Int) X w = RR at *
  generalize vV X 0 = x at *
  generalize vN X 0 = y at *
  generalize vE X 0 = er at *
  obtain ⟨cs, hcs⟩ : ∃ cs, q.cells.toArray = cs := ⟨_, rfl⟩
  have HCS : Aside (q.cells.toArray = cs) := hcs
  rw [hcs] at hW1
  rw [hcs]
  clear hcs hk
  clear he
  cases s
  all_goals
    go_enter Tryd.func35, Tryd.ntmps35
    go_wp2_with fail
    refine Calls.mono (HN.out _) ?_
    rintro e W2 ⟨rfl, hb2⟩
    have HT2 : Aside (Te w w.heap.size q W2) := (HT.out).bel hb2
    clear hb2 HN
    obtain ⟨cp, W5, hcv, hb5, hsl5, hc1, hc2⟩ := HCV.out W2
    have hrd := HRD.out W5 _ cp hsl5 hc1 hc2
    have HT5 : Aside (Te w w.heap.size q W5) := HT2.out.bel hb5
    clear hb5 hsl5 hc1 hc2
    go_wp2_with fail
    refine hrd.mono ?_
    rintro e W3 ⟨rfl, hb3⟩
    have HTW : Aside (Te w w.heap.size q W3) := HT5.out.bel hb3
    clear hb3 hrd HT5 hcv HCV HRD
    have HT3 : Aside (Te w w.heap.size q W3) := HTW.out
    clear HTW
    have HZ : Aside (Tz w w.heap.size D W3) := by show Tz _ _ D _; rw [← HD.out]; exact HT3.out.tz
    clear HT3 HT2
    go_wp2_with (first
      | (refine wpList_load_row rfl 34 (.tmp 4) rfl w.heap.size rfl 34 _ (0, 0) _ HZ.out.g hu34 rfl HZ.out.i ?_)
      | (refine wpList_store_row rfl 34 (.tmp 8) (.tmp 52) rfl (w.heap.size + 1) D rfl rfl 34 _ HZ.out.r HZ.out.i HZ.out.z HZ.out.o ?_))
    refine bodyPost_ret (res35 _ rfl HZ.out.s HZ.out.i) rfl ?_
    exact HF.out _ HZ.out.b
set_option maxHeartbeats 1000000 in
theorem rtake_num2 (q : Rq) (s : Bool) (k : Int) (X : List UInt8) (w : World) (h0 : 0 ≤ k) (h33 : k < 33) (hX : X.length ≤ 140737488351232) (hk : k ∈ numsL) (he : vE X 0 = 0) (hn2 : ¬ vN X 0 = (X.length : Int)) : Calls Tryd.prog 35 #[.agg q.cells.toArray, .int .i64 k, .string (bt X), .bool s] w (TkR q s k X w) := by
  obtain ⟨W1, hW1⟩ : ∃ W1, ((w.alloc (.cells q.cells.toArray 34)).alloc (.cells Tryd.zeroCells34 34)) = W1 := ⟨_, rfl⟩
  have HT : Aside (Te w w.heap.size q W1) := by show Te _ _ _ _; rw [← hW1]; exact Te.new w q
  obtain ⟨K, rfl⟩ := Int.eq_ofNat_of_zero_le h0
  have HKK : Aside (K < 33) := by show K < 33; omega
  have i0 : 0 ≤ (K : Int) := by omega
  have i33 : (K : Int) < 33 := by omega
  have HN : Aside (∀ X, Calls Tryd.prog 22 #[.int .i64 (K : Int)] X fun e w' => e = .returned (.bool true) ∧ Below X.heap.size X w') := fun X => by
    have := isNumber_c K X
    rwa [show decide ((K : Int) ∈ numsL) = true from decide_eq_true hk] at this
  have HMY : Aside (∀ X', Calls Tryd.prog 30 #[.int .i64 (K : Int), .int .i64 (vV X 0)] X' fun e w' => e = .returned (.bool (mayR K (vV X 0))) ∧ w' = X') := fun X' => may_c K (vV X 0) hk X'
  obtain ⟨D, hD⟩ : ∃ D, (q).cells.toArray = D := ⟨_, rfl⟩
  have HD : Aside ((q).cells.toArray = D) := hD
  have HF : Aside (∀ w', Below w.heap.size w w' → TkR q s (K : Int) X w (.returned (.tuple #[.agg D, .int .i64 11])) w') := fun w' hb => ⟨hb, by
    have hE : rtk s q (K : Int) X = none := rtk_num1 hk (fun h => hn2 h.2.1)
    rw [hE]
    show _ = _
    rw [HD.out]⟩
  clear hD
  have hnk : ¬ ((K : Int) = 0 ∨ (K : Int) = 2 ∨ (K : Int) = 16) := num_not hk
  have m0 : ¬ (K : Int) = 0 := by omega
  have m2 : ¬ (K : Int) = 2 := by omega
  have m16 : ¬ (K : Int) = 16 := by omega
  have n0 : ((K : Int) == 0) = false := by simpa using m0
  have n2 : ((K : Int) == 2) = false := by simpa using m2
  have n16 : ((K : Int) == 16) = false := by simpa using m16
  clear hnk
  have HCV : Aside (∀ Y, ∃ cp W', (convert 9 22 (.string (bt X))).run Tryd.prog Y = .ok (.slice (some ⟨Y.heap.size, 0, none⟩) X.length cp) W' ∧ Below Y.heap.size Y W' ∧ Sl W' (some ⟨Y.heap.size, 0, none⟩) X ∧ X.length ≤ cp ∧ cp ≤ 9223372036854775807) := fun Y => conv_text X hX Y
  have HRD : Aside (∀ Y bk cp, Sl Y (some ⟨bk, 0, none⟩) X → X.length ≤ cp → cp ≤ 9223372036854775807 → Calls Tryd.prog 34 #[.slice (some ⟨bk, 0, none⟩) X.length cp, .int .i64 0] Y fun e w' => e = .returned (.tuple #[.int .i64 (vV X 0), .int .i64 (vN X 0), .int .i64 (vE X 0)]) ∧ Below Y.heap.size Y w') := fun Y bk cp h1 h2 h3 => rread_any _ X cp 0 Y h1 (by omega) h2 h3
  have hv : ((bt X).size : Int) = X.length := by rw [bt_size]
  have e3 : (vN X 0 == (X.length : Int)) = false := by simpa using hn2
  have e4 : (vN X 0 != (X.length : Int)) = true := by simpa using hn2
  rw [he] at HRD
  generalize TkR q s (K : Int) X w = RR at *
  generalize vV X 0 = x at *
  generalize vN X 0 = y at *
  generalize vE X 0 = er at *
  obtain ⟨cs, hcs⟩ : ∃ cs, q.cells.toArray = cs := ⟨_, rfl⟩
  have HCS : Aside (q.cells.toArray = cs) := hcs
  rw [hcs] at hW1
  rw [hcs]
  clear hcs hk
  cases s
  all_goals
    go_enter Tryd.func35, Tryd.ntmps35
    go_wp2_with fail
    refine Calls.mono (HN.out _) ?_
    rintro e W2 ⟨rfl, hb2⟩
    have HT2 : Aside (Te w w.heap.size q W2) := (HT.out).bel hb2
    clear hb2 HN
    obtain ⟨cp, W5, hcv, hb5, hsl5, hc1, hc2⟩ := HCV.out W2
    have hrd := HRD.out W5 _ cp hsl5 hc1 hc2
    have HT5 : Aside (Te w w.heap.size q W5) := HT2.out.bel hb5
    clear hb5 hsl5 hc1 hc2
    go_wp2_with fail
    refine hrd.mono ?_
    rintro e W3 ⟨rfl, hb3⟩
    have HTW : Aside (Te w w.heap.size q W3) := HT5.out.bel hb3
    clear hb3 hrd HT5 hcv HCV HRD
    have HT3 : Aside (Te w w.heap.size q W3) := HTW.out
    clear HTW
    have HZ : Aside (Tz w w.heap.size D W3) := by show Tz _ _ D _; rw [← HD.out]; exact HT3.out.tz
    clear HT3 HT2
    go_wp2_with (first
      | (refine wpList_load_row rfl 34 (.tmp 4) rfl w.heap.size rfl 34 _ (0, 0) _ HZ.out.g hu34 rfl HZ.out.i ?_)
      | (refine wpList_store_row rfl 34 (.tmp 8) (.tmp 52) rfl (w.heap.size + 1) D rfl rfl 34 _ HZ.out.r HZ.out.i HZ.out.z HZ.out.o ?_))
    refine bodyPost_ret (res35 _ rfl HZ.out.s HZ.out.i) rfl ?_
    exact HF.out _ HZ.out.b
set_option maxHeartbeats 1000000 in
theorem rtake_num3 (q : Rq) (s : Bool) (k : Int) (X : List UInt8) (w : World) (h0 : 0 ≤ k) (h33 : k < 33) (hX : X.length ≤ 140737488351232) (hk : k ∈ numsL) (he : vE X 0 = 0) (hn2 : vN X 0 = (X.length : Int)) (hm : mayR k (vV X 0) = false) : Calls Tryd.prog 35 #[.agg q.cells.toArray, .int .i64 k, .string (bt X), .bool s] w (TkR q s k X w) := by
  obtain ⟨W1, hW1⟩ : ∃ W1, ((w.alloc (.cells q.cells.toArray 34)).alloc (.cells Tryd.zeroCells34 34)) = W1 := ⟨_, rfl⟩
  have HT : Aside (Te w w.heap.size q W1) := by show Te _ _ _ _; rw [← hW1]; exact Te.new w q
  obtain ⟨K, rfl⟩ := Int.eq_ofNat_of_zero_le h0
  have HKK : Aside (K < 33) := by show K < 33; omega
  have i0 : 0 ≤ (K : Int) := by omega
  have i33 : (K : Int) < 33 := by omega
  have HN : Aside (∀ X, Calls Tryd.prog 22 #[.int .i64 (K : Int)] X fun e w' => e = .returned (.bool true) ∧ Below X.heap.size X w') := fun X => by
    have := isNumber_c K X
    rwa [show decide ((K : Int) ∈ numsL) = true from decide_eq_true hk] at this
  have HMY : Aside (∀ X', Calls Tryd.prog 30 #[.int .i64 (K : Int), .int .i64 (vV X 0)] X' fun e w' => e = .returned (.bool (mayR K (vV X 0))) ∧ w' = X') := fun X' => may_c K (vV X 0) hk X'
  rw [hm] at HMY
  obtain ⟨D, hD⟩ : ∃ D, (q).cells.toArray = D := ⟨_, rfl⟩
  have HD : Aside ((q).cells.toArray = D) := hD
  have HF : Aside (∀ w', Below w.heap.size w w' → TkR q s (K : Int) X w (.returned (.tuple #[.agg D, .int .i64 11])) w') := fun w' hb => ⟨hb, by
    have hE : rtk s q (K : Int) X = none := rtk_num1 hk (fun h => by rw [hm] at h; cases h.2.2)
    rw [hE]
    show _ = _
    rw [HD.out]⟩
  clear hD
  have hnk : ¬ ((K : Int) = 0 ∨ (K : Int) = 2 ∨ (K : Int) = 16) := num_not hk
  have m0 : ¬ (K : Int) = 0 := by omega
  have m2 : ¬ (K : Int) = 2 := by omega
  have m16 : ¬ (K : Int) = 16 := by omega
  have n0 : ((K : Int) == 0) = false := by simpa using m0
  have n2 : ((K : Int) == 2) = false := by simpa using m2
  have n16 : ((K : Int) == 16) = false := by simpa using m16
  clear hnk
  have HCV : Aside (∀ Y, ∃ cp W', (convert 9 22 (.string (bt X))).run Tryd.prog Y = .ok (.slice (some ⟨Y.heap.size, 0, none⟩) X.length cp) W' ∧ Below Y.heap.size Y W' ∧ Sl W' (some ⟨Y.heap.size, 0, none⟩) X ∧ X.length ≤ cp ∧ cp ≤ 9223372036854775807) := fun Y => conv_text X hX Y
  have HRD : Aside (∀ Y bk cp, Sl Y (some ⟨bk, 0, none⟩) X → X.length ≤ cp → cp ≤ 9223372036854775807 → Calls Tryd.prog 34 #[.slice (some ⟨bk, 0, none⟩) X.length cp, .int .i64 0] Y fun e w' => e = .returned (.tuple #[.int .i64 (vV X 0), .int .i64 (vN X 0), .int .i64 (vE X 0)]) ∧ Below Y.heap.size Y w') := fun Y bk cp h1 h2 h3 => rread_any _ X cp 0 Y h1 (by omega) h2 h3
  have hv : ((bt X).size : Int) = X.length := by rw [bt_size]
  have e4 : ((X.length : Int) != (X.length : Int)) = false := by simp
  rw [he, hn2] at HRD
  generalize TkR q s (K : Int) X w = RR at *
  generalize vV X 0 = x at *
  generalize vN X 0 = y at *
  generalize vE X 0 = er at *
  obtain ⟨cs, hcs⟩ : ∃ cs, q.cells.toArray = cs := ⟨_, rfl⟩
  have HCS : Aside (q.cells.toArray = cs) := hcs
  rw [hcs] at hW1
  rw [hcs]
  clear hcs hk
  cases s
  all_goals
    go_enter Tryd.func35, Tryd.ntmps35
    go_wp2_with fail
    refine Calls.mono (HN.out _) ?_
    rintro e W2 ⟨rfl, hb2⟩
    have HT2 : Aside (Te w w.heap.size q W2) := (HT.out).bel hb2
    clear hb2 HN
    obtain ⟨cp, W5, hcv, hb5, hsl5, hc1, hc2⟩ := HCV.out W2
    have hrd := HRD.out W5 _ cp hsl5 hc1 hc2
    have HT5 : Aside (Te w w.heap.size q W5) := HT2.out.bel hb5
    clear hb5 hsl5 hc1 hc2
    go_wp2_with fail
    refine hrd.mono ?_
    rintro e W3 ⟨rfl, hb3⟩
    have HTW : Aside (Te w w.heap.size q W3) := HT5.out.bel hb3
    clear hb3 hrd HT5 hcv HCV HRD
    go_wp2_with fail
    refine Calls.mono (HMY.out _) ?_
    rintro e W4 ⟨rfl, hw4⟩
    subst W4
    have HT3 : Aside (Te w w.heap.size q W3) := HTW.out
    clear HTW
    have HZ : Aside (Tz w w.heap.size D W3) := by show Tz _ _ D _; rw [← HD.out]; exact HT3.out.tz
    clear HT3 HT2
    go_wp2_with (first
      | (refine wpList_load_row rfl 34 (.tmp 4) rfl w.heap.size rfl 34 _ (0, 0) _ HZ.out.g hu34 rfl HZ.out.i ?_)
      | (refine wpList_store_row rfl 34 (.tmp 8) (.tmp 52) rfl (w.heap.size + 1) D rfl rfl 34 _ HZ.out.r HZ.out.i HZ.out.z HZ.out.o ?_))
    refine bodyPost_ret (res35 _ rfl HZ.out.s HZ.out.i) rfl ?_
    exact HF.out _ HZ.out.b
set_option maxHeartbeats 1000000 in
theorem rtake_num4 (q : Rq) (s : Bool) (k : Int) (X : List UInt8) (w : World) (h0 : 0 ≤ k) (h33 : k < 33) (hX : X.length ≤ 140737488351232) (hk : k ∈ numsL) (he : vE X 0 = 0) (hn2 : vN X 0 = (X.length : Int)) (hm : mayR k (vV X 0) = true) : Calls Tryd.prog 35 #[.agg q.cells.toArray, .int .i64 k, .string (bt X), .bool s] w (TkR q s k X w) := by
  obtain ⟨W1, hW1⟩ : ∃ W1, ((w.alloc (.cells q.cells.toArray 34)).alloc (.cells Tryd.zeroCells34 34)) = W1 := ⟨_, rfl⟩
  have HT : Aside (Te w w.heap.size q W1) := by show Te _ _ _ _; rw [← hW1]; exact Te.new w q
  obtain ⟨K, rfl⟩ := Int.eq_ofNat_of_zero_le h0
  have HKK : Aside (K < 33) := by show K < 33; omega
  have i0 : 0 ≤ (K : Int) := by omega
  have i33 : (K : Int) < 33 := by omega
  have HN : Aside (∀ X, Calls Tryd.prog 22 #[.int .i64 (K : Int)] X fun e w' => e = .returned (.bool true) ∧ Below X.heap.size X w') := fun X => by
    have := isNumber_c K X
    rwa [show decide ((K : Int) ∈ numsL) = true from decide_eq_true hk] at this
  have HMY : Aside (∀ X', Calls Tryd.prog 30 #[.int .i64 (K : Int), .int .i64 (vV X 0)] X' fun e w' => e = .returned (.bool (mayR K (vV X 0))) ∧ w' = X') := fun X' => may_c K (vV X 0) hk X'
  rw [hm] at HMY
  obtain ⟨D, hD⟩ : ∃ D, (q.setN K (vV X 0)).cells.toArray = D := ⟨_, rfl⟩
  have HD : Aside ((q.setN K (vV X 0)).cells.toArray = D) := hD
  have HF : Aside (∀ w', Below w.heap.size w w' → TkR q s (K : Int) X w (.returned (.tuple #[.agg D, .int .i64 0])) w') := fun w' hb => ⟨hb, by
    have hE : rtk s q (K : Int) X = some (q.setN K (vV X 0)) := rtk_num2 hk ⟨he, hn2, hm⟩
    rw [hE]
    show _ = _
    rw [HD.out]⟩
  clear hD
  have hnk : ¬ ((K : Int) = 0 ∨ (K : Int) = 2 ∨ (K : Int) = 16) := num_not hk
  have m0 : ¬ (K : Int) = 0 := by omega
  have m2 : ¬ (K : Int) = 2 := by omega
  have m16 : ¬ (K : Int) = 16 := by omega
  have n0 : ((K : Int) == 0) = false := by simpa using m0
  have n2 : ((K : Int) == 2) = false := by simpa using m2
  have n16 : ((K : Int) == 16) = false := by simpa using m16
  clear hnk
  have HCV : Aside (∀ Y, ∃ cp W', (convert 9 22 (.string (bt X))).run Tryd.prog Y = .ok (.slice (some ⟨Y.heap.size, 0, none⟩) X.length cp) W' ∧ Below Y.heap.size Y W' ∧ Sl W' (some ⟨Y.heap.size, 0, none⟩) X ∧ X.length ≤ cp ∧ cp ≤ 9223372036854775807) := fun Y => conv_text X hX Y
  have HRD : Aside (∀ Y bk cp, Sl Y (some ⟨bk, 0, none⟩) X → X.length ≤ cp → cp ≤ 9223372036854775807 → Calls Tryd.prog 34 #[.slice (some ⟨bk, 0, none⟩) X.length cp, .int .i64 0] Y fun e w' => e = .returned (.tuple #[.int .i64 (vV X 0), .int .i64 (vN X 0), .int .i64 (vE X 0)]) ∧ Below Y.heap.size Y w') := fun Y bk cp h1 h2 h3 => rread_any _ X cp 0 Y h1 (by omega) h2 h3
  have hv : ((bt X).size : Int) = X.length := by rw [bt_size]
  have e4 : ((X.length : Int) != (X.length : Int)) = false := by simp
  rw [he, hn2] at HRD
  generalize TkR q s (K : Int) X w = RR at *
  generalize vV X 0 = x at *
  generalize vN X 0 = y at *
  generalize vE X 0 = er at *
  obtain ⟨cs, hcs⟩ : ∃ cs, q.cells.toArray = cs := ⟨_, rfl⟩
  have HCS : Aside (q.cells.toArray = cs) := hcs
  rw [hcs] at hW1
  rw [hcs]
  clear hcs hk
  cases s
  all_goals
    go_enter Tryd.func35, Tryd.ntmps35
    go_wp2_with fail
    refine Calls.mono (HN.out _) ?_
    rintro e W2 ⟨rfl, hb2⟩
    have HT2 : Aside (Te w w.heap.size q W2) := (HT.out).bel hb2
    clear hb2 HN
    obtain ⟨cp, W5, hcv, hb5, hsl5, hc1, hc2⟩ := HCV.out W2
    have hrd := HRD.out W5 _ cp hsl5 hc1 hc2
    have HT5 : Aside (Te w w.heap.size q W5) := HT2.out.bel hb5
    clear hb5 hsl5 hc1 hc2
    go_wp2_with fail
    refine hrd.mono ?_
    rintro e W3 ⟨rfl, hb3⟩
    have HTW : Aside (Te w w.heap.size q W3) := HT5.out.bel hb3
    clear hb3 hrd HT5 hcv HCV HRD
    go_wp2_with fail
    refine Calls.mono (HMY.out _) ?_
    rintro e W4 ⟨rfl, hw4⟩
    subst W4
    obtain ⟨X3, hX3⟩ : ∃ X3, W3.setCell ⟨w.heap.size, K, none⟩ (.int .i64 x) = X3 := ⟨_, rfl⟩
    have HT3 : Aside (Te w w.heap.size (q.setN K x) X3) := by show Te _ _ _ _; rw [← hX3]; exact HTW.out.set _ _ (HTW.out.r.setN K x HKK.out)
    have f12 := HTW.out.r.frozen K
    have k12 := HTW.out.r.rc.n K HKK.out
    clear HTW
    have HZ : Aside (Tz w w.heap.size D X3) := by show Tz _ _ D _; rw [← HD.out]; exact HT3.out.tz
    clear HT3 HT2
    go_wp2_with (first
      | (refine wpList_load_row rfl 34 (.tmp 4) rfl w.heap.size rfl 34 _ (0, 0) _ HZ.out.g hu34 rfl HZ.out.i ?_)
      | (refine wpList_store_row rfl 34 (.tmp 8) (.tmp 102) rfl (w.heap.size + 1) D rfl rfl 34 _ HZ.out.r HZ.out.i HZ.out.z HZ.out.o ?_))
    refine bodyPost_ret (res35 _ rfl HZ.out.s HZ.out.i) rfl ?_
    exact HF.out _ HZ.out.b
theorem rtake_c (q : Rq) (s : Bool) (k : Int) (X : List UInt8) (w : World) (h0 : 0 ≤ k) (h33 : k < 33) (hX : X.length ≤ 140737488351232) : Calls Tryd.prog 35 #[.agg q.cells.toArray, .int .i64 k, .string (bt X), .bool s] w (TkR q s k X w) := by
  by_cases hsv : s = false ∧ (k = 0 ∨ k = 2 ∨ k = 16)
  · exact rtake_srv q s k X w hsv.1 hsv.2
  by_cases hn : k ∈ numsL
  · by_cases he : vE X 0 = 0
    · by_cases hn2 : vN X 0 = (X.length : Int)
      · cases hm : mayR k (vV X 0)
        · exact rtake_num3 q s k X w h0 h33 hX hn he hn2 hm
        · exact rtake_num4 q s k X w h0 h33 hX hn he hn2 hm
      · exact rtake_num2 q s k X w h0 h33 hX hn he hn2
    · exact rtake_num1 q s k X w h0 h33 hX hn he
  have hs : k = 0 ∨ k = 2 ∨ k = 16 → s = true := fun h => by
    cases s
    · exact absurd ⟨rfl, h⟩ hsv
    · rfl
  by_cases k12 : k = 12
  · by_cases hx : X = []
    · exact rtake_12y q s k X w k12 hx
    · exact rtake_12n q s k X w k12 hx
  by_cases k2 : k = 2
  · by_cases hx : X.length = 16
    · exact rtake_2y q s k X w k2 (hs (by omega)) hx
    · exact rtake_2n q s k X w k2 (hs (by omega)) hx
  by_cases k0 : k = 0
  · by_cases hx : X.length ≤ 20
    · exact rtake_0y q s k X w k0 (hs (by omega)) hx
    · exact rtake_0n q s k X w k0 (hs (by omega)) hx
  by_cases k15 : k = 15
  · by_cases hx : X.length ≤ 20
    · exact rtake_15y q s k X w k15 hx
    · exact rtake_15n q s k X w k15 hx
  by_cases k16 : k = 16
  · by_cases hx : X.length ≤ 20
    · exact rtake_16y q s k X w k16 (hs (by omega)) hx
    · exact rtake_16n q s k X w k16 (hs (by omega)) hx
  exact rtake_oth q s k X w (by omega) hn
end Go.Proofs.YtcppnellgkbndaaDoor
namespace Go.Proofs.YtcppnellgkbndaaDoor
open Go.ChangeShapes Go.WideShapes Go.ChangeAt Go.RowKit
set_option linter.unusedVariables false
set_option maxRecDepth 100000

theorem nodup_le : ∀ (N : Nat) {l : List Int}, l.Nodup → (∀ x ∈ l, 0 ≤ x ∧ x < (N : Int)) → l.length ≤ N
  | 0, l, _, h => by
    cases l with
    | nil => exact Nat.le_refl _
    | cons x t => have := h x (by simp); omega
  | N + 1, l, hn, h => by
    have hx : ∀ x ∈ l.erase (N : Int), 0 ≤ x ∧ x < (N : Int) := by
      intro x hx
      obtain ⟨h1, h2⟩ := (List.Nodup.mem_erase_iff hn).1 hx
      have := h x h2
      omega
    have h1 := nodup_le N (hn.erase _) hx
    by_cases hm : (N : Int) ∈ l
    · rw [List.length_erase_of_mem hm] at h1
      omega
    · rw [List.erase_of_not_mem hm] at h1
      omega
/-- The numbers that came, up to the place a. -/
structure Cm (C : List Int) (a : Int) : Prop where
  nd : C.Nodup
  ge : ∀ x ∈ C, 0 ≤ x
  big : 9 * ((C.countP fun z => decide (1073741824 ≤ z) : Nat) : Int) ≤ a
theorem Cm.nil (a : Int) (h : 0 ≤ a) : Cm [] a := ⟨List.nodup_nil, fun _ h => by simp at h, by simpa using h⟩
theorem Cm.len {C : List Int} {a : Int} (h : Cm C a) (ha : a ≤ 140737488351232) : C.length ≤ 15638572500000 := by
  have h1 := List.length_eq_countP_add_countP (fun z : Int => decide (1073741824 ≤ z)) (l := C)
  have h2 : (C.filter fun z => decide ¬ (decide (1073741824 ≤ z)) = true).length ≤ 1073741824 := nodup_le 1073741824 (h.nd.sublist List.filter_sublist) (fun x hx => by
    obtain ⟨h3, h4⟩ := List.mem_filter.1 hx
    have := h.ge x h3
    simp at h4
    omega)
  have h3 := h.big
  rw [← List.countP_eq_length_filter] at h2
  omega
theorem Cm.add {C : List Int} {a b k : Int} (h : Cm C a) (hk : k ∉ C) (h0 : 0 ≤ k) (hb : a ≤ b) (h9 : 1073741824 ≤ k → a + 9 ≤ b) : Cm (C ++ [k]) b := by
  refine ⟨?_, fun x hx => ?_, ?_⟩
  · rw [List.nodup_append]
    refine ⟨h.nd, by simp, fun x hx y hy => ?_⟩
    simp at hy
    subst hy
    rintro rfl
    exact hk hx
  · rcases List.mem_append.1 hx with hx | hx
    · exact h.ge x hx
    · simp at hx
      omega
  · have := h.big
    rw [List.countP_append, List.countP_singleton]
    by_cases h1 : 1073741824 ≤ k
    · have := h9 h1
      simp [h1]
      omega
    · simp [h1]
      omega
/-- A great number stands in eight bytes. -/
theorem wide_big {l : List UInt8} {a : Int} (h : vE l a = 0) (hb : 1073741824 ≤ vV l a) : a + 8 ≤ vN l a := by
  unfold vE at h
  by_cases h1 : a < 0 ∨ (l.length : Int) < a
  · rw [if_pos h1] at h; cases h
  · rw [if_neg h1] at h
    by_cases ho : vOk l a
    · have hv : vV l a = _ := if_pos ho
      have hn : vN l a = _ := if_pos ho
      rw [hv] at hb
      rw [hn]
      have hq : (l.getD a.toNat 0).toNat / 64 ≤ 3 := by have := (l.getD a.toNat 0).toNat_lt; omega
      by_cases h3 : (l.getD a.toNat 0).toNat / 64 = 3
      · unfold wd
        rw [h3]
        omega
      · have hw : wd l a.toNat ≤ 4 := by
          unfold wd
          exact Nat.pow_le_pow_right (n := 2) (by decide) (show (l.getD a.toNat 0).toNat / 64 ≤ 2 by omega)
        have hm : num (sub l a.toNat (wd l a.toNat)) % 2 ^ (8 * wd l a.toNat - 2) < 2 ^ (8 * wd l a.toNat - 2) := Nat.mod_lt _ (Nat.pow_pos (by decide))
        have hp : 2 ^ (8 * wd l a.toNat - 2) ≤ 2 ^ 30 := Nat.pow_le_pow_right (by decide) (by omega)
        have hp' : (2 : Nat) ^ 30 = 1073741824 := by decide
        exfalso
        have h5 : num (sub l a.toNat (wd l a.toNat)) % 2 ^ (8 * wd l a.toNat - 2) < 1073741824 := by omega
        clear hm hp hp' hv hn
        generalize num (sub l a.toNat (wd l a.toNat)) % 2 ^ (8 * wd l a.toNat - 2) = z at *
        omega
    · rw [if_neg ho] at h; cases h
/-- A row of ints of one's own. -/
def iv (zs : List Int) : List Value := zs.map (Value.int .i64)
def Iy (n : Nat) (X : World) (v : Value) (zs : List Int) : Prop := X.ownsRow n 3 1 v zs.length (iv zs)
/-- Nothing turns but blocks of ints that are not older than n. -/
structure Gi (n : Nat) (w w' : World) : Prop where
  os : w'.os = w.os
  tape : w'.tape = w.tape
  output : w'.output = w.output
  size : w.heap.size ≤ w'.heap.size
  block : ∀ k, k < w.heap.size → (k < n ∨ ∀ cs fr, w.heap[k]? ≠ some (.cells cs 3 fr)) → w'.heap[k]? = w.heap[k]?
theorem Gi.below {n : Nat} {w w' : World} (h : Gi n w w') (hn : n ≤ w.heap.size) : Below n w w' :=
  ⟨h.os, h.tape, h.output, h.size, fun k hk => h.block k (by omega) (.inl hk)⟩
theorem Iy.nil (n : Nat) (X : World) : Iy n X (.slice none 0 0) [] := ⟨rfl, .inl ⟨rfl, rfl⟩⟩
theorem Iy.keep {n : Nat} {X X' : World} {v : Value} {zs : List Int} (h : Iy n X v zs) (g : ∀ k, k < X.heap.size → n ≤ k → (∃ cs, X.heap[k]? = some (.cells cs 3 (0, 0))) → X'.heap[k]? = X.heap[k]?) : Iy n X' v zs := by
  obtain ⟨h1, h2 | ⟨k, cap, cur, e, h3, h4, h5⟩⟩ := h
  · exact ⟨h1, .inl h2⟩
  · exact ⟨h1, .inr ⟨k, cap, cur, e, h3, (g k (lt_block h4) h3 ⟨_, h4⟩).trans h4, h5⟩⟩
theorem Iy.bel {n : Nat} {X X' : World} {v : Value} {zs : List Int} (h : Iy n X v zs) (hb : Below X.heap.size X X') : Iy n X' v zs := h.keep (fun k hk _ _ => hb.block k hk)
theorem own_val3 {B n : Nat} {w : World} {v : Value} {xs : List Value} (h : w.ownsRow B 3 1 v n xs) : ∃ o c, v = .slice o n c := by
  obtain ⟨_, ⟨h, h2⟩ | ⟨g, cap, cur, h, _⟩⟩ := h
  · exact ⟨none, 0, by rw [h, h2]⟩
  · exact ⟨_, _, h⟩
theorem Iy.at {n : Nat} {X : World} {o : Option Addr} {c : Nat} {zs : List Int} (h : Iy n X (.slice o zs.length c) zs) (i : Nat) (hi : i < zs.length) : ∃ g, o = some ⟨g, 0, none⟩ ∧ X.cell? ⟨g, i, none⟩ = some (.int .i64 zs[i]) := by
  obtain ⟨_, ⟨_, h2⟩ | ⟨g, cap, cur, e, k1, k2, k3, k4, k5, k6⟩⟩ := h
  · omega
  · simp only [Value.slice.injEq] at e
    refine ⟨g, e.1, ?_⟩
    have h6 : cur.toList.take zs.length = iv zs := by rw [Nat.mul_one] at k6; exact k6
    have h7 : (cur.toList.take zs.length)[i]? = (iv zs)[i]? := by rw [h6]
    rw [List.getElem?_take, if_pos hi] at h7
    have h8 : cur[i]? = cur.toList[i]? := by simp
    simp only [World.cell?, k2]
    rw [show (cur[i]? : Option Value) = _ from h8, h7]
    simp [iv, List.getElem?_eq_getElem hi]
theorem inf3 : ∃ i, Tryd.prog.info? 3 = some i ∧ i.zero = some (.int .i64 0) ∧ i.size = 1 ∧ i.bytes = 8 := by
  have : (Tryd.prog.info? 3).map (fun i => (i.zero, i.size, i.bytes)) = some (some (.int .i64 0), 1, 8) := by kernel_rfl
  cases h : Tryd.prog.info? 3 with
  | none => rw [h] at this; cases this
  | some i =>
    rw [h] at this
    simp only [Option.map_some, Option.some.injEq, Prod.mk.injEq] at this
    exact ⟨i, rfl, this.1, this.2.1, this.2.2⟩
theorem app_i {n : Nat} {X : World} {o : Option Addr} {c : Nat} {zs : List Int} (h : Iy n X (.slice o zs.length c) zs) (hn : n ≤ X.heap.size) (z : Int) (hl : zs.length ≤ 15638572500000) :
    ∃ o' c' X', (Builtin.append_ #[68, 68] 68 #[.slice o zs.length c, .slice (some ⟨X.heap.size, 0, none⟩) 1 1]).run Tryd.prog (X.alloc (.cells #[.int .i64 z] 3)) = .ok (.slice o' (zs ++ [z]).length c') X' ∧ Iy n X' (.slice o' (zs ++ [z]).length c') (zs ++ [z]) ∧ Gi n X X' := by
  obtain ⟨i0, hi, hz0, hz1, hz2⟩ := inf3
  have hb := bel1 X (.cells #[.int .i64 z] 3)
  have h' : Iy n (X.alloc (.cells #[.int .i64 z] 3)) (.slice o zs.length c) zs := h.bel hb
  have hnew := heap_alloc_new X (.cells #[.int .i64 z] 3)
  obtain ⟨v', w', hrun, hown', hgr, _, _⟩ := run_append_own_at (P := Tryd.prog) (X.alloc (.cells #[.int .i64 z] 3)) n 68 68 3 i0 (.int .i64 0) 1 8 Tryd.underlying68 hi hz0 hz1 hz2 rfl (by decide) _ _ _ h' ⟨X.heap.size, 0, none⟩ 1 1 [.int .i64 z] rfl (fun j u hu => by
    have hj := (List.getElem?_eq_some_iff.1 hu).1
    simp at hj
    subst hj
    rw [Addr.add_lit]
    simp only [World.cell?, hnew]
    simpa using hu) (by simp [Value.oneCell']) (by unfold maxLen; omega) (by omega) (Nat.le_trans hn hb.size)
  have hown2 : w'.ownsRow n 3 1 v' (zs ++ [z]).length (iv (zs ++ [z])) := by
    have e : iv (zs ++ [z]) = iv zs ++ [.int .i64 z] := by simp [iv]
    rw [e, List.length_append]
    exact hown'
  obtain ⟨o', c', rfl⟩ := own_val3 hown2
  refine ⟨o', c', w', hrun, hown2, hgr.os.trans hb.os, hgr.tape.trans hb.tape, hgr.output.trans hb.output, Nat.le_trans hb.size hgr.size, fun k hk hc => ?_⟩
  refine (hgr.block k (Nat.lt_of_lt_of_le hk hb.size) ?_).trans (hb.block k hk)
  intro e
  obtain ⟨_, ⟨hv, _⟩ | ⟨g, cap, cur, he, k1, k2, k3⟩⟩ := h
  · rw [hv] at e; simp [Value.ownBlock] at e
  · rw [he] at e
    simp [Value.ownBlock] at e
    subst e
    rcases hc with hc | hc
    · omega
    · exact hc _ _ k2
end Go.Proofs.YtcppnellgkbndaaDoor
