/- Rows of spans: as they lie, and what copy, clear and append make of them. -/
import Derived.Test.YtlobnlkpbenngaaRRep2
import Derived.Deep.AppendSrc
import Derived.Lib.AppendZerosOnto
import Derived.Lib.Overlaps
import Derived.Lib.Walk
import Derived.Lib.SliceRun
import Derived.Lib.JoinLaws
import Derived.Laws.IdiomCopy
import Derived.Laws.CopyRow
import Derived.Shelf.RegionOpenPlain
namespace Go.Proofs.YtlobnlkpbenngaaP
open Go.RowKit Go.Shelf Go.Lib
set_option linter.unusedVariables false

/-- The cells of spans. -/
def fl : List (Int × Nat) → List Value
  | [] => []
  | p :: t => .int .i64 p.1 :: .pointer (some ⟨p.2, 0, none⟩) :: fl t
@[simp] theorem fl_length (L : List (Int × Nat)) : (fl L).length = L.length * 2 := by
  induction L with
  | nil => rfl
  | cons p t ih => simp only [fl, List.length_cons, ih]; omega
set_option maxRecDepth 100000 in
theorem fl_append (L M : List (Int × Nat)) : fl (L ++ M) = fl L ++ fl M := by
  induction L with
  | nil => rfl
  | cons p t ih => simp only [List.cons_append, fl, ih]
set_option maxRecDepth 100000 in
theorem fl_one (L : List (Int × Nat)) : ∀ v ∈ fl L, v.oneCell' = true := by
  induction L with
  | nil => simp [fl]
  | cons p t ih =>
    intro v hv
    simp only [fl, List.mem_cons] at hv
    rcases hv with rfl | rfl | h
    · rfl
    · rfl
    · exact ih v h
set_option maxRecDepth 100000 in
theorem fl_take (L : List (Int × Nat)) (i : Nat) : fl (L.take i) = (fl L).take (i * 2) := by
  induction L generalizing i with
  | nil => simp [fl]
  | cons p t ih =>
    cases i with
    | zero => simp [fl]
    | succ i => rw [show (i + 1) * 2 = i * 2 + 1 + 1 by omega]; simp only [List.take_succ_cons, fl, ih]
set_option maxRecDepth 100000 in
theorem fl_drop (L : List (Int × Nat)) (i : Nat) : fl (L.drop i) = (fl L).drop (i * 2) := by
  induction L generalizing i with
  | nil => simp [fl]
  | cons p t ih =>
    cases i with
    | zero => simp [fl]
    | succ i => rw [show (i + 1) * 2 = i * 2 + 1 + 1 by omega]; simp only [List.drop_succ_cons, fl, ih]
set_option maxRecDepth 100000 in
theorem fl_get (L : List (Int × Nat)) (i : Nat) (h : i < L.length) : (fl L)[i * 2]? = some (.int .i64 L[i].1) ∧ (fl L)[i * 2 + 1]? = some (.pointer (some ⟨L[i].2, 0, none⟩)) := by
  induction L generalizing i with
  | nil => simp at h
  | cons p t ih =>
    cases i with
    | zero => simp [fl]
    | succ i =>
      rw [show (i + 1) * 2 = i * 2 + 1 + 1 by omega]
      simpa [fl] using ih i (by simpa using h)

set_option maxRecDepth 100000 in
/-- A list with a part of it written over. -/
theorem over_eq {α : Type} {X P Q S M : List α} {o : Nat} (hX : X = P ++ Q ++ S) (hP : P.length = o) (hQ : Q.length = M.length) : X.take o ++ M ++ X.drop (o + M.length) = P ++ M ++ S := by
  subst hX hP
  rw [← hQ, List.append_assoc P Q S, List.take_left' rfl]
  rw [← List.append_assoc P Q S, ← List.length_append, List.drop_left' rfl]

set_option maxRecDepth 100000 in
theorem info50 : (Try.prog.info? 73).map (fun i => (i.zero, i.size, i.bytes)) = some (some (.agg #[.int .i64 0, .pointer none]), 2, 16) := by kernel_rfl

/-- The block g holds the cells X of spans. -/
abbrev At (w : World) (g : Nat) (X : List Value) : Prop := w.heap[g]? = some (.cells X.toArray 73 (0, 0))

set_option maxRecDepth 100000 in
theorem At.cell {w : World} {g : Nat} {X : List Value} (h : At w g X) (j : Nat) : w.cell? ⟨g, j, none⟩ = X[j]? := by
  simp [World.cell?, h]
set_option maxRecDepth 100000 in
theorem At.lt {w : World} {g : Nat} {X : List Value} (h : At w g X) : g < w.heap.size := (Array.getElem?_eq_some_iff.1 h).1
set_option maxRecDepth 100000 in
theorem At.frozen {w : World} {g : Nat} {X : List Value} (h : At w g X) (j : Nat) : w.frozen? ⟨g, j, none⟩ = false := by
  simp [World.frozen?, h]
set_option maxRecDepth 100000 in
theorem At.set {w : World} {g : Nat} {X : List Value} (h : At w g X) (Y : List Value) : At (w.setRow g Y.toArray) g Y := setRow_heap w g _ _ 73 _ h

set_option maxRecDepth 100000 in
theorem run_copy2 (w : World) (ty : TypeId) (g o dLen dCap : Nat) (a : Addr) (sLen sCap : Nat) (X : List Value) (M : List (Int × Nat))
    (hg : At w g X) (hn : M.length = Nat.min sLen dLen) (hsrc : ∀ j v, (fl M)[j]? = some v → w.cell? (a.add j) = some v) (hfit : o + M.length * 2 ≤ X.length) :
    (Builtin.copy_ #[74, 74] ty #[.slice (some ⟨g, o, none⟩) dLen dCap, .slice (some a) sLen sCap]).run Try.prog w =
      .ok (goInt M.length) (w.setRow g (X.take o ++ fl M ++ X.drop (o + (fl M).length)).toArray) := by
  have hl := run_loadCells_list (P := Try.prog) w a (fl M) hsrc
  have hst := run_storeCells_at Try.prog g o 73 (fl M) 0 X.toArray w hg (by simpa using hfit) (fl_one M)
  obtain ⟨i, hq, hz, hi, hb⟩ := info_parts info50
  rw [fl_length] at hl
  simp [Builtin.copy_, run_underlying Try.underlying74, Builtin.lenOf, Builtin.firstCells, sizeOf, typeInfo, hq, hi, ← hn, hl, hst]

set_option maxRecDepth 100000 in
theorem run_clear2_none (w : World) (ty : TypeId) (a : Option Addr) (c : Nat) : (Builtin.clear_ #[74] ty #[.slice a 0 c]).run Try.prog w = .ok (.tuple #[]) w := by
  cases a <;> simp [Builtin.clear_, run_underlying Try.underlying74]

/-- Zero spans. -/
def zs (n : Nat) : List Value := (Builtin.zeroCells (Value.agg #[.int .i64 0, .pointer none]).cells n).toList
@[simp] theorem zs_length (n : Nat) : (zs n).length = n * 2 := by simp [zs, Builtin.zeroCells, Value.cells]
set_option maxRecDepth 100000 in
theorem zs_one (n : Nat) : ∀ v ∈ zs n, v.oneCell' = true := by
  intro v hv
  simp only [zs, Builtin.zeroCells, Value.cells, Array.toList_map, List.mem_map] at hv
  obtain ⟨i, _, rfl⟩ := hv
  have : i % (#[Value.int .i64 0, .pointer none] : Array Value).size < 2 := Nat.mod_lt _ (by decide)
  generalize i % (#[Value.int .i64 0, .pointer none] : Array Value).size = k at this
  rcases k with _ | _ | k
  · rfl
  · rfl
  · omega

set_option maxRecDepth 100000 in
theorem run_clear2 (w : World) (ty : TypeId) (g o n c : Nat) (X : List Value) (hg : At w g X) (hfit : o + n * 2 ≤ X.length) :
    (Builtin.clear_ #[74] ty #[.slice (some ⟨g, o, none⟩) n c]).run Try.prog w = .ok (.tuple #[]) (w.setRow g (X.take o ++ zs n ++ X.drop (o + (zs n).length)).toArray) := by
  rcases n with _ | n
  · rw [run_clear2_none]
    have : zs 0 = [] := List.length_eq_zero_iff.1 (zs_length 0)
    rw [this]
    simp only [List.append_nil, List.length_nil, Nat.add_zero, List.take_append_drop]
    rw [setRow_self w g _ 73 (0, 0) hg]
  · have hst := run_storeCells_at Try.prog g o 73 (zs (n + 1)) 0 X.toArray w hg (by simpa using hfit) (zs_one _)
    obtain ⟨i, hq, hz, hi, hb⟩ := info_parts info50
    simp only [zs] at hst ⊢
    simp [Builtin.clear_, run_underlying Try.underlying74, zeroValue, typeInfo, hq, hz, hst]

set_option maxRecDepth 100000 in
theorem src2 (w : World) (a : Addr) (c : Nat) (M : List (Int × Nat)) (h : ∀ j u, (fl M)[j]? = some u → w.cell? (a.add j) = some u) : Src Try.prog 2 74 (.slice (some a) M.length c) M.length (fl M) w :=
  Src.ofSlice w Try.underlying74 a _ c (fl M) (fl_length M) h (fl_one M)

set_option maxRecDepth 100000 in
theorem run_append2_room (w : World) (ty : TypeId) (g n c : Nat) (X : List Value) (x : Value) (m : Nat) (M : List (Int × Nat)) (hg : At w g X) (hs : Src Try.prog 2 74 x m (fl M) w) (hroom : n + m ≤ c) (hX : X.length = c * 2) (hm : M.length = m) :
    (Builtin.append_ #[74, 74] ty #[.slice (some ⟨g, 0, none⟩) n c, x]).run Try.prog w = .ok (.slice (some ⟨g, 0, none⟩) (n + m) c) (w.setRow g (X.take (n * 2) ++ fl M ++ X.drop (n * 2 + (fl M).length)).toArray) := by
  obtain ⟨i, hq, hz, hi, hb⟩ := info_parts info50
  have hst := run_storeCells_at Try.prog g (n * 2) 73 (fl M) 0 X.toArray w hg (by simp; omega) (fl_one M)
  rcases hs.kind with ⟨e', hk⟩ | hk <;> simp [Builtin.append_, run_underlying Try.underlying74, sizeOf, typeInfo, hq, hi, hs.len, hroom, hs.cells, Addr.add_lit, hst]

set_option maxRecDepth 100000 in
theorem run_append2_grow (w : World) (ty : TypeId) (base : Option Addr) (n c : Nat) (L M : List (Int × Nat)) (x : Value) (m : Nat) (hL : L.length = n) (hm : M.length = m)
    (hb : (base = none ∧ L = []) ∨ ∃ g X, base = some ⟨g, 0, none⟩ ∧ At w g (fl L ++ X)) (hs : Src Try.prog 2 74 x m (fl M) w) (hg : c < n + m) (hsm : n + m ≤ 68719476736) :
    ∃ c', n + m ≤ c' ∧ (Builtin.append_ #[74, 74] ty #[.slice base n c, x]).run Try.prog w = .ok (.slice (some ⟨w.heap.size, 0, none⟩) (n + m) c') (w.drew.alloc (.cells (fl L ++ fl M ++ zs (c' - (n + m))).toArray 73)) ∧ c' ≤ maxLen := by
  obtain ⟨i, hq, hz, hi, hby⟩ := info_parts info50
  refine ⟨grownCap w (n + m) c 73, grownCap_ge _ _ _ _, ?_, grownCap_le_maxLen _ _ _ _ (by unfold maxLen; omega)⟩
  have hold : (Builtin.firstCells i.size n (.slice base n c)).run Try.prog w.drew = .ok (fl L).toArray w.drew := by
    rw [hi]
    rcases hb with ⟨rfl, rfl⟩ | ⟨g, X, rfl, hA⟩
    · simp at hL; subst hL; exact run_firstCells_none w.drew 2 0 0 c
    · refine run_firstCells_some w.drew 2 n _ n c (fl L) (by rw [fl_length, hL]) (fun j v hj => ?_)
      have hA' : At w.drew g (fl L ++ X) := hA
      rw [Addr.add_lit, hA'.cell, Nat.zero_add, List.getElem?_append_left (by exact (List.getElem?_eq_some_iff.1 hj).1), hj]
  have := run_append_grow_src w 74 74 ty 73 i _ Try.underlying74 hq hz base n c (fl L) hold x m (fl M) (by rw [hi]; exact hs) hg (by omega) (by rw [hby]; exact growslice_fits hg (by omega))
  rw [this]
  congr 3
  apply Array.ext'
  simp [zs]

set_option maxRecDepth 100000 in
theorem run_append2_zeros (w : World) (ty : TypeId) (base : Option Addr) (n c k : Nat) (L : List (Int × Nat)) (hL : L.length = n)
    (hb : (base = none ∧ L = []) ∨ ∃ g X, base = some ⟨g, 0, none⟩ ∧ At w g (fl L ++ X)) (hk : 0 < k) (hg : c < n + k) (hsm : n + k ≤ 68719476736) :
    ∃ c', n + k ≤ c' ∧ (Builtin.append_ #[74, 3] ty #[.slice base n c, .int .i64 k]).run Try.prog w = .ok (.slice (some ⟨w.heap.size, 0, none⟩) (n + k) c') (w.drew.alloc (.cells (fl L ++ zs k ++ zs (c' - (n + k))).toArray 73)) ∧ c' ≤ maxLen := by
  obtain ⟨i, hq, hz, hi, hby⟩ := info_parts info50
  refine ⟨grownCap w (n + k) c 73, grownCap_ge _ _ _ _, ?_, grownCap_le_maxLen _ _ _ _ (by unfold maxLen; omega)⟩
  have hold : (Builtin.firstCells i.size n (.slice base n c)).run Try.prog w.drew = .ok (fl L).toArray w.drew := by
    rw [hi]
    rcases hb with ⟨rfl, rfl⟩ | ⟨g, X, rfl, hA⟩
    · simp at hL; subst hL; exact run_firstCells_none w.drew 2 0 0 c
    · refine run_firstCells_some w.drew 2 n _ n c (fl L) (by rw [fl_length, hL]) (fun j v hj => ?_)
      have hA' : At w.drew g (fl L ++ X) := hA
      rw [Addr.add_lit, hA'.cell, Nat.zero_add, List.getElem?_append_left (by exact (List.getElem?_eq_some_iff.1 hj).1), hj]
  have := run_append_grow_zeros w 74 3 ty 73 i _ .i64 .i64 Try.underlying74 Try.underlying3 hq hz base n c (fl L) hold k hk (by omega) hg (by omega) (by rw [hby]; omega) (by rw [hby]; exact growslice_fits hg (by omega))
  rw [this]
  congr 3
  apply Array.ext'
  simp [zs]

end Go.Proofs.YtlobnlkpbenngaaP
