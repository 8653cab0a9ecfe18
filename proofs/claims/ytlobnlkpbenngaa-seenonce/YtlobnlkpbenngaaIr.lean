/- A row of ints that grows. -/
import Derived.Test.YtlobnlkpbenngaaNew
namespace Go.Proofs.YtlobnlkpbenngaaR
open Go.RowKit Go.Shelf Go.Lib
set_option linter.unusedVariables false

def iv (C : List Int) : List Value := C.map (fun x => Value.int .i64 x)
@[simp] theorem iv_length (C : List Int) : (iv C).length = C.length := by simp [iv]
theorem iv_append (A B : List Int) : iv (A ++ B) = iv A ++ iv B := by simp [iv]
theorem iv_one (C : List Int) : ∀ v ∈ iv C, v.oneCell' = true := by
  intro v hv
  simp only [iv, List.mem_map] at hv
  obtain ⟨x, _, rfl⟩ := hv
  rfl
theorem info3 : (Try.prog.info? 3).map (fun i => (i.zero, i.size, i.bytes)) = some (some (.int .i64 0), 1, 8) := by kernel_rfl

/-- A slice of the ints C, its row made since n₀. -/
def Ir (n₀ : Nat) (w : World) (o : Option Addr) (c : Nat) (C : List Int) : Prop :=
  (o = none ∧ C = [] ∧ c = 0) ∨ ∃ g R, o = some ⟨g, 0, none⟩ ∧ w.heap[g]? = some (.cells (iv C ++ R).toArray 3 (0, 0)) ∧ R.length + C.length = c ∧ n₀ ≤ g

theorem Ir.ks {n₀ s : Nat} {w w' : World} {o : Option Addr} {c : Nat} {C : List Int} (h : Ir n₀ w o c C) (hk : Ks n₀ s w w') {M : Nat} {v : Svs} (hs : Sc w s M v) : Ir n₀ w' o c C := by
  rcases h with h | ⟨g, R, h1, h2, h3, h4⟩
  · exact .inl h
  · refine .inr ⟨g, R, h1, hk.cells h2 ?_ nut3, h3, h4⟩
    rintro rfl
    have h' : w.heap[g]? = _ := hs
    rw [h'] at h2
    simp at h2
theorem Ir.below {n₀ : Nat} {w w' : World} {o : Option Addr} {c : Nat} {C : List Int} (h : Ir n₀ w o c C) (hb : Below w.heap.size w w') : Ir n₀ w' o c C := by
  rcases h with h | ⟨g, R, h1, h2, h3, h4⟩
  · exact .inl h
  · exact .inr ⟨g, R, h1, (hb.block g (Array.getElem?_eq_some_iff.1 h2).1).trans h2, h3, h4⟩
theorem cellI {w : World} {g : Nat} {X : List Value} (h : w.heap[g]? = some (.cells X.toArray 3 (0, 0))) (j : Nat) : w.cell? ⟨g, j, none⟩ = X[j]? := by
  simp [World.cell?, h]
theorem Ir.cell {n₀ : Nat} {w : World} {o : Option Addr} {c : Nat} {C : List Int} (h : Ir n₀ w o c C) (k : Nat) (hk : k < C.length) : ∃ g, o = some ⟨g, 0, none⟩ ∧ w.cell? ⟨g, k, none⟩ = some (.int .i64 C[k]) := by
  rcases h with ⟨_, rfl, _⟩ | ⟨g, R, h1, h2, h3, h4⟩
  · simp at hk
  · refine ⟨g, h1, ?_⟩
    rw [cellI h2, List.getElem?_append_left (by simpa using hk)]
    simp [iv, hk]

set_option maxRecDepth 100000 in
/-- One more. -/
theorem Ir.push {n₀ : Nat} {w : World} {o : Option Addr} {c : Nat} {C : List Int} (h : Ir n₀ w o c C) (hn₀ : n₀ ≤ w.heap.size) (x : Int) (hl : C.length < 17592186043904) :
    ∃ g c' w3, (∀ ty, (Builtin.append_ #[51, 51] ty #[.slice o C.length c, .slice (some ⟨w.heap.size, 0, none⟩) 1 1]).run Try.prog (w.alloc (.cells #[.int .i64 x] 3)) = .ok (.slice (some ⟨g, 0, none⟩) (C.length + 1) c') w3) ∧
      Ir n₀ w3 (some ⟨g, 0, none⟩) c' (C ++ [x]) ∧ Chg (fun k => o = some ⟨k, 0, none⟩) w w3 := by
  obtain ⟨i, hq, hz, hi, hby⟩ := info_parts info3
  have hT := World.alloc_heap_new w (.cells #[.int .i64 x] 3)
  have hC0 : Chg (fun k => o = some ⟨k, 0, none⟩) w (w.alloc (.cells #[.int .i64 x] 3)) := (Chg.refl _ w).alloc _
  have hs : Src Try.prog 1 51 (.slice (some ⟨w.heap.size, 0, none⟩) 1 1) 1 (iv [x]) (w.alloc (.cells #[.int .i64 x] 3)) := Src.ofSlice _ Try.underlying51 ⟨w.heap.size, 0, none⟩ _ 1 (iv [x]) (by simp [iv]) (fun j u hu => by
    have hj := (List.getElem?_eq_some_iff.1 hu).1
    simp [iv] at hj
    subst hj
    rw [Addr.add_lit]
    simp only [World.cell?, hT]
    simpa [iv] using hu) (iv_one _)
  by_cases hroom : C.length + 1 ≤ c
  · rcases h with ⟨_, rfl, rfl⟩ | ⟨g, R, rfl, hA, hR, hg⟩
    · simp at hroom
    · have hlt := (Array.getElem?_eq_some_iff.1 hA).1
      have hA' : (w.alloc (.cells #[.int .i64 x] 3)).heap[g]? = some (.cells (iv C ++ R).toArray 3 (0, 0)) := (Below.heap_alloc w _ g hlt).trans hA
      have hst := run_storeCells_at Try.prog g C.length 3 (iv [x]) 0 (iv C ++ R).toArray _ hA' (by simp [iv]; omega) (iv_one [x])
      have hrun : ∀ ty, (Builtin.append_ #[51, 51] ty #[.slice (some ⟨g, 0, none⟩) C.length c, .slice (some ⟨w.heap.size, 0, none⟩) 1 1]).run Try.prog (w.alloc (.cells #[.int .i64 x] 3)) = .ok (.slice (some ⟨g, 0, none⟩) (C.length + 1) c) ((w.alloc (.cells #[.int .i64 x] 3)).setRow g ((iv C ++ R).take C.length ++ iv [x] ++ (iv C ++ R).drop (C.length + (iv [x]).length)).toArray) := by
        intro ty
        rcases hs.kind with ⟨e', hk⟩ | hk <;> simp [Builtin.append_, run_underlying Try.underlying51, sizeOf, typeInfo, hq, hi, hs.len, hroom, hs.cells, Addr.add_lit, hst]
      refine ⟨g, c, _, hrun, .inr ⟨g, R.drop 1, rfl, ?_, by simp; omega, hg⟩, hC0.set g _ (.inl rfl)⟩
      have e := over_eq (X := iv C ++ R) (P := iv C) (Q := R.take 1) (S := R.drop 1) (M := iv [x]) (o := C.length) (by rw [List.append_assoc, List.take_append_drop]) (by simp) (by simp [iv]; omega)
      rw [e, iv_append]
      exact setRow_heap _ g _ _ 3 _ hA'
  · have hold : (Builtin.firstCells i.size C.length (.slice o C.length c)).run Try.prog (w.alloc (.cells #[.int .i64 x] 3)).drew = .ok (iv C).toArray (w.alloc (.cells #[.int .i64 x] 3)).drew := by
      rw [hi]
      rcases h with ⟨rfl, rfl, rfl⟩ | ⟨g, R, rfl, hA, hR, hg⟩
      · exact run_firstCells_none _ 1 0 0 _
      · refine run_firstCells_some _ 1 C.length _ C.length c (iv C) (by simp) (fun j v hj => ?_)
        have hlt := (Array.getElem?_eq_some_iff.1 hA).1
        have hA' : (w.alloc (.cells #[.int .i64 x] 3)).drew.heap[g]? = some (.cells (iv C ++ R).toArray 3 (0, 0)) := (Below.heap_alloc w _ g hlt).trans hA
        have hjl := (List.getElem?_eq_some_iff.1 hj).1
        rw [Addr.add_lit, cellI hA', Nat.zero_add, List.getElem?_append_left hjl, hj]
    have hrun := fun ty => run_append_grow_src (w.alloc (.cells #[.int .i64 x] 3)) 51 51 ty 3 i _ Try.underlying51 hq hz o C.length c (iv C) hold _ 1 (iv [x]) (by rw [hi]; exact hs) (by omega) (by omega) (by rw [hby]; exact growslice_fits (by omega) (by omega))
    refine ⟨_, _, _, hrun, .inr ⟨_, (Builtin.zeroCells (Value.int .i64 0).cells (grownCap (w.alloc (.cells #[.int .i64 x] 3)) (C.length + 1) c 3 - (C.length + 1))).toList, rfl, ?_, ?_, by simp; omega⟩, (hC0.drew).alloc _⟩
    · rw [iv_append]
      refine (World.alloc_heap_new (w.alloc (.cells #[.int .i64 x] 3)).drew _).trans ?_
      congr 2
      apply Array.ext'
      simp
    · have := grownCap_ge (w.alloc (.cells #[.int .i64 x] 3)) (C.length + 1) c 3
      simp [Builtin.zeroCells, Value.cells]
      omega
end Go.Proofs.YtlobnlkpbenngaaR
