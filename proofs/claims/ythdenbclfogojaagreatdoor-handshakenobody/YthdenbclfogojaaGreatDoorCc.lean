/- Config.clone; New, of what has no vault or no book. -/
import Derived.Test.YthdenbclfogojaaGreatDoorCg
namespace Go.Proofs.YthdenbclfogojaaGreatDoor
open Go.RowKit Go.Shelf Go.Lib
set_option linter.unusedVariables false

/-- What is cloned: a slice as it lies. -/
structure Sw (w : World) (b : Nat) (o : Option Addr) (n c : Nat) : Prop where
  row : ∃ xs : List Value, xs.length = n ∧ Rt w o xs ∧ ∀ u ∈ xs, u.oneCell' = true
  big : n * b ≤ 140737488355328
  nil : o = none → n = 0 ∧ c = 0
theorem Sw.c23 {w : World} {o : Option Addr} {n c : Nat} (h : Sw w 1 o n c) {X : World} (hb : Below w.heap.size w X) : Calls Tryz.prog 53 #[.slice o n c] X (ClR X) := by
  obtain ⟨xs, rfl, h1, h2⟩ := h.row
  exact clone23 o xs c X (h1.bel hb) h2 (by have := h.big; omega) h.nil
theorem Sw.c22 {w : World} {o : Option Addr} {n c : Nat} (h : Sw w 16 o n c) {X : World} (hb : Below w.heap.size w X) : Calls Tryz.prog 52 #[.slice o n c] X (ClR X) := by
  obtain ⟨xs, rfl, h1, h2⟩ := h.row
  exact clone22 o xs c X (h1.bel hb) h2 h.big h.nil
theorem Sw.bel {w w' : World} {b : Nat} {o : Option Addr} {n c : Nat} (h : Sw w b o n c) (hb : Below w.heap.size w w') : Sw w' b o n c := by
  obtain ⟨xs, e, h1, h2⟩ := h.row
  exact ⟨⟨xs, e, h1.bel hb, h2⟩, h.big, h.nil⟩
theorem Sw.none23 (w : World) : Sw w 1 none 0 0 := ⟨⟨[], rfl, fun j u h => by simp at h, fun u h => by simp at h⟩, by decide, fun _ => ⟨rfl, rfl⟩⟩
theorem cell_row {w : World} {g t j : Nat} {X : List Value} {v : Value} (h : w.heap[g]? = some (.cells X.toArray t (0, 0))) (hj : X[j]? = some v) : w.cell? ⟨g, j, none⟩ = some v ∧ w.frozen? ⟨g, j, none⟩ = false := by
  constructor
  · unfold World.cell?
    simp only [h]
    simpa using hj
  · simp [World.frozen?, h]
theorem set_row {w : World} {g t j : Nat} {X : List Value} (v : Value) (h : w.heap[g]? = some (.cells X.toArray t (0, 0))) : w.setCell ⟨g, j, none⟩ v = w.setRow g (X.set j v).toArray := by
  rw [setCell_eq_setRow w g j _ t (0, 0) v h]
  congr 1
  simp
theorem set_one {X : List Value} {j : Nat} {v : Value} (h : X.toArray.all (·.oneCell') = true) (hv : v.oneCell' = true) : (X.set j v).toArray.all (·.oneCell') = true := by
  rw [List.all_toArray, List.all_eq_true] at *
  intro u hu
  rcases List.mem_or_eq_of_mem_set hu with h' | rfl
  · exact h u h'
  · exact hv
theorem two (w : World) (A B : Obj) : ((w.alloc A).alloc B).heap[w.heap.size]? = some A ∧ ((w.alloc A).alloc B).heap[w.heap.size + 1]? = some B ∧ Below w.heap.size w ((w.alloc A).alloc B) := by
  have a1 := heap_alloc_new w A
  have b1 := bel1 w A
  have b2 := bel1 (w.alloc A) B
  have c := heap_alloc_new (w.alloc A) B
  refine ⟨heap_bel a1 b2, by simpa using c, bel_trans b1 b2⟩
set_option maxRecDepth 100000 in
set_option maxHeartbeats 400000 in
theorem cclone (C : List Value) (hl : C.length = 57) (h1 : C.toArray.all (·.oneCell') = true) (o1 : Option Addr) (n1 c1 : Nat) (o2 : Option Addr) (n2 c2 : Nat) (e34 : C[34]? = some (.slice o1 n1 c1)) (e35 : C[35]? = some (.slice o2 n2 c2)) (e36 : C[36]? = some (.slice none 0 0))
    (w : World) (s1 : Sw w 16 o1 n1 c1) (s2 : Sw w 1 o2 n2 c2) :
    Calls Tryz.prog 33 #[.agg C.toArray] w fun e w' => ∃ C' : List Value, e = .returned (.agg C'.toArray) ∧ C'.length = 57 ∧ C'[0]? = C[0]? ∧ C'.toArray.all (·.oneCell') = true ∧ Below w.heap.size w w' := by
  have q2 := z33
  have hcf : cf0.length = 57 := rfl
  have hcn : ¬ cf0 = [] := fun h => by rw [h] at hcf; cases hcf
  generalize cf0 = CF at *
  have H2 : Hid _ := two w (.cells C.toArray 33) (.cells CF.toArray 33)
  have hc := (cell_row H2.out.1 e34).1
  have HC : Hid _ := s1.c22 H2.out.2.2
  have HS2 : Hid _ := s2
  have E35 : Hid _ := e35
  have E36 : Hid _ := e36
  have HL : Hid _ := hl
  have H1 : Hid _ := h1
  clear s1 s2 e34 e35 e36 hl h1
  go_enter Tryz.func33, Tryz.ntmps33
  go_wp2_with fail
  refine Calls.mono HC.out ?_
  rintro e W2 ⟨⟨a1, b1, d1, rfl⟩, hb2⟩
  have HG : Hid (W2.heap[w.heap.size]? = some (.cells C.toArray 33 (0, 0))) := heap_bel H2.out.1 hb2
  have HR : Hid (W2.heap[w.heap.size + 1]? = some (.cells CF.toArray 33 (0, 0))) := heap_bel H2.out.2.1 hb2
  have HB : Hid (Below w.heap.size w W2) := bel_trans H2.out.2.2 hb2
  obtain ⟨x0, hx0⟩ : ∃ x, C[34]? = some x := ⟨_, List.getElem?_eq_getElem (by rw [HL.out]; decide)⟩
  obtain ⟨f1, f2⟩ := cell_row HG.out hx0
  have c35 := (cell_row HG.out E35.out).1
  clear hb2 H2 HC hc
  as_aux_lemma =>
  go_wp2_with fail
  rw [set_row _ HG.out]
  have HG2 : Hid _ := setRow_heap W2 w.heap.size _ (C.set 34 (.slice a1 b1 d1)).toArray 33 (0, 0) HG.out
  have HR2 : Hid _ := (setRow_other W2 w.heap.size (w.heap.size + 1) (C.set 34 (.slice a1 b1 d1)).toArray (by omega)).trans HR.out
  have HB2 : Hid _ := bel_set HB.out (Nat.le_refl w.heap.size) (C.set 34 (.slice a1 b1 d1)).toArray
  generalize W2.setRow w.heap.size (C.set 34 (.slice a1 b1 d1)).toArray = W3 at *
  have HL2 : Hid ((C.set 34 (.slice a1 b1 d1)).length = 57) := by show _ = _; rw [List.length_set]; exact HL.out
  have H12 : Hid ((C.set 34 (.slice a1 b1 d1)).toArray.all (·.oneCell') = true) := set_one H1.out rfl
  have HZ2 : Hid ((C.set 34 (.slice a1 b1 d1))[0]? = C[0]?) := by show _ = _; rw [List.getElem?_set_ne (by decide)]
  have G36 : Hid ((C.set 34 (.slice a1 b1 d1))[36]? = some (.slice none 0 0)) := by show _ = _; rw [List.getElem?_set_ne (by decide)]; exact E36.out
  clear HG HR HB hx0 f1 f2 c35 E35 E36 HL H1
  generalize C.set 34 (.slice a1 b1 d1) = D at *
  refine Calls.mono (HS2.out.c23 HB2.out) ?_
  rintro e W4 ⟨⟨a2, b2, d2, rfl⟩, hb2⟩
  have HG : Hid (W4.heap[w.heap.size]? = some (.cells D.toArray 33 (0, 0))) := heap_bel HG2.out hb2
  have HR : Hid (W4.heap[w.heap.size + 1]? = some (.cells CF.toArray 33 (0, 0))) := heap_bel HR2.out hb2
  have HB : Hid (Below w.heap.size w W4) := bel_trans HB2.out hb2
  obtain ⟨x0, hx0⟩ : ∃ x, D[35]? = some x := ⟨_, List.getElem?_eq_getElem (by rw [HL2.out]; decide)⟩
  obtain ⟨f1, f2⟩ := cell_row HG.out hx0
  have c36 := (cell_row HG.out G36.out).1
  clear hb2 HG2 HR2 HB2 HS2
  as_aux_lemma =>
  go_wp2_with fail
  rw [set_row _ HG.out]
  have HG2 : Hid _ := setRow_heap W4 w.heap.size _ (D.set 35 (.slice a2 b2 d2)).toArray 33 (0, 0) HG.out
  have HR2 : Hid _ := (setRow_other W4 w.heap.size (w.heap.size + 1) (D.set 35 (.slice a2 b2 d2)).toArray (by omega)).trans HR.out
  have HB2 : Hid _ := bel_set HB.out (Nat.le_refl w.heap.size) (D.set 35 (.slice a2 b2 d2)).toArray
  generalize W4.setRow w.heap.size (D.set 35 (.slice a2 b2 d2)).toArray = W5 at *
  have HL3 : Hid ((D.set 35 (.slice a2 b2 d2)).length = 57) := by show _ = _; rw [List.length_set]; exact HL2.out
  have H13 : Hid ((D.set 35 (.slice a2 b2 d2)).toArray.all (·.oneCell') = true) := set_one H12.out rfl
  have HZ3 : Hid ((D.set 35 (.slice a2 b2 d2))[0]? = C[0]?) := by show _ = _; rw [List.getElem?_set_ne (by decide)]; exact HZ2.out
  clear HG HR HB hx0 f1 f2 c36 G36 HL2 H12 HZ2
  generalize D.set 35 (.slice a2 b2 d2) = E at *
  refine Calls.mono ((Sw.none23 w).c23 HB2.out) ?_
  rintro e W6 ⟨⟨a3, b3, d3, rfl⟩, hb2⟩
  have HG : Hid (W6.heap[w.heap.size]? = some (.cells E.toArray 33 (0, 0))) := heap_bel HG2.out hb2
  have HR : Hid (W6.heap[w.heap.size + 1]? = some (.cells CF.toArray 33 (0, 0))) := heap_bel HR2.out hb2
  have HB : Hid (Below w.heap.size w W6) := bel_trans HB2.out hb2
  obtain ⟨x0, hx0⟩ : ∃ x, E[36]? = some x := ⟨_, List.getElem?_eq_getElem (by rw [HL3.out]; decide)⟩
  obtain ⟨f1, f2⟩ := cell_row HG.out hx0
  have hset := set_row (j := 36) (.slice a3 b3 d3) HG.out
  have HG3 : Hid _ := setRow_heap W6 w.heap.size _ (E.set 36 (.slice a3 b3 d3)).toArray 33 (0, 0) HG.out
  have HR3 : Hid _ := (setRow_other W6 w.heap.size (w.heap.size + 1) (E.set 36 (.slice a3 b3 d3)).toArray (by omega)).trans HR.out
  have HB3 : Hid _ := bel_set HB.out (Nat.le_refl w.heap.size) (E.set 36 (.slice a3 b3 d3)).toArray
  have HL4 : Hid ((E.set 36 (.slice a3 b3 d3)).length = 57) := by show _ = _; rw [List.length_set]; exact HL3.out
  have H14 : Hid ((E.set 36 (.slice a3 b3 d3)).toArray.all (·.oneCell') = true) := set_one H13.out rfl
  have HZ4 : Hid ((E.set 36 (.slice a3 b3 d3))[0]? = C[0]?) := by show _ = _; rw [List.getElem?_set_ne (by decide)]; exact HZ3.out
  clear HG HR HB hb2 HG2 HR2 HB2 HL3 H13 HZ3 hx0
  generalize E.set 36 (.slice a3 b3 d3) = F at *
  generalize W6.setRow w.heap.size F.toArray = W7 at *
  as_aux_lemma =>
  go_wp2_with (first
    | refine wpList_load_row rfl 33 (.tmp 1) rfl w.heap.size rfl 33 _ (0, 0) _ HG3.out u33 rfl (i33.trans (by simp [HL4.out])) ?_
    | refine wpList_store_row rfl 33 (.tmp 2) (.tmp 17) rfl (w.heap.size + 1) F.toArray rfl rfl 33 _ HR3.out (i33.trans (by simp [HL4.out])) (by simp [HL4.out, hcf]) H14.out (Hid.out ?_))
  have HF : Hid _ := setRow_heap W7 _ _ F.toArray 33 (0, 0) HR3.out
  have HB4 : Hid _ := bel_set HB3.out (show w.heap.size ≤ w.heap.size + 1 by omega) F.toArray
  refine mkHid ?_
  go_wp2_with fail
  refine bodyPost_ret (v := .agg F.toArray) (results_cell_row (fn := Tryz.f33) rfl _ _ (w.heap.size + 1) 33 _ (0, 0) _ rfl HF.out u33 rfl (i33.trans (by simp [HL4.out]))) rfl ?_
  exact ⟨F, rfl, HL4.out, HZ4.out, H14.out, HB4.out⟩
end Go.Proofs.YthdenbclfogojaaGreatDoor
