/- New, of what has no vault or no book. -/
import Derived.Test.YthdenbclfogojaaGreatDoorCc
namespace Go.Proofs.YthdenbclfogojaaGreatDoor
open Go.RowKit Go.Shelf Go.Lib
set_option linter.unusedVariables false

def sdl (p : Option Addr) (C : List Value) (k : Option Addr) : List Value := .pointer p :: (C ++ [.pointer k])
set_option maxRecDepth 10000 in
theorem built36 (p : Option Addr) (c : List Value) (h : c.length = 57) : Tryz.prog.built 36 [(0, .pointer p), (1, .agg c.toArray)] = some (sdl p c none).toArray := by
  rcases c with _ | ⟨a0, c⟩
  · simp at h
  rcases c with _ | ⟨a1, c⟩
  · simp at h
  rcases c with _ | ⟨a2, c⟩
  · simp at h
  rcases c with _ | ⟨a3, c⟩
  · simp at h
  rcases c with _ | ⟨a4, c⟩
  · simp at h
  rcases c with _ | ⟨a5, c⟩
  · simp at h
  rcases c with _ | ⟨a6, c⟩
  · simp at h
  rcases c with _ | ⟨a7, c⟩
  · simp at h
  rcases c with _ | ⟨a8, c⟩
  · simp at h
  rcases c with _ | ⟨a9, c⟩
  · simp at h
  rcases c with _ | ⟨a10, c⟩
  · simp at h
  rcases c with _ | ⟨a11, c⟩
  · simp at h
  rcases c with _ | ⟨a12, c⟩
  · simp at h
  rcases c with _ | ⟨a13, c⟩
  · simp at h
  rcases c with _ | ⟨a14, c⟩
  · simp at h
  rcases c with _ | ⟨a15, c⟩
  · simp at h
  rcases c with _ | ⟨a16, c⟩
  · simp at h
  rcases c with _ | ⟨a17, c⟩
  · simp at h
  rcases c with _ | ⟨a18, c⟩
  · simp at h
  rcases c with _ | ⟨a19, c⟩
  · simp at h
  rcases c with _ | ⟨a20, c⟩
  · simp at h
  rcases c with _ | ⟨a21, c⟩
  · simp at h
  rcases c with _ | ⟨a22, c⟩
  · simp at h
  rcases c with _ | ⟨a23, c⟩
  · simp at h
  rcases c with _ | ⟨a24, c⟩
  · simp at h
  rcases c with _ | ⟨a25, c⟩
  · simp at h
  rcases c with _ | ⟨a26, c⟩
  · simp at h
  rcases c with _ | ⟨a27, c⟩
  · simp at h
  rcases c with _ | ⟨a28, c⟩
  · simp at h
  rcases c with _ | ⟨a29, c⟩
  · simp at h
  rcases c with _ | ⟨a30, c⟩
  · simp at h
  rcases c with _ | ⟨a31, c⟩
  · simp at h
  rcases c with _ | ⟨a32, c⟩
  · simp at h
  rcases c with _ | ⟨a33, c⟩
  · simp at h
  rcases c with _ | ⟨a34, c⟩
  · simp at h
  rcases c with _ | ⟨a35, c⟩
  · simp at h
  rcases c with _ | ⟨a36, c⟩
  · simp at h
  rcases c with _ | ⟨a37, c⟩
  · simp at h
  rcases c with _ | ⟨a38, c⟩
  · simp at h
  rcases c with _ | ⟨a39, c⟩
  · simp at h
  rcases c with _ | ⟨a40, c⟩
  · simp at h
  rcases c with _ | ⟨a41, c⟩
  · simp at h
  rcases c with _ | ⟨a42, c⟩
  · simp at h
  rcases c with _ | ⟨a43, c⟩
  · simp at h
  rcases c with _ | ⟨a44, c⟩
  · simp at h
  rcases c with _ | ⟨a45, c⟩
  · simp at h
  rcases c with _ | ⟨a46, c⟩
  · simp at h
  rcases c with _ | ⟨a47, c⟩
  · simp at h
  rcases c with _ | ⟨a48, c⟩
  · simp at h
  rcases c with _ | ⟨a49, c⟩
  · simp at h
  rcases c with _ | ⟨a50, c⟩
  · simp at h
  rcases c with _ | ⟨a51, c⟩
  · simp at h
  rcases c with _ | ⟨a52, c⟩
  · simp at h
  rcases c with _ | ⟨a53, c⟩
  · simp at h
  rcases c with _ | ⟨a54, c⟩
  · simp at h
  rcases c with _ | ⟨a55, c⟩
  · simp at h
  rcases c with _ | ⟨a56, c⟩
  · simp at h
  rcases c with _ | ⟨x, c⟩
  · kernel_rfl
  · simp at h
theorem wb36 {ops : Array Oper} {rest : List Oper} {o : Oper} {a : Act} {w : World} {Q : Exit → Act → World → Prop} (hg : o.guard = none) (x y : Operand) (ho : o.op = .build 36 #[(0, x), (1, y)]) (p : Option Addr) (C : List Value) (hC : C.length = 57) (hx : a.eval x = .pointer p) (hy : a.eval y = .agg C.toArray)
    (h : wpList Tryz.prog ops Q rest (a.put o.dst (.agg (sdl p C none).toArray)) w) : wpList Tryz.prog ops Q (o :: rest) a w :=
  wpList_plain hg fun K hK => by
    unfold Oper.wp execOp
    simp only [ho, List.map_toArray, List.map_cons, List.map_nil, hx, hy, Sem.run_bind, run_build w 36 #[(0, .pointer p), (1, .agg C.toArray)] _ (built36 p C hC), Result.andThen_ok, Sem.run_pure]
    exact hK _ _ h
theorem z36 (w : World) : (zeroValue 36).run Tryz.prog w = .ok (.agg sd0.toArray) w := by kernel_rfl
set_option maxRecDepth 100000 in
set_option maxHeartbeats 400000 in
theorem new_no (C : List Value) (hl : C.length = 57) (h1 : C.toArray.all (·.oneCell') = true) (o1 : Option Addr) (n1 c1 : Nat) (o2 : Option Addr) (n2 c2 : Nat) (e0 : C[0]? = some (.bool true)) (e34 : C[34]? = some (.slice o1 n1 c1)) (e35 : C[35]? = some (.slice o2 n2 c2)) (e36 : C[36]? = some (.slice none 0 0))
    (w : World) (s1 : Sw w 16 o1 n1 c1) (s2 : Sw w 1 o2 n2 c2) (p k : Option Addr)
    (hno : ∀ (S : List Value) (X : World), Below w.heap.size w X → S[0]? = some (.pointer p) → S[1]? = some (.bool true) → S[58]? = some (.pointer k) → Calls Tryz.prog 34 #[.agg S.toArray] X fun e w' => e = .returned (.bool true) ∧ Below X.heap.size X w') :
    Calls Tryz.prog 14 #[.pointer p, .agg C.toArray, .pointer k] w fun e w' => e = .returned (.tuple #[.pointer none, .int .i64 1]) ∧ Below w.heap.size w w' := by
  have hb1 := bel1 w (.cells C.toArray 33)
  have HG : Hid _ := heap_alloc_new w (.cells C.toArray 33)
  have HC : Hid _ := cclone C hl h1 o1 n1 c1 o2 n2 c2 e34 e35 e36 (w.alloc (.cells C.toArray 33)) (s1.bel hb1) (s2.bel hb1)
  have HB : Hid _ := hb1
  have HN : Hid _ := hno
  have HL : Hid _ := hl
  have E0 : Hid _ := e0
  clear hb1 h1 e34 e35 e36 s1 s2 hno hl e0
  go_enter Tryz.func14, Tryz.ntmps14
  go_wp2_with (refine wpList_load_row rfl 33 (.tmp 4) rfl w.heap.size rfl 33 _ (0, 0) _ HG.out u33 rfl (i33.trans (by simp [HL.out])) ?_)
  refine Calls.mono HC.out ?_
  rintro e W2 ⟨D, rfl, hl2, hz2, h12, hb2⟩
  have HG2 : Hid (W2.heap[w.heap.size]? = some (.cells C.toArray 33 (0, 0))) := heap_bel HG.out hb2
  have HB2 : Hid (Below w.heap.size w W2) := bel_trans HB.out hb2
  have E2 : Hid (D[0]? = some (.bool true)) := hz2.trans E0.out
  have HL2 : Hid _ := hl2
  have H12 : Hid _ := h12
  have q := z36
  have hsd : sd0.length = 59 := rfl
  have hsn : ¬ sd0 = [] := fun h => by rw [h] at hsd; cases hsd
  generalize sd0 = SD at *
  have HA : Hid _ := heap_alloc_new W2 (.cells SD.toArray 36)
  obtain ⟨S, hS⟩ : ∃ S, sdl p D none = S := ⟨_, rfl⟩
  have HS1 : Hid (S.toArray.all (·.oneCell') = true) := by
    show _ = _
    have := H12.out
    rw [List.all_toArray] at this
    rw [← hS, sdl, List.all_toArray, List.all_cons, List.all_append, this]
    rfl
  have HSL : Hid (S.length = 59) := by show _ = _; rw [← hS]; simp [sdl, hl2]
  have HS0 : Hid ((S.set 58 (.pointer k))[0]? = some (.pointer p)) := by show _ = _; rw [← hS]; simp [sdl]
  have HS2 : Hid ((S.set 58 (.pointer k))[1]? = some (.bool true)) := by
    show _ = _
    rw [List.getElem?_set_ne (by decide), ← hS]
    show (D ++ [.pointer none])[0]? = _
    rw [List.getElem?_append_left (by rw [hl2]; decide)]
    exact E2.out
  have HS3 : Hid ((S.set 58 (.pointer k))[58]? = some (.pointer k)) := by
    show _ = _
    rw [List.getElem?_set_self (by rw [HSL.out]; decide)]
  clear hb2 HC hl2 hz2 h12 HG HB
  as_aux_lemma =>
  go_wp2_with (first
    | (refine wb36 rfl (.tmp 9) (.tmp 11) rfl p D HL2.out rfl rfl ?_; rw [hS])
    | refine wpList_store_row rfl 36 (.tmp 8) (.tmp 12) rfl W2.heap.size S.toArray rfl rfl 36 _ HA.out (i36.trans (by simp [HSL.out])) (by simp [HSL.out, hsd]) HS1.out (Hid.out ?_))
  have hlt : w.heap.size < W2.heap.size := (Array.getElem?_eq_some_iff.1 HG2.out).1
  have hb3 := bel1 W2 (.cells SD.toArray 36)
  have HG3 : Hid (((W2.alloc (.cells SD.toArray 36)).setRow W2.heap.size S.toArray).heap[w.heap.size]? = some (.cells C.toArray 33 (0, 0))) := (setRow_other _ W2.heap.size w.heap.size S.toArray (by omega)).trans (heap_bel HG2.out hb3)
  have HA3 : Hid _ := setRow_heap _ W2.heap.size _ S.toArray 36 (0, 0) HA.out
  have HB3 : Hid _ := bel_set (bel_trans HB2.out hb3) (show w.heap.size ≤ W2.heap.size by omega) S.toArray
  clear hb3 HA HG2
  generalize (W2.alloc (.cells SD.toArray 36)).setRow W2.heap.size S.toArray = W3 at *
  have c0 := (cell_row HG3.out E0.out).1
  obtain ⟨x0, hx0⟩ : ∃ x, S[58]? = some x := ⟨_, List.getElem?_eq_getElem (by rw [HSL.out]; decide)⟩
  obtain ⟨f1, f2⟩ := cell_row HA3.out hx0
  have hset := set_row (j := 58) (.pointer k) HA3.out
  have HA4 : Hid _ := setRow_heap W3 W2.heap.size _ (S.set 58 (.pointer k)).toArray 36 (0, 0) HA3.out
  have HB4 : Hid _ := bel_set HB3.out (show w.heap.size ≤ W2.heap.size by omega) (S.set 58 (.pointer k)).toArray
  have HSL4 : Hid ((S.set 58 (.pointer k)).length = 59) := by show _ = _; rw [List.length_set]; exact HSL.out
  clear HG3 HA3 HB3 HB2 hx0 hS HS1 HSL H12 HL2 E2 E0 HL
  generalize S.set 58 (.pointer k) = S' at *
  generalize W3.setRow W2.heap.size S'.toArray = W4 at *
  refine mkHid ?_
  as_aux_lemma =>
  go_wp2_with (refine wpList_load_row rfl 36 (.tmp 8) rfl W2.heap.size rfl 36 _ (0, 0) _ HA4.out u36 rfl (i36.trans (by simp [HSL4.out])) ?_)
  refine Calls.mono (HN.out S' W4 HB4.out HS0.out HS2.out HS3.out) ?_
  rintro e W5 ⟨rfl, hb5⟩
  have HB5 : Hid _ := bel_trans HB4.out hb5
  clear hb5 hset c0 f1 f2
  as_aux_lemma =>
  go_wp2_with fail
  go_ret2
  exact ⟨rfl, HB5.out⟩
end Go.Proofs.YthdenbclfogojaaGreatDoor
