/- The law's config; Config.clone; New, of what has no vault or no book. -/
import Derived.Test.YthdenbclfogojaaGreatDoorNh
namespace Go.Proofs.YthdenbclfogojaaGreatDoor
open Go.RowKit Go.Shelf Go.Lib
set_option linter.unusedVariables false

theorem setRow_self {w : World} {g t : Nat} {cs : Array Value} {fr : Nat × Nat} (h : w.heap[g]? = some (.cells cs t fr)) : w.setRow g cs = w := by
  obtain ⟨hlt, hv⟩ := Array.getElem?_eq_some_iff.1 h
  unfold World.setRow
  have : w.heap.modify g (fun x => match x with | .cells _ t fr => .cells cs t fr | o => o) = w.heap := by
    apply Array.ext
    · simp
    · intro i h1 h2
      rw [Array.getElem_modify]
      split
      · rename_i e; subst e; rw [hv]
      · rfl
  exact congrArg (fun hp => { w with heap := hp }) this
theorem setRow_setRow {w : World} {g t : Nat} {cs : Array Value} {fr : Nat × Nat} (h : w.heap[g]? = some (.cells cs t fr)) (A B : Array Value) : (w.setRow g A).setRow g B = w.setRow g B := by
  obtain ⟨hlt, hv⟩ := Array.getElem?_eq_some_iff.1 h
  unfold World.setRow
  congr 1
  apply Array.ext
  · simp
  · intro i h1 h2
    simp only [Array.getElem_modify]
    split
    · rename_i e; subst e; simp only [hv]
    · rfl
theorem setCells_row {g t : Nat} {fr : Nat × Nat} : ∀ (vs : List Value) (o : Nat) (w : World) (X : List Value), w.heap[g]? = some (.cells X.toArray t fr) → o + vs.length ≤ X.length → w.setCells g o vs = w.setRow g (X.take o ++ vs ++ X.drop (o + vs.length)).toArray
  | [], o, w, X, h, hl => by
    have : X.take o ++ [] ++ X.drop (o + ([] : List Value).length) = X := by simp
    rw [this, setRow_self h]
    rfl
  | v :: vs, o, w, X, h, hl => by
    simp only [List.length_cons] at hl
    have h1 : (w.setCell ⟨g, o, none⟩ v) = w.setRow g (X.set o v).toArray := by
      rw [setCell_eq_setRow w g o _ t fr v h]
      congr 1
      simp
    have h2 : (w.setRow g (X.set o v).toArray).heap[g]? = some (.cells (X.set o v).toArray t fr) := setRow_heap w g _ _ t fr h
    have ih := setCells_row vs (o + 1) (w.setRow g (X.set o v).toArray) (X.set o v) h2 (by simp; omega)
    show (w.setCell ⟨g, o, none⟩ v).setCells g (o + 1) vs = _
    rw [h1, ih, setRow_setRow h]
    congr 2
    rw [List.length_cons, show o + (vs.length + 1) = o + 1 + vs.length by omega]
    have e1 : (X.set o v).take (o + 1) = X.take o ++ [v] := by
      rw [List.take_succ_eq_append_getElem (by simp; omega), List.take_set_of_le (Nat.le_refl _)]
      simp
    have e2 : (X.set o v).drop (o + 1 + vs.length) = X.drop (o + 1 + vs.length) := by
      rw [List.drop_set_of_lt (by omega)]
    rw [e1, e2]
    simp
theorem there_row {w : World} {g t o n : Nat} {X : List Value} (h : w.heap[g]? = some (.cells X.toArray t (0, 0))) (hl : o + n ≤ X.length) : w.there g o n := by
  intro j hj
  constructor
  · unfold World.cell?
    simp only [h]
    simp; omega
  · simp [World.frozen?, h]
def bf0 : List Value := [.slice none 0 0] ++ hl z16 ++ [.string ⟨#[]⟩, .bool false]
/-- A server's config. -/
def cfg (H : List UInt8) (nm : ByteArray) (o1 : Option Addr) (n1 c1 : Nat) (o2 : Option Addr) (n2 c2 : Nat) (ea : Bool) (li : Int) : List Value :=
  [.bool true, .string nm] ++ hl H ++ hl z16 ++ [.slice o1 n1 c1, .slice o2 n2 c2] ++ bf0 ++ [.bool ea, .int .i64 li]
theorem bc33 (nm : ByteArray) (o1 : Option Addr) (n1 c1 : Nat) (o2 : Option Addr) (n2 c2 : Nat) (ea : Bool) (li : Int) (w : World) :
    (Instr.build 33 #[(0, .bool true), (1, .string nm), (4, .slice o1 n1 c1), (5, .slice o2 n2 c2), (7, .bool ea), (8, .int .i64 li)]).run Tryz.prog w = .ok (.agg (cfg z16 nm o1 n1 c1 o2 n2 c2 ea li).toArray) w := run_build w 33 _ _ (by kernel_rfl)
theorem z33 (w : World) : (zeroValue 33).run Tryz.prog w = .ok (.agg cf0.toArray) w := by kernel_rfl
theorem u33 : Tryz.prog.underlying 33 = some (.struct (Tryz.prog.fieldsOf 33)) := by kernel_rfl
theorem i33 : (Tryz.prog.info? 33).map (·.size) = some 57 := by kernel_rfl
theorem u31 : Tryz.prog.underlying 31 = some (.struct (Tryz.prog.fieldsOf 31)) := by kernel_rfl
theorem i31 : (Tryz.prog.info? 31).map (·.size) = some 19 := by kernel_rfl
theorem cfg_len (H : List UInt8) (hH : H.length = 16) (nm : ByteArray) (o1 : Option Addr) (n1 c1 : Nat) (o2 : Option Addr) (n2 c2 : Nat) (ea : Bool) (li : Int) : (cfg H nm o1 n1 c1 o2 n2 c2 ea li).length = 57 := by
  simp [cfg, bf0, hH, z16]
theorem cfg_1 (H : List UInt8) (nm : ByteArray) (o1 : Option Addr) (n1 c1 : Nat) (o2 : Option Addr) (n2 c2 : Nat) (ea : Bool) (li : Int) : (cfg H nm o1 n1 c1 o2 n2 c2 ea li).toArray.all (·.oneCell') = true := by
  have h1 : ∀ h : List UInt8, (hl h).all (·.oneCell') = true := fun h => by
    rw [List.all_eq_true]
    intro v hv
    obtain ⟨b, _, rfl⟩ := List.mem_map.1 hv
    rfl
  simp only [cfg, bf0, List.all_toArray, List.all_append, h1, List.all_cons, List.all_nil]
  simp [Value.oneCell']
theorem bf0_1 : bf0.toArray.all (·.oneCell') = true := by kernel_rfl
theorem cfg_2 (H : List UInt8) (hH : H.length = 16) (nm : ByteArray) (o1 : Option Addr) (n1 c1 : Nat) (o2 : Option Addr) (n2 c2 : Nat) (ea : Bool) (li : Int) :
    (cfg z16 nm o1 n1 c1 o2 n2 c2 ea li).take 2 ++ hl H ++ (cfg z16 nm o1 n1 c1 o2 n2 c2 ea li).drop (2 + (hl H).length) = cfg H nm o1 n1 c1 o2 n2 c2 ea li := by
  rw [hl_len, hH]
  show [.bool true, .string nm] ++ hl H ++ (hl z16 ++ ([.slice o1 n1 c1, .slice o2 n2 c2] ++ (bf0 ++ [.bool ea, .int .i64 li]))) = _
  simp only [cfg, List.append_assoc]
theorem six (w : World) (A B C D E F : Obj) : ((((((w.alloc A).alloc B).alloc C).alloc D).alloc E).alloc F).heap[w.heap.size]? = some A ∧ ((((((w.alloc A).alloc B).alloc C).alloc D).alloc E).alloc F).heap[w.heap.size + 1 + 1 + 1]? = some D ∧ ((((((w.alloc A).alloc B).alloc C).alloc D).alloc E).alloc F).heap[w.heap.size + 1 + 1 + 1 + 1]? = some E ∧
    ((((((w.alloc A).alloc B).alloc C).alloc D).alloc E).alloc F).heap[w.heap.size + 1 + 1 + 1 + 1 + 1]? = some F ∧ Below w.heap.size w ((((((w.alloc A).alloc B).alloc C).alloc D).alloc E).alloc F) := by
  have a1 := heap_alloc_new w A
  have b1 := bel1 w A
  have b2 := bel1 (w.alloc A) B
  have b3 := bel1 ((w.alloc A).alloc B) C
  have d := heap_alloc_new (((w.alloc A).alloc B).alloc C) D
  have b4 := bel1 (((w.alloc A).alloc B).alloc C) D
  have e := heap_alloc_new ((((w.alloc A).alloc B).alloc C).alloc D) E
  have b5 := bel1 ((((w.alloc A).alloc B).alloc C).alloc D) E
  have f := heap_alloc_new (((((w.alloc A).alloc B).alloc C).alloc D).alloc E) F
  have b6 := bel1 (((((w.alloc A).alloc B).alloc C).alloc D).alloc E) F
  refine ⟨heap_bel (heap_bel (heap_bel (heap_bel (heap_bel a1 b2) b3) b4) b5) b6, ?_, ?_, ?_, bel_trans (bel_trans (bel_trans (bel_trans (bel_trans b1 b2) b3) b4) b5) b6⟩
  · have := heap_bel (heap_bel d b5) b6
    simpa using this
  · have := heap_bel e b6
    simpa using this
  · simpa using f
set_option maxRecDepth 100000 in
set_option maxHeartbeats 400000 in
theorem config_c (H1 H2 : List UInt8) (e1 : H1.length = 16) (e2 : H2.length = 16) (nm : ByteArray) (o1 : Option Addr) (n1 c1 : Nat) (o2 : Option Addr) (n2 c2 : Nat) (ea : Bool) (li tr : Int) (w : World) :
    Calls Tryz.prog 12 #[hv H1, hv H2, .agg #[.string nm, .slice o1 n1 c1, .slice o2 n2 c2, .bool ea, .int .i64 li, .int .i64 tr], .bool true, .agg bf0.toArray] w fun e w' => e = .returned (.agg (cfg H1 nm o1 n1 c1 o2 n2 c2 ea li).toArray) ∧ Below w.heap.size w w' := by
  have q1 : (((((cf0.set 0 (.bool true)).set 1 (.string nm)).set 34 (.slice o1 n1 c1)).set 35 (.slice o2 n2 c2)).set 55 (.bool ea)).set 56 (.int .i64 li) = cfg z16 nm o1 n1 c1 o2 n2 c2 ea li := by rfl
  have q2 := z33
  have HL0 : Hid _ := cfg_len z16 rfl nm o1 n1 c1 o2 n2 c2 ea li
  have HL1 : Hid _ := cfg_len H1 e1 nm o1 n1 c1 o2 n2 c2 ea li
  have H10 : Hid _ := cfg_1 z16 nm o1 n1 c1 o2 n2 c2 ea li
  have H11 : Hid _ := cfg_1 H1 nm o1 n1 c1 o2 n2 c2 ea li
  have HS2 : Hid _ := cfg_2 H1 e1 nm o1 n1 c1 o2 n2 c2 ea li
  have HBF : Hid _ := bf0_1
  have hb19 : bf0.length = 19 := rfl
  have hcf : cf0.length = 57 := rfl
  have hcn : ¬ cf0 = [] := fun h => by rw [h] at hcf; cases hcf
  generalize cfg z16 nm o1 n1 c1 o2 n2 c2 ea li = C0 at *
  generalize cfg H1 nm o1 n1 c1 o2 n2 c2 ea li = C1 at *
  generalize bf0 = BF at *
  generalize cf0 = CF at *
  have H6 : Hid _ := six w (.cells (hl H1).toArray 29) (.cells (hl H2).toArray 29) (.cells #[.string nm, .slice o1 n1 c1, .slice o2 n2 c2, .bool ea, .int .i64 li, .int .i64 tr] 25) (.cells BF.toArray 31) (.cells CF.toArray 33) (.cells CF.toArray 33)
  go_enter Tryz.func12, Tryz.ntmps12
  go_wp2_with (refine wpList_store_row rfl 33 (.tmp 11) (.tmp 23) rfl (w.heap.size + 1 + 1 + 1 + 1 + 1) C0.toArray rfl rfl 33 _ H6.out.2.2.2.1 (i33.trans (by simp [HL0.out])) (by simp [HL0.out, hcf]) H10.out (Hid.out ?_))
  have HX : Hid _ := setRow_heap _ _ _ C0.toArray 33 (0, 0) H6.out.2.2.2.1
  have HY : Hid _ := (setRow_other _ (w.heap.size + 1 + 1 + 1 + 1 + 1) w.heap.size C0.toArray (by omega)).trans H6.out.1
  have HZ : Hid _ := (setRow_other _ (w.heap.size + 1 + 1 + 1 + 1 + 1) (w.heap.size + 1 + 1 + 1) C0.toArray (by omega)).trans H6.out.2.1
  have HE : Hid _ := (setRow_other _ (w.heap.size + 1 + 1 + 1 + 1 + 1) (w.heap.size + 1 + 1 + 1 + 1) C0.toArray (by omega)).trans H6.out.2.2.1
  have HB : Hid _ := bel_set H6.out.2.2.2.2 (show w.heap.size ≤ w.heap.size + 1 + 1 + 1 + 1 + 1 by omega) C0.toArray
  clear H6
  generalize World.setRow _ (w.heap.size + 1 + 1 + 1 + 1 + 1) C0.toArray = W1 at *
  refine mkHid ?_
  go_wp2_with (first
    | refine ld28 rfl (.tmp 5) rfl w.heap.size rfl H1 HY.out e1 ?_
    | refine wpList_store_mid rfl 29 (.tmp 26) (.tmp 25) rfl (w.heap.size + 1 + 1 + 1 + 1 + 1) 2 (hl H1).toArray rfl rfl (there_row HX.out (by simp [e1, HL0.out])) (hi28.trans (by simp [e1])) (hl_one H1) (Hid.out ?_))
  have hr := setCells_row (hl H1) 2 W1 C0 HX.out (by simp [e1, HL0.out])
  rw [HS2.out] at hr
  rw [hr]
  clear hr
  have HX2 : Hid _ := setRow_heap W1 _ _ C1.toArray 33 (0, 0) HX.out
  have HZ2 : Hid _ := (setRow_other W1 (w.heap.size + 1 + 1 + 1 + 1 + 1) (w.heap.size + 1 + 1 + 1) C1.toArray (by omega)).trans HZ.out
  have HE2 : Hid _ := (setRow_other W1 (w.heap.size + 1 + 1 + 1 + 1 + 1) (w.heap.size + 1 + 1 + 1 + 1) C1.toArray (by omega)).trans HE.out
  have HB2 : Hid _ := bel_set HB.out (show w.heap.size ≤ w.heap.size + 1 + 1 + 1 + 1 + 1 by omega) C1.toArray
  clear HX HY HZ HE HB
  generalize World.setRow _ (w.heap.size + 1 + 1 + 1 + 1 + 1) C1.toArray = W2 at *
  refine mkHid ?_
  go_wp2_with (first
    | refine wpList_load_row rfl 33 (.tmp 11) rfl (w.heap.size + 1 + 1 + 1 + 1 + 1) rfl 33 _ (0, 0) _ HX2.out u33 rfl (i33.trans (by simp [HL1.out])) ?_
    | refine wpList_store_row rfl 33 (.tmp 10) (.tmp 41) rfl (w.heap.size + 1 + 1 + 1 + 1) C1.toArray rfl rfl 33 _ HE2.out (i33.trans (by simp [HL1.out])) (by simp [HL1.out, hcf]) H11.out (Hid.out ?_))
  have HF : Hid _ := setRow_heap W2 _ _ C1.toArray 33 (0, 0) HE2.out
  have HB3 : Hid _ := bel_set HB2.out (show w.heap.size ≤ w.heap.size + 1 + 1 + 1 + 1 by omega) C1.toArray
  refine mkHid ?_
  go_wp2_with fail
  refine bodyPost_ret (v := .agg C1.toArray) (results_cell_row (fn := Tryz.f12) rfl _ _ (w.heap.size + 1 + 1 + 1 + 1) 33 _ (0, 0) _ rfl HF.out u33 rfl (i33.trans (by simp [HL1.out]))) rfl ?_
  exact ⟨rfl, HB3.out⟩
end Go.Proofs.YthdenbclfogojaaGreatDoor
