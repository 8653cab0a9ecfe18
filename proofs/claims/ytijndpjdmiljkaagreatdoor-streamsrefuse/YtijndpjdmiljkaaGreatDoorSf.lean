/- streams: relax where nothing is to be told; took of a piece that is no reset. -/
import Derived.Test.YtijndpjdmiljkaaGreatDoorSe
namespace Go.Proofs.YtijndpjdmiljkaaGreatDoor
open Go.RowKit Go.Maps
set_option linter.unusedVariables false

theorem set_same (W : World) (nb : Nat) (o : Obj) (h : W.heap[nb]? = some o) : { W with heap := W.heap.setIfInBounds nb o } = W := by
  have e : W.heap.setIfInBounds nb o = W.heap := by
    apply Array.ext_getElem?
    intro i
    by_cases hi : nb = i
    · subst hi
      have hlt := (Array.getElem?_eq_some_iff.1 h).1
      rw [Array.getElem?_setIfInBounds_self_of_lt hlt, h]
    · rw [Array.getElem?_setIfInBounds_ne hi]
  rw [e]
theorem step_store_row {P : Program} {ops : Array Oper} {o : Oper} {a : Act} {w : World} {K : Act → World → Prop} {Q : Exit → Act → World → Prop} {E : Prop} (hgd : o.guard = none) (ty : TypeId) (x y : Operand) (ho : o.op = .store ty x y)
    (g : Nat) (cells : Array Value) (hx : a.eval x = .pointer (some ⟨g, 0, none⟩)) (hy : a.eval y = .agg cells)
    (t : TypeId) (old : Array Value) (hg : w.heap[g]? = some (.cells old t (0, 0))) (hi : (P.info? ty).map (·.size) = some cells.size)
    (hold : old.size = cells.size) (h1 : cells.all (·.oneCell') = true) (h : K (a.put o.dst undef) (w.setRow g cells)) :
    if Region.wanted o (yielded ops a.tmps) = true then Oper.wp P o a w K Q else E := by
  have hw : Region.wanted o (yielded ops a.tmps) = true := by simp [Region.wanted, hgd]
  rw [if_pos hw]
  exact wp_store_row ty x y ho g cells hx hy t old hg hi hold h1 h
theorem noI : (Tryz.prog.info? 161).map (·.size) = some 5 := by kernel_rfl
theorem subU : Tryz.prog.underlying 159 = some (.struct (Tryz.prog.fieldsOf 159)) := by kernel_rfl
theorem subI : (Tryz.prog.info? 159).map (·.size) = some 2 := by kernel_rfl
theorem look_none (W : World) (nb : Nat) (a b : Int) (h : W.heap[nb]? = some (.map #[] 0)) : (Instr.lookup 87 (.map (some nb)) (.agg #[.int .i64 a, .int .i64 b]) true).run Tryz.prog W = .ok (.tuple #[.agg #[.int .i64 0, .int .i64 0, .bool false, .bool false, .bool false], .bool false]) W := by
  have hz : ∀ W, (zeroValue 161).run Tryz.prog W = .ok (.agg #[.int .i64 0, .int .i64 0, .bool false, .bool false, .bool false]) W := fun W => by kernel_rfl
  have hk : ∀ W, (Instr.checkKey true 10000 159 (.agg #[.int .i64 a, .int .i64 b])).run Tryz.prog W = .ok () W := fun W => by kernel_rfl
  have hf : ∀ W, (Instr.findKey 159 (.agg #[.int .i64 a, .int .i64 b]) []).run Tryz.prog W = .ok none W := fun W => by kernel_rfl
  simp [Instr.lookup, run_underlying Tryz.underlying87, MapKept.run_getObj_map h, Result.andThen, Sem.run_bind, hz, hk, hf]
theorem del_none (W : World) (nb : Nat) (a b : Int) (ty : TypeId) (h : W.heap[nb]? = some (.map #[] 0)) : (Builtin.delete_ #[87, 159] ty #[.map (some nb), .agg #[.int .i64 a, .int .i64 b]]).run Tryz.prog W = .ok (.tuple #[]) W := by
  have hk : ∀ W, (Instr.checkKey true 10000 159 (.agg #[.int .i64 a, .int .i64 b])).run Tryz.prog W = .ok () W := fun W => by kernel_rfl
  have hf : ∀ W, (Instr.findKey 159 (.agg #[.int .i64 a, .int .i64 b]) []).run Tryz.prog W = .ok none W := fun W => by kernel_rfl
  have hs := MapKept.run_setObj_map (P := Tryz.prog) (.map #[] 0) h
  rw [set_same W nb _ h] at hs
  simp [Builtin.delete_, run_underlying Tryz.underlying87, MapKept.run_getObj_map h, Result.andThen, Sem.run_bind, hk, hf, hs]
section
variable {srv : Bool} {x y : Lm} {k : Bks} {st : Tst} {w : World}
theorem Tb.c24 (h : Tb srv x y k st w) : w.cell? ⟨k.T, 24, none⟩ = some (.map (some k.nb)) := h.tab.cell 24
theorem forget_c (h : Tb srv x y k st w) (hn : w.heap[k.nb]? = some (.map #[] 0)) (a b : Int) : Calls Tryz.prog 84 #[.pointer (some ⟨k.T, 0, none⟩), .int .i64 a, .int .i64 b] w fun e w' => e = .returned (.tuple #[]) ∧ w' = w := by
  have c := h.c24
  have hd := fun ty => del_none w k.nb a b ty hn
  clear h hn
  go_enter Tryz.func84, Tryz.ntmps84
  go_wp2
  exact bodyPost_end (results_none rfl _ _ _) rfl ⟨rfl, rfl⟩
end
set_option maxRecDepth 10000 in
set_option maxHeartbeats 2000000 in
theorem relax_c {srv : Bool} {x y : Lm} {k : Bks} {st : Tst} {w : World} (h : Tb srv x y k st w) (hn : w.heap[k.nb]? = some (.map #[] 0)) (S : Nat) (id : Int) (hid : w.cell? ⟨S, 0, none⟩ = some (.int .i64 id)) :
    Calls Tryz.prog 86 #[.pointer (some ⟨k.T, 0, none⟩), .pointer (some ⟨S, 0, none⟩)] w fun e w' => e = .returned (.tuple #[]) ∧ Below w.heap.size w w' := by
  have HT : Hid _ := h
  have HN : Hid _ := hn
  clear h hn
  go_enter Tryz.func86, Tryz.ntmps86
  go_wp2_with fail
  refine Calls.mono (forget_c HT.out HN.out 17 id) ?_
  rintro e w' ⟨rfl, hw⟩
  subst w'
  go_upto_region 2 with fail
  have HB : Hid ((w.alloc (.cells #[.int .i64 5, .int .i64 id] 159)).heap[w.heap.size]? = some (.cells #[.int .i64 5, .int .i64 id] 159 (0, 0))) := heap_alloc_new w _
  have HTX : Hid (Tb srv x y k st (w.alloc (.cells #[.int .i64 5, .int .i64 id] 159))) := HT.out.go (bel1 _ _)
  have HNX : Hid ((w.alloc (.cells #[.int .i64 5, .int .i64 id] 159)).heap[k.nb]? = some (.map #[] 0)) := heap_bel HN.out (bel1 _ _)
  have HBL : Hid (Below w.heap.size w (w.alloc (.cells #[.int .i64 5, .int .i64 id] 159))) := bel1 _ _
  clear hid HT HN
  generalize w.alloc (.cells #[.int .i64 5, .int .i64 id] 159) = X at *
  obtain ⟨B, hB⟩ : ∃ B, w.heap.size = B := ⟨_, rfl⟩
  rw [hB] at HB
  rw [hB]
  have HS : Hid (X.drew.cell? ⟨k.T, 24, none⟩ = some (.map (some k.nb)) ∧ X.drew.heap[B]? = some (.cells #[.int .i64 5, .int .i64 id] 159 (0, 0)) ∧ X.drew.heap[k.nb]? = some (.map #[] 0)) := ⟨HTX.out.c24, HB.out, HNX.out⟩
  have HBD : Hid (Below w.heap.size w X.drew) := bel_trans HBL.out (bel_drew X)
  clear hB HB HTX HNX HBL
  refine wp_region_held_drew (S := fun X => X.cell? ⟨k.T, 24, none⟩ = some (.map (some k.nb)) ∧ X.heap[B]? = some (.cells #[.int .i64 5, .int .i64 id] 159 (0, 0)) ∧ X.heap[k.nb]? = some (.map #[] 0)) (by kernel_rfl) HS.out (fun hHeld => ?_)
  generalize X.drew = Y at *
  refine wpAnyH_take (i := 0) (v := .pointer (some ⟨k.T, 0, none⟩)) rfl (by kernel_rfl) (by kernel_rfl) (by kernel_rfl) (fun _ _ _ h => h) (Or.inl ⟨by rfl, by intro w hs; go_simp⟩) hHeld ?_
  refine norm_any' (fun K hK => ?_); go_simp; refine hK _ _ ?_; clear hK K
  refine wpAnyH_take (i := 1) (v := .pointer (some ⟨k.T, 0, none⟩)) rfl (by kernel_rfl) (by kernel_rfl) (by kernel_rfl) (fun _ _ _ h => h) (Or.inl ⟨by rfl, by intro w hs; go_simp⟩) hHeld ?_
  refine norm_any' (fun K hK => ?_); go_simp; refine hK _ _ ?_; clear hK K
  refine wpAnyH_take (i := 2) (v := .pointer (some ⟨k.T, 24, none⟩)) rfl (by kernel_rfl) (by kernel_rfl) (by kernel_rfl) (fun _ _ _ h => h) (Or.inl ⟨by rfl, by intro w hs; go_simp⟩) hHeld ?_
  refine norm_any' (fun K hK => ?_); go_simp; refine hK _ _ ?_; clear hK K
  refine wpAnyH_take (i := 3) (v := .map (some k.nb)) rfl (by kernel_rfl) (by kernel_rfl) (by kernel_rfl) (fun _ _ _ h => h) (Or.inl ⟨by rfl, by rintro w_ ⟨s0, s1, s2⟩; go_simp⟩) hHeld ?_
  refine norm_any' (fun K hK => ?_); go_simp; refine hK _ _ ?_; clear hK K
  refine wpAnyH_take (i := 4) (v := .agg #[.int .i64 5, .int .i64 id]) rfl (by kernel_rfl) (by kernel_rfl) (by kernel_rfl) (fun _ _ _ h => h) (yieldsIf_load_mid rfl 159 (.tmp 4) rfl B 0 rfl [.int .i64 5, .int .i64 id] _ (fun X hX j v hv => by unfold World.cell?; simp only [hX.2.1]; simpa using hv) subU rfl subI) hHeld ?_
  refine norm_any' (fun K hK => ?_); go_simp; refine hK _ _ ?_; clear hK K
  refine wpAnyH_take (i := 5) (v := .tuple #[.agg #[.int .i64 0, .int .i64 0, .bool false, .bool false, .bool false], .bool false]) rfl (by kernel_rfl) (by kernel_rfl) (by kernel_rfl) (fun _ _ _ h => h) (Or.inl ⟨by rfl, by rintro w_ ⟨s0, s1, s2⟩; have hl := look_none w_ k.nb 5 id s2; go_simp⟩) hHeld ?_
  refine norm_any' (fun K hK => ?_); go_simp; refine hK _ _ ?_; clear hK K
  refine wpAnyH_take (i := 6) (v := .tuple #[.agg #[.int .i64 0, .int .i64 0, .bool false, .bool false, .bool false], .bool false]) rfl (by kernel_rfl) (by kernel_rfl) (by kernel_rfl) (fun _ _ _ h => h) (Or.inl ⟨by rfl, by intro w hs; go_simp⟩) hHeld ?_
  refine norm_any' (fun K hK => ?_); go_simp; refine hK _ _ ?_; clear hK K
  refine wpAnyH_take (i := 7) (v := .agg #[.int .i64 0, .int .i64 0, .bool false, .bool false, .bool false]) rfl (by kernel_rfl) (by kernel_rfl) (by kernel_rfl) (fun _ _ _ h => h) (Or.inl ⟨by rfl, by intro w hs; go_simp⟩) hHeld ?_
  refine norm_any' (fun K hK => ?_); go_simp; refine hK _ _ ?_; clear hK K
  refine wpAnyH_take (i := 8) (v := .bool false) rfl (by kernel_rfl) (by kernel_rfl) (by kernel_rfl) (fun _ _ _ h => h) (Or.inl ⟨by rfl, by intro w hs; go_simp⟩) hHeld ?_
  refine norm_any' (fun K hK => ?_); go_simp; refine hK _ _ ?_; clear hK K
  refine wpAnyH_ready (rs := [9]) (by kernel_rfl) (by simp) (AllReadyH.cons rfl (fun K hK => ?_) AllReadyH.nil)
  go_simp
  have HS2 : Hid (_ ∧ _ ∧ _) := ⟨cell_bel HS.out.1 (bel1 Y (.cells #[.int .i64 0, .int .i64 0, .bool false, .bool false, .bool false] 161)), heap_bel HS.out.2.1 (bel1 Y (.cells #[.int .i64 0, .int .i64 0, .bool false, .bool false, .bool false] 161)), heap_bel HS.out.2.2 (bel1 Y (.cells #[.int .i64 0, .int .i64 0, .bool false, .bool false, .bool false] 161))⟩
  have HBD2 : Hid _ := bel_trans HBD.out (bel1 Y (.cells #[.int .i64 0, .int .i64 0, .bool false, .bool false, .bool false] 161))
  have HNW : Hid _ := heap_alloc_new Y (.cells #[.int .i64 0, .int .i64 0, .bool false, .bool false, .bool false] 161)
  have HLO : Hid (w.heap.size ≤ Y.heap.size ∧ k.T < Y.heap.size ∧ B < Y.heap.size ∧ k.nb < Y.heap.size) := ⟨HBD.out.size, World.block_lt_of_cell? _ _ HS.out.1, (Array.getElem?_eq_some_iff.1 HS.out.2.1).1, (Array.getElem?_eq_some_iff.1 HS.out.2.2).1⟩
  generalize Y.alloc (.cells #[.int .i64 0, .int .i64 0, .bool false, .bool false, .bool false] 161) = Z at *
  obtain ⟨C, hC⟩ : ∃ C, Y.heap.size = C := ⟨_, rfl⟩
  rw [hC] at HNW HLO
  rw [hC]
  clear hC HS HBD
  refine hK.out _ _ HS2.out (fun hHeld => ?_)
  clear hK K
  refine norm_any' (fun K hK => ?_); go_simp; refine hK _ _ ?_; clear hK K
  refine wpAnyH_ready (rs := [10]) (by kernel_rfl) (by simp) (AllReadyH.cons rfl (fun K hK => ?_) AllReadyH.nil)
  refine step_store_row rfl 161 (.tmp 5) (.tmp 25) rfl C #[.int .i64 0, .int .i64 0, .bool false, .bool false, .bool false] rfl rfl 161 _ HNW.out noI rfl (by kernel_rfl) ?_
  obtain ⟨l0, l1, l2, l3⟩ := HLO.out
  have HS3 : Hid ((Z.setRow C #[.int .i64 0, .int .i64 0, .bool false, .bool false, .bool false]).cell? ⟨k.T, 24, none⟩ = some (.map (some k.nb)) ∧ (Z.setRow C #[.int .i64 0, .int .i64 0, .bool false, .bool false, .bool false]).heap[B]? = some (.cells #[.int .i64 5, .int .i64 id] 159 (0, 0)) ∧ (Z.setRow C #[.int .i64 0, .int .i64 0, .bool false, .bool false, .bool false]).heap[k.nb]? = some (.map #[] 0)) := ⟨(World.cell?_of_block (w := Z) (a := ⟨k.T, 24, none⟩) (setRow_other _ _ _ _ (by simp only; omega))).trans HS2.out.1, (setRow_other _ _ _ _ (by omega)).trans HS2.out.2.1, (setRow_other _ _ _ _ (by omega)).trans HS2.out.2.2⟩
  have HBD3 : Hid _ := bel_set HBD2.out l0 #[.int .i64 0, .int .i64 0, .bool false, .bool false, .bool false]
  have HNW3 : Hid _ := setRow_heap Z C _ #[.int .i64 0, .int .i64 0, .bool false, .bool false, .bool false] 161 (0, 0) HNW.out
  generalize Z.setRow C #[.int .i64 0, .int .i64 0, .bool false, .bool false, .bool false] = Z3 at *
  clear l0 l1 l2 l3 HLO HS2 HBD2 HNW
  refine hK.out _ _ HS3.out (fun hHeld => ?_)
  clear hK K
  refine norm_any' (fun K hK => ?_); go_simp; refine hK _ _ ?_; clear hK K
  refine wpAnyH_take (i := 11) (v := .bool false) rfl (by kernel_rfl) (by kernel_rfl) (by kernel_rfl) (fun _ _ _ h => h) (Or.inl ⟨by rfl, by intro w hs; go_simp⟩) hHeld ?_
  refine norm_any' (fun K hK => ?_); go_simp; refine hK _ _ ?_; clear hK K
  refine wpAnyH_done (by kernel_rfl) ?_ _
  have c2 : Z3.cell? ⟨C, 2, none⟩ = some (.bool false) := by simp [World.cell?, HNW3.out]
  go_wp2
  exact bodyPost_end (results_none rfl _ _ _) rfl ⟨rfl, HBD3.out⟩
set_option maxRecDepth 10000 in
theorem took_no {srv : Bool} {x y : Lm} {k : Bks} {st : Tst} {w : World} (h : Tb srv x y k st w) (hn : w.heap[k.nb]? = some (.map #[] 0)) {S : Nat} {cs : Array Value} {ib mb n : Nat} {V : Nat → Option UInt8} {p R hd rm lm rc : Int} (hs : St w S cs ib mb n V p R hd rm lm rc false) (id : Int) (i0 : cs[0]? = some (.int .i64 id)) (i1 : cs[1]? = some (.bool false)) (i2 : cs[2]? = some (.bool false)) (k_ id_ o : Int) (d : Value) (fin : Bool) (hk : k_ = 8) :
    Calls Tryz.prog 208 #[.pointer (some ⟨k.T, 0, none⟩), .pointer (some ⟨S, 0, none⟩), .agg (fr6 k_ id_ o d fin).toArray] w fun e w' => e = .returned (.tuple #[]) ∧ Below w.heap.size w w' := by
  subst hk
  have HX0 : Hid _ := Bx.new h 8 id_ o d fin
  have HSX : Hid _ := hs.go (bel1 w (.cells (fr6 8 id_ o d fin).toArray 66))
  have HNX : Hid _ := heap_bel hn (bel1 w (.cells (fr6 8 id_ o d fin).toArray 66))
  clear h hs hn
  go_enter Tryz.func208, Tryz.ntmps208
  go_upto_region 1 with fail
  generalize w.alloc (.cells (fr6 8 id_ o d fin).toArray 66) = X at *
  obtain ⟨B, hB⟩ : ∃ B, w.heap.size = B := ⟨_, rfl⟩
  rw [hB] at HX0
  rw [hB]
  clear hB
  have c0 := HX0.out.c0
  have s0 : X.cell? ⟨S, 0, none⟩ = some (.int .i64 id) := (HSX.out.sc.cell 0).trans i0
  have s1 : X.cell? ⟨S, 1, none⟩ = some (.bool false) := (HSX.out.sc.cell 1).trans i1
  have s2 : X.cell? ⟨S, 2, none⟩ = some (.bool false) := (HSX.out.sc.cell 2).trans i2
  go_wp2_with fail
  refine Calls.mono (bounded_c HSX.out) ?_
  rintro e w' ⟨rfl, hw⟩
  subst w'
  go_wp2
  exact bodyPost_end (results_none rfl _ _ _) rfl ⟨rfl, HX0.out.bel⟩
set_option maxRecDepth 10000 in
theorem took_yes {srv : Bool} {x y : Lm} {k : Bks} {st : Tst} {w : World} (h : Tb srv x y k st w) (hn : w.heap[k.nb]? = some (.map #[] 0)) {S : Nat} {cs : Array Value} {ib mb n : Nat} {V : Nat → Option UInt8} {p R hd rm lm rc : Int} (hs : St w S cs ib mb n V p R hd rm lm rc true) (id : Int) (i0 : cs[0]? = some (.int .i64 id)) (i1 : cs[1]? = some (.bool false)) (i2 : cs[2]? = some (.bool false)) (k_ id_ o : Int) (d : Value) (fin : Bool) (hk : k_ = 8) :
    Calls Tryz.prog 208 #[.pointer (some ⟨k.T, 0, none⟩), .pointer (some ⟨S, 0, none⟩), .agg (fr6 k_ id_ o d fin).toArray] w fun e w' => e = .returned (.tuple #[]) ∧ Below w.heap.size w w' := by
  subst hk
  have HX0 : Hid _ := Bx.new h 8 id_ o d fin
  have HSX : Hid _ := hs.go (bel1 w (.cells (fr6 8 id_ o d fin).toArray 66))
  have HNX : Hid _ := heap_bel hn (bel1 w (.cells (fr6 8 id_ o d fin).toArray 66))
  clear h hs hn
  go_enter Tryz.func208, Tryz.ntmps208
  go_upto_region 1 with fail
  generalize w.alloc (.cells (fr6 8 id_ o d fin).toArray 66) = X at *
  obtain ⟨B, hB⟩ : ∃ B, w.heap.size = B := ⟨_, rfl⟩
  rw [hB] at HX0
  rw [hB]
  clear hB
  have c0 := HX0.out.c0
  have s0 : X.cell? ⟨S, 0, none⟩ = some (.int .i64 id) := (HSX.out.sc.cell 0).trans i0
  have s1 : X.cell? ⟨S, 1, none⟩ = some (.bool false) := (HSX.out.sc.cell 1).trans i1
  have s2 : X.cell? ⟨S, 2, none⟩ = some (.bool false) := (HSX.out.sc.cell 2).trans i2
  go_wp2_with fail
  refine Calls.mono (bounded_c HSX.out) ?_
  rintro e w' ⟨rfl, hw⟩
  subst w'
  go_wp2_with fail
  refine Calls.mono (relax_c HX0.out.tb HNX.out S id s0) ?_
  rintro e w' ⟨rfl, hbx⟩
  have HB : Hid _ := bel_trans HX0.out.bel hbx
  clear hbx
  go_wp2
  exact bodyPost_end (results_none rfl _ _ _) rfl ⟨rfl, HB.out⟩
end Go.Proofs.YtijndpjdmiljkaaGreatDoor
