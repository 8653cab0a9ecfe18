/- The law's own: names, keys. -/
import Derived.Test.YtdklkofnekacdaaNx
namespace Go.Proofs.Ytdklkofnekacdaa
open Go.RowKit Go.Shelf Go.Lib
set_option linter.unusedVariables false

theorem res_38s {fn : Func} {p : Tmp} (h : fn.results = #[.cell p 38]) (tmps : Array Value) (w : World) (g : Nat) (H : List UInt8) (hp : tmps.getD p undef = .pointer (some ⟨g, 0, none⟩))
    (hg : w.heap[g]? = some (.cells (hl H).toArray 38 (0, 0))) (hs : H.length = 48) : (results fn tmps).run Try.prog w = .ok (hv H) w :=
  results_cell_row h tmps w g 38 _ (0, 0) _ hp hg u38 rfl (hi38.trans (by simp [hs]))
set_option maxRecDepth 100000 in
theorem lnames_c (w : World) : Calls Try.prog 6 #[] w fun e w' => e = .returned (.bool true) ∧ w' = w := by
  go_enter Try.func6, Try.ntmps6
  go_wp2_with fail
  go_ret
  exact ⟨rfl, rfl⟩
set_option maxRecDepth 100000 in
set_option maxHeartbeats 400000 in
/-- The law's keys: the program's keys as the reference's. -/
theorem lkeys_c (w : World) (A B C : List UInt8) (hA : A.length = 16) (hB : B.length = 16) (hC : C.length = 16) : Calls Try.prog 10 #[hv (A ++ B ++ C)] w fun e w' => e = .returned (hv (A ++ B ++ C)) ∧ Below w.heap.size w w' := by
  have hbl : Below w.heap.size w ((w.alloc (.cells (hl (A ++ B ++ C)).toArray 33)).alloc (.cells (hl z48).toArray 38)) := (bel1 w _).alloc (by simp) _
  have HX1 : Aside (((w.alloc (.cells (hl (A ++ B ++ C)).toArray 33)).alloc (.cells (hl z48).toArray 38)).heap[w.heap.size]? = some (.cells (hl (A ++ B ++ C)).toArray 33 (0, 0))) := nth' (new' rfl)
  have HX2 : Aside (((w.alloc (.cells (hl (A ++ B ++ C)).toArray 33)).alloc (.cells (hl z48).toArray 38)).heap[w.heap.size + 1]? = some (.cells (hl z48).toArray 38 (0, 0))) := new' (by simp)
  have HBW : Aside _ := hbl
  have R0 : Aside _ := (rg33 HX1.out hA hB hC).1
  have R1 : Aside _ := rg33m HX1.out hA hB hC
  have R2 : Aside _ := (rg33 HX1.out hA hB hC).2
  have mA : (Try.prog.info? 29).map (·.size) = some (hl A).length := hi28.trans (by simp [hA])
  have mB : (Try.prog.info? 29).map (·.size) = some (hl B).length := hi28.trans (by simp [hB])
  have mC : (Try.prog.info? 29).map (·.size) = some (hl C).length := hi28.trans (by simp [hC])
  have hu := hu28
  have HD : Aside _ := bd38 hA hB hC
  have hl48 : (A ++ B ++ C).length = 48 := by simp [hA, hB, hC]
  generalize A ++ B ++ C = K at *
  clear hbl
  go_enter Try.func10, Try.ntmps10
  go_wp2_with (refine wpList_load_mid rfl 29 (.tmp 3) rfl w.heap.size 0 rfl (hl A) _ R0.out hu rfl mA (Hid.out ?_))
  rw [hz38]
  generalize (w.alloc (.cells (hl K).toArray 33)).alloc (.cells (hl z48).toArray 38) = W1 at *
  refine mkHid ?_
  go_wp2_with (refine wpList_load_mid rfl 29 (.tmp 5) rfl w.heap.size 16 rfl (hl B) _ R1.out hu rfl mB (Hid.out ?_))
  refine mkHid ?_
  go_wp2_with (refine wpList_load_mid rfl 29 (.tmp 7) rfl w.heap.size 32 rfl (hl C) _ R2.out hu rfl mC (Hid.out ?_))
  refine mkHid ?_
  go_wp2_with (refine wb38 rfl (.tmp 4) (.tmp 6) (.tmp 8) rfl A B C rfl rfl rfl K HD.out (Hid.out ?_))
  have HRS : Aside _ := setRow_heap W1 (w.heap.size + 1) _ (hl K).toArray 38 (0, 0) HX2.out
  have HBF : Aside (Below w.heap.size w (W1.setRow (w.heap.size + 1) (hl K).toArray)) := bel_set HBW.out (by omega) _
  refine mkHid ?_
  go_wp2_with (refine st38 rfl (.tmp 2) (.tmp 9) rfl (w.heap.size + 1) K rfl rfl z48 HX2.out hl48 rfl ?_)
  refine bodyPost_ret (v := hv K) (res_38s (fn := Try.f10) (p := 2) rfl _ _ (w.heap.size + 1) K rfl HRS.out hl48) rfl ?_
  exact ⟨rfl, HBF.out⟩
end Go.Proofs.Ytdklkofnekacdaa
