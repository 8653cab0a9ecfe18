/- The law's Refs. -/
import Derived.Test.YtcchlicokglmnaaRj
namespace Go.Proofs.Ytcchlicokglmnaa
open Go.ChangeShapes Go.WideShapes Go.ChangeAt Go.RowKit Go.Lib
set_option linter.unusedVariables false

theorem z34 (W : World) : (zeroValue 34).run Try.prog W = .ok (.agg #[.int .i64 0, .int .u8 0, .int .u8 0, .int .u8 0, .int .u8 0, .int .u8 0, .int .u8 0, .int .u8 0, .int .u8 0, .int .u8 0, .int .u8 0, .int .u8 0, .int .u8 0, .int .u8 0, .int .u8 0, .int .u8 0, .int .u8 0, .int .u8 0, .int .u8 0, .int .u8 0, .int .u8 0, .int .u8 0, .int .u8 0, .int .u8 0, .int .u8 0, .int .u8 0, .int .u8 0, .int .u8 0, .int .u8 0, .int .u8 0, .int .u8 0, .int .u8 0, .int .u8 0, .string ⟨#[]⟩, .slice none 0 0, .slice none 0 0, .slice none 0 0, .int .u8 0, .int .u8 0, .int .u8 0, .int .u8 0, .int .u8 0, .int .u8 0, .int .u8 0, .int .u8 0, .int .u8 0, .int .u8 0, .int .u8 0, .int .u8 0, .int .u8 0, .int .u8 0, .int .u8 0, .int .u8 0, .bool false, .bool false, .int .u8 0, .int .u8 0, .int .u8 0, .int .u8 0, .int .u8 0, .int .u8 0, .int .u8 0, .int .u8 0, .int .u8 0, .int .u8 0, .int .u8 0, .int .u8 0, .int .u8 0, .int .u8 0, .int .u8 0, .int .u8 0, .int .i64 0]) W := by kernel_rfl
set_option maxRecDepth 100000 in
set_option maxHeartbeats 400000 in
theorem refs_c (m : Msg) (w : World) (hln : m.len) : Calls Try.prog 10 #[.agg m.cells.toArray] w fun e w' => e = .returned (.agg m.cells.toArray) ∧ Below w.heap.size w w' := by
  have HBD : Hid (∀ X, (Instr.build 34 #[(0, .int .i64 m.kind), (1, hv m.random), (2, hv m.share), (3, .string m.name), (4, .slice m.po m.protos.length m.pc), (5, .slice m.ao m.params.length m.ac), (6, .slice m.to m.ticket.length m.tc), (7, hv m.binder), (8, .bool m.early), (9, .bool m.again), (10, hv m.mark), (11, .int .i64 m.life)]).run Try.prog X = .ok (.agg m.cells.toArray) X) := fun X => bd34 m.kind m.name _ _ _ ⟨_, _, _, rfl⟩ ⟨_, _, _, rfl⟩ ⟨_, _, _, rfl⟩ m.random m.share m.binder m.mark hln.r hln.s hln.b hln.k m.early m.again m.life X
  have hA72 : m.cells.toArray.size = 72 := by simp [cells_len hln]
  have hone := cells_one m
  have hb : Below w.heap.size w ((w.alloc (.cells m.cells.toArray 27)).alloc (.cells #[.int .i64 0, .int .u8 0, .int .u8 0, .int .u8 0, .int .u8 0, .int .u8 0, .int .u8 0, .int .u8 0, .int .u8 0, .int .u8 0, .int .u8 0, .int .u8 0, .int .u8 0, .int .u8 0, .int .u8 0, .int .u8 0, .int .u8 0, .int .u8 0, .int .u8 0, .int .u8 0, .int .u8 0, .int .u8 0, .int .u8 0, .int .u8 0, .int .u8 0, .int .u8 0, .int .u8 0, .int .u8 0, .int .u8 0, .int .u8 0, .int .u8 0, .int .u8 0, .int .u8 0, .string ⟨#[]⟩, .slice none 0 0, .slice none 0 0, .slice none 0 0, .int .u8 0, .int .u8 0, .int .u8 0, .int .u8 0, .int .u8 0, .int .u8 0, .int .u8 0, .int .u8 0, .int .u8 0, .int .u8 0, .int .u8 0, .int .u8 0, .int .u8 0, .int .u8 0, .int .u8 0, .int .u8 0, .bool false, .bool false, .int .u8 0, .int .u8 0, .int .u8 0, .int .u8 0, .int .u8 0, .int .u8 0, .int .u8 0, .int .u8 0, .int .u8 0, .int .u8 0, .int .u8 0, .int .u8 0, .int .u8 0, .int .u8 0, .int .u8 0, .int .u8 0, .int .i64 0] 34)) := (bl1 w _).alloc (by simp) _
  have hrow : ((w.alloc (.cells m.cells.toArray 27)).alloc (.cells #[.int .i64 0, .int .u8 0, .int .u8 0, .int .u8 0, .int .u8 0, .int .u8 0, .int .u8 0, .int .u8 0, .int .u8 0, .int .u8 0, .int .u8 0, .int .u8 0, .int .u8 0, .int .u8 0, .int .u8 0, .int .u8 0, .int .u8 0, .int .u8 0, .int .u8 0, .int .u8 0, .int .u8 0, .int .u8 0, .int .u8 0, .int .u8 0, .int .u8 0, .int .u8 0, .int .u8 0, .int .u8 0, .int .u8 0, .int .u8 0, .int .u8 0, .int .u8 0, .int .u8 0, .string ⟨#[]⟩, .slice none 0 0, .slice none 0 0, .slice none 0 0, .int .u8 0, .int .u8 0, .int .u8 0, .int .u8 0, .int .u8 0, .int .u8 0, .int .u8 0, .int .u8 0, .int .u8 0, .int .u8 0, .int .u8 0, .int .u8 0, .int .u8 0, .int .u8 0, .int .u8 0, .int .u8 0, .bool false, .bool false, .int .u8 0, .int .u8 0, .int .u8 0, .int .u8 0, .int .u8 0, .int .u8 0, .int .u8 0, .int .u8 0, .int .u8 0, .int .u8 0, .int .u8 0, .int .u8 0, .int .u8 0, .int .u8 0, .int .u8 0, .int .u8 0, .int .i64 0] 34)).heap[w.heap.size]? = some (.cells m.cells.toArray 27 (0, 0)) := ((bl1 (w.alloc (.cells m.cells.toArray 27)) (.cells #[.int .i64 0, .int .u8 0, .int .u8 0, .int .u8 0, .int .u8 0, .int .u8 0, .int .u8 0, .int .u8 0, .int .u8 0, .int .u8 0, .int .u8 0, .int .u8 0, .int .u8 0, .int .u8 0, .int .u8 0, .int .u8 0, .int .u8 0, .int .u8 0, .int .u8 0, .int .u8 0, .int .u8 0, .int .u8 0, .int .u8 0, .int .u8 0, .int .u8 0, .int .u8 0, .int .u8 0, .int .u8 0, .int .u8 0, .int .u8 0, .int .u8 0, .int .u8 0, .int .u8 0, .string ⟨#[]⟩, .slice none 0 0, .slice none 0 0, .slice none 0 0, .int .u8 0, .int .u8 0, .int .u8 0, .int .u8 0, .int .u8 0, .int .u8 0, .int .u8 0, .int .u8 0, .int .u8 0, .int .u8 0, .int .u8 0, .int .u8 0, .int .u8 0, .int .u8 0, .int .u8 0, .int .u8 0, .bool false, .bool false, .int .u8 0, .int .u8 0, .int .u8 0, .int .u8 0, .int .u8 0, .int .u8 0, .int .u8 0, .int .u8 0, .int .u8 0, .int .u8 0, .int .u8 0, .int .u8 0, .int .u8 0, .int .u8 0, .int .u8 0, .int .u8 0, .int .i64 0] 34)).block _ (by simp)).trans (heap_alloc_new w _)
  have hrow2 : ((w.alloc (.cells m.cells.toArray 27)).alloc (.cells #[.int .i64 0, .int .u8 0, .int .u8 0, .int .u8 0, .int .u8 0, .int .u8 0, .int .u8 0, .int .u8 0, .int .u8 0, .int .u8 0, .int .u8 0, .int .u8 0, .int .u8 0, .int .u8 0, .int .u8 0, .int .u8 0, .int .u8 0, .int .u8 0, .int .u8 0, .int .u8 0, .int .u8 0, .int .u8 0, .int .u8 0, .int .u8 0, .int .u8 0, .int .u8 0, .int .u8 0, .int .u8 0, .int .u8 0, .int .u8 0, .int .u8 0, .int .u8 0, .int .u8 0, .string ⟨#[]⟩, .slice none 0 0, .slice none 0 0, .slice none 0 0, .int .u8 0, .int .u8 0, .int .u8 0, .int .u8 0, .int .u8 0, .int .u8 0, .int .u8 0, .int .u8 0, .int .u8 0, .int .u8 0, .int .u8 0, .int .u8 0, .int .u8 0, .int .u8 0, .int .u8 0, .int .u8 0, .bool false, .bool false, .int .u8 0, .int .u8 0, .int .u8 0, .int .u8 0, .int .u8 0, .int .u8 0, .int .u8 0, .int .u8 0, .int .u8 0, .int .u8 0, .int .u8 0, .int .u8 0, .int .u8 0, .int .u8 0, .int .u8 0, .int .u8 0, .int .i64 0] 34)).heap[w.heap.size + 1]? = some (.cells #[.int .i64 0, .int .u8 0, .int .u8 0, .int .u8 0, .int .u8 0, .int .u8 0, .int .u8 0, .int .u8 0, .int .u8 0, .int .u8 0, .int .u8 0, .int .u8 0, .int .u8 0, .int .u8 0, .int .u8 0, .int .u8 0, .int .u8 0, .int .u8 0, .int .u8 0, .int .u8 0, .int .u8 0, .int .u8 0, .int .u8 0, .int .u8 0, .int .u8 0, .int .u8 0, .int .u8 0, .int .u8 0, .int .u8 0, .int .u8 0, .int .u8 0, .int .u8 0, .int .u8 0, .string ⟨#[]⟩, .slice none 0 0, .slice none 0 0, .slice none 0 0, .int .u8 0, .int .u8 0, .int .u8 0, .int .u8 0, .int .u8 0, .int .u8 0, .int .u8 0, .int .u8 0, .int .u8 0, .int .u8 0, .int .u8 0, .int .u8 0, .int .u8 0, .int .u8 0, .int .u8 0, .int .u8 0, .bool false, .bool false, .int .u8 0, .int .u8 0, .int .u8 0, .int .u8 0, .int .u8 0, .int .u8 0, .int .u8 0, .int .u8 0, .int .u8 0, .int .u8 0, .int .u8 0, .int .u8 0, .int .u8 0, .int .u8 0, .int .u8 0, .int .u8 0, .int .i64 0] 34 (0, 0)) := by have := heap_alloc_new (w.alloc (.cells m.cells.toArray 27)) (.cells #[.int .i64 0, .int .u8 0, .int .u8 0, .int .u8 0, .int .u8 0, .int .u8 0, .int .u8 0, .int .u8 0, .int .u8 0, .int .u8 0, .int .u8 0, .int .u8 0, .int .u8 0, .int .u8 0, .int .u8 0, .int .u8 0, .int .u8 0, .int .u8 0, .int .u8 0, .int .u8 0, .int .u8 0, .int .u8 0, .int .u8 0, .int .u8 0, .int .u8 0, .int .u8 0, .int .u8 0, .int .u8 0, .int .u8 0, .int .u8 0, .int .u8 0, .int .u8 0, .int .u8 0, .string ⟨#[]⟩, .slice none 0 0, .slice none 0 0, .slice none 0 0, .int .u8 0, .int .u8 0, .int .u8 0, .int .u8 0, .int .u8 0, .int .u8 0, .int .u8 0, .int .u8 0, .int .u8 0, .int .u8 0, .int .u8 0, .int .u8 0, .int .u8 0, .int .u8 0, .int .u8 0, .int .u8 0, .bool false, .bool false, .int .u8 0, .int .u8 0, .int .u8 0, .int .u8 0, .int .u8 0, .int .u8 0, .int .u8 0, .int .u8 0, .int .u8 0, .int .u8 0, .int .u8 0, .int .u8 0, .int .u8 0, .int .u8 0, .int .u8 0, .int .u8 0, .int .i64 0] 34); rwa [World.size_alloc] at this
  obtain ⟨h1, h17, h37, h55⟩ := Msg.hs hln hrow
  have R1 : Hid _ := h1.range
  have R2 : Hid _ := h17.range
  have R3 : Hid _ := h37.range
  have R4 : Hid _ := h55.range
  obtain ⟨g0, g33, g34, g35, g36, g53, g54, g71⟩ := Msg.get hln
  have cell : ∀ j v, m.cells[j]? = some v → ((w.alloc (.cells m.cells.toArray 27)).alloc (.cells #[.int .i64 0, .int .u8 0, .int .u8 0, .int .u8 0, .int .u8 0, .int .u8 0, .int .u8 0, .int .u8 0, .int .u8 0, .int .u8 0, .int .u8 0, .int .u8 0, .int .u8 0, .int .u8 0, .int .u8 0, .int .u8 0, .int .u8 0, .int .u8 0, .int .u8 0, .int .u8 0, .int .u8 0, .int .u8 0, .int .u8 0, .int .u8 0, .int .u8 0, .int .u8 0, .int .u8 0, .int .u8 0, .int .u8 0, .int .u8 0, .int .u8 0, .int .u8 0, .int .u8 0, .string ⟨#[]⟩, .slice none 0 0, .slice none 0 0, .slice none 0 0, .int .u8 0, .int .u8 0, .int .u8 0, .int .u8 0, .int .u8 0, .int .u8 0, .int .u8 0, .int .u8 0, .int .u8 0, .int .u8 0, .int .u8 0, .int .u8 0, .int .u8 0, .int .u8 0, .int .u8 0, .int .u8 0, .bool false, .bool false, .int .u8 0, .int .u8 0, .int .u8 0, .int .u8 0, .int .u8 0, .int .u8 0, .int .u8 0, .int .u8 0, .int .u8 0, .int .u8 0, .int .u8 0, .int .u8 0, .int .u8 0, .int .u8 0, .int .u8 0, .int .u8 0, .int .i64 0] 34)).cell? ⟨w.heap.size, j, none⟩ = some v := fun j v h => by unfold World.cell?; rw [hrow]; simpa using h
  have c0 := cell _ _ g0
  have H33 : Hid _ := cell _ _ g33
  have H34 : Hid _ := cell _ _ g34
  have H35 : Hid _ := cell _ _ g35
  have H36 : Hid _ := cell _ _ g36
  have H53 : Hid _ := cell _ _ g53
  have H54 : Hid _ := cell _ _ g54
  have H71 : Hid _ := cell _ _ g71
  have m1 : (Try.prog.info? 23).map (·.size) = some (bc m.random).length := i23.trans (by simp [bc_length, hln.r])
  have m2 : (Try.prog.info? 23).map (·.size) = some (bc m.share).length := i23.trans (by simp [bc_length, hln.s])
  have m3 : (Try.prog.info? 23).map (·.size) = some (bc m.binder).length := i23.trans (by simp [bc_length, hln.b])
  have m4 : (Try.prog.info? 23).map (·.size) = some (bc m.mark).length := i23.trans (by simp [bc_length, hln.k])
  have hu := u23
  have HX2 : Hid _ := hrow2
  have HB : Hid _ := hb
  have m34 : (Try.prog.info? 34).map (·.size) = some m.cells.toArray.size := i34s.trans (by rw [hA72])
  have HZZ : Hid ((#[.int .i64 0, .int .u8 0, .int .u8 0, .int .u8 0, .int .u8 0, .int .u8 0, .int .u8 0, .int .u8 0, .int .u8 0, .int .u8 0, .int .u8 0, .int .u8 0, .int .u8 0, .int .u8 0, .int .u8 0, .int .u8 0, .int .u8 0, .int .u8 0, .int .u8 0, .int .u8 0, .int .u8 0, .int .u8 0, .int .u8 0, .int .u8 0, .int .u8 0, .int .u8 0, .int .u8 0, .int .u8 0, .int .u8 0, .int .u8 0, .int .u8 0, .int .u8 0, .int .u8 0, .string ⟨#[]⟩, .slice none 0 0, .slice none 0 0, .slice none 0 0, .int .u8 0, .int .u8 0, .int .u8 0, .int .u8 0, .int .u8 0, .int .u8 0, .int .u8 0, .int .u8 0, .int .u8 0, .int .u8 0, .int .u8 0, .int .u8 0, .int .u8 0, .int .u8 0, .int .u8 0, .int .u8 0, .bool false, .bool false, .int .u8 0, .int .u8 0, .int .u8 0, .int .u8 0, .int .u8 0, .int .u8 0, .int .u8 0, .int .u8 0, .int .u8 0, .int .u8 0, .int .u8 0, .int .u8 0, .int .u8 0, .int .u8 0, .int .u8 0, .int .u8 0, .int .i64 0] : Array Value).size = m.cells.toArray.size) := by show _ = _; rw [hA72]; rfl
  have m34r : (Try.prog.info? 34).map (·.size) = some m.cells.toArray.toList.length := i34s.trans (by simp [cells_len hln])
  clear cell g0 g33 g34 g35 g36 g53 g54 g71 hrow hrow2 hb h1 h17 h37 h55
  generalize m.cells.toArray = A at *
  have hz := z34 (w.alloc (.cells A 27))
  go_enter Try.func10, Try.ntmps10
  go_wp2_with (refine wpList_load_mid rfl 23 (.tmp 5) rfl w.heap.size 1 rfl (bc m.random) _ R1.out hu rfl m1 (Hid.out ?_))
  clear c0 R1 hz
  generalize (w.alloc (.cells A 27)).alloc (.cells #[.int .i64 0, .int .u8 0, .int .u8 0, .int .u8 0, .int .u8 0, .int .u8 0, .int .u8 0, .int .u8 0, .int .u8 0, .int .u8 0, .int .u8 0, .int .u8 0, .int .u8 0, .int .u8 0, .int .u8 0, .int .u8 0, .int .u8 0, .int .u8 0, .int .u8 0, .int .u8 0, .int .u8 0, .int .u8 0, .int .u8 0, .int .u8 0, .int .u8 0, .int .u8 0, .int .u8 0, .int .u8 0, .int .u8 0, .int .u8 0, .int .u8 0, .int .u8 0, .int .u8 0, .string ⟨#[]⟩, .slice none 0 0, .slice none 0 0, .slice none 0 0, .int .u8 0, .int .u8 0, .int .u8 0, .int .u8 0, .int .u8 0, .int .u8 0, .int .u8 0, .int .u8 0, .int .u8 0, .int .u8 0, .int .u8 0, .int .u8 0, .int .u8 0, .int .u8 0, .int .u8 0, .int .u8 0, .bool false, .bool false, .int .u8 0, .int .u8 0, .int .u8 0, .int .u8 0, .int .u8 0, .int .u8 0, .int .u8 0, .int .u8 0, .int .u8 0, .int .u8 0, .int .u8 0, .int .u8 0, .int .u8 0, .int .u8 0, .int .u8 0, .int .u8 0, .int .i64 0] 34) = W1 at *
  obtain ⟨Z, hZ, hZ2⟩ : ∃ Z : Array Value, W1.heap[w.heap.size + 1]? = some (.cells Z 34 (0, 0)) ∧ Z.size = A.size := ⟨_, HX2.out, HZZ.out⟩
  have HX3 : Hid _ := hZ
  have HZ3 : Hid _ := hZ2
  clear HX2 HZZ hZ hZ2
  have c33 := H33.out
  have c34 := H34.out
  have c35 := H35.out
  have c36 := H36.out
  have c53 := H53.out
  have c54 := H54.out
  have c71 := H71.out
  clear H33 H34 H35 H36 H53 H54 H71
  as_aux_lemma =>
  refine mkHid ?_
  go_wp2_with (refine wpList_load_mid rfl 23 (.tmp 7) rfl w.heap.size 17 rfl (bc m.share) _ R2.out hu rfl m2 (Hid.out ?_))
  refine mkHid ?_
  go_wp2_with (refine wpList_load_mid rfl 23 (.tmp 17) rfl w.heap.size 37 rfl (bc m.binder) _ R3.out hu rfl m3 (Hid.out ?_))
  refine mkHid ?_
  go_wp2_with (refine wpList_load_mid rfl 23 (.tmp 23) rfl w.heap.size 55 rfl (bc m.mark) _ R4.out hu rfl m4 (Hid.out ?_))
  refine mkHid ?_
  go_wp2_with (refine wbm rfl (.tmp 4) (.tmp 6) (.tmp 8) (.tmp 10) (.tmp 12) (.tmp 14) (.tmp 16) (.tmp 18) (.tmp 20) (.tmp 22) (.tmp 24) (.tmp 26) rfl (.int .i64 m.kind) (hv m.random) (hv m.share) (.string m.name) (.slice m.po m.protos.length m.pc) (.slice m.ao m.params.length m.ac) (.slice m.to m.ticket.length m.tc) (hv m.binder) (.bool m.early) (.bool m.again) (hv m.mark) (.int .i64 m.life) rfl rfl rfl rfl rfl rfl rfl rfl rfl rfl rfl rfl (.agg A) HBD.out (Hid.out ?_))
  have HRS : Hid _ := setRow_heap W1 (w.heap.size + 1) _ A 34 (0, 0) HX3.out
  have HBF : Hid (Below w.heap.size w (W1.setRow (w.heap.size + 1) A)) := below_setRow HB.out (by omega) _
  refine mkHid ?_
  go_wp2_with (refine wpList_store_row rfl 34 (.tmp 2) (.tmp 27) rfl (w.heap.size + 1) _ rfl rfl 34 _ HX3.out m34 HZ3.out hone ?_)
  refine bodyPost_ret (v := .agg A) (results_cell_row (fn := Try.f10) (p := 2) rfl _ _ (w.heap.size + 1) 34 _ (0, 0) _ rfl HRS.out u34s rfl m34r) rfl ?_
  exact ⟨rfl, HBF.out⟩
end Go.Proofs.Ytcchlicokglmnaa
