/- A vault that is nil, or that no call made: what each call of vault answers for it. -/
import Derived.Test.YtdklkofnekacdaaGreatDoorHv
import Derived.Laws.CopyOwn
namespace Go.Proofs.YtdklkofnekacdaaGreatDoor
open Go.RowKit
set_option linter.unusedVariables false

/-- A vault that is none: nil, or a plain one. -/
def No (w : World) (p : Option Addr) : Prop := p = none ∨ ∃ b, p = some ⟨b, 0, none⟩ ∧ w.cell? ⟨b, 0, none⟩ = some (.slice none 0 0)
theorem cell_bel {w w' : World} {b j : Nat} {v : Value} (h : w.cell? ⟨b, j, none⟩ = some v) (hb : Below w.heap.size w w') : w'.cell? ⟨b, j, none⟩ = some v := by
  rw [hb.cell (p := ⟨b, j, none⟩) (World.block_lt_of_cell? _ _ h)]; exact h
theorem No.bel {w w' : World} {p : Option Addr} (h : No w p) (hb : Below w.heap.size w w') : No w' p := by
  rcases h with rfl | ⟨b, rfl, h0⟩
  · exact .inl rfl
  · exact .inr ⟨b, rfl, cell_bel h0 hb⟩
theorem bel1 (w : World) (o : Obj) : Below w.heap.size w (w.alloc o) := (Below.refl _ w).alloc (Nat.le_refl _) o
theorem bel_trans {a b c : World} (h : Below a.heap.size a b) (k : Below b.heap.size b c) : Below a.heap.size a c := h.trans (k.mono h.size)
theorem No.alloc {w : World} {p : Option Addr} (h : No w p) (o : Obj) : No (w.alloc o) p := h.bel (bel1 w o)
theorem heap_bel {w w' : World} {b : Nat} {o : Obj} (h : w.heap[b]? = some o) (hb : Below w.heap.size w w') : w'.heap[b]? = some o := (hb.block b (Array.getElem?_eq_some_iff.1 h).1).trans h

theorem bel_drew (w : World) : Below w.heap.size w w.drew := ⟨rfl, rfl, rfl, Nat.le_refl _, fun _ _ => rfl⟩
theorem no_none (p : Option Addr) (w : World) (h : No w p) : Calls Tryz.prog 29 #[.pointer p] w fun e w' => e = .returned (.bool true) ∧ w' = w := by
  rcases h with rfl | ⟨b, rfl, h0⟩
  · go_enter Tryz.func29, Tryz.ntmps29
    go_wp2
    go_ret
    exact ⟨rfl, rfl⟩
  · go_enter Tryz.func29, Tryz.ntmps29
    go_wp2
    go_ret
    exact ⟨rfl, rfl⟩
theorem no_number (p : Option Addr) (H : List UInt8) (w : World) (h : No w p) : Calls Tryz.prog 60 #[.pointer p, hv H] w fun e w' => e = .returned (.tuple #[.int .i64 0, .int .i64 1]) ∧ Below w.heap.size w w' := by
  go_enter Tryz.func60, Tryz.ntmps60
  go_wp2_with fail
  refine (no_none p _ (h.alloc _)).mono ?_
  rintro e w' ⟨rfl, rfl⟩
  go_wp2
  go_ret2
  exact ⟨rfl, bel1 _ _⟩
theorem hz28 (w : World) : (w.alloc (.cells #[.int .u8 0, .int .u8 0, .int .u8 0, .int .u8 0, .int .u8 0, .int .u8 0, .int .u8 0, .int .u8 0, .int .u8 0, .int .u8 0, .int .u8 0, .int .u8 0, .int .u8 0, .int .u8 0, .int .u8 0, .int .u8 0] 36)) = w.alloc (.cells (hl z16).toArray 36) := rfl
/-- A handle boxed, and a zero one behind it. -/
theorem box2 (w : World) (H : List UInt8) : ((w.alloc (.cells (hl H).toArray 36)).alloc (.cells (hl z16).toArray 36)).heap[w.heap.size]? = some (.cells (hl H).toArray 36 (0, 0)) ∧ ((w.alloc (.cells (hl H).toArray 36)).alloc (.cells (hl z16).toArray 36)).heap[w.heap.size + 1]? = some (.cells (hl z16).toArray 36 (0, 0)) ∧ Below w.heap.size w ((w.alloc (.cells (hl H).toArray 36)).alloc (.cells (hl z16).toArray 36)) ∧ ((w.alloc (.cells (hl H).toArray 36)).alloc (.cells (hl z16).toArray 36)).heap.size = w.heap.size + 2 := by
  refine ⟨?_, ?_, (bel1 w _).alloc (by simp) _, by simp⟩
  · rw [Below.heap_alloc _ _ _ (by simp)]; exact heap_alloc_new w _
  · have := heap_alloc_new (w.alloc (.cells (hl H).toArray 36)) (.cells (hl z16).toArray 36)
    rwa [World.size_alloc] at this
theorem bel_set {a w : World} {n g : Nat} (h : Below n a w) (hg : n ≤ g) (cs : Array Value) : Below n a (w.setRow g cs) := below_setRow h hg cs
set_option maxHeartbeats 400000 in
theorem no_derive (p : Option Addr) (H : List UInt8) (lb : ByteArray) (o : Option Addr) (n c : Nat) (w : World) (h : No w p) (hs : H.length = 16) : Calls Tryz.prog 28 #[.pointer p, hv H, .string lb, .slice o n c] w fun e w' => e = .returned (.tuple #[hv z16, .int .i64 1]) ∧ Below w.heap.size w w' := by
  obtain ⟨b1, b2, b3, b4⟩ := box2 w H
  have n2 := h.bel b3
  go_enter Tryz.func28, Tryz.ntmps28
  go_wp2_with (refine ld28 rfl (.tmp 5) rfl w.heap.size rfl H b1 hs ?_)
  rw [hz28]
  generalize (w.alloc (.cells (hl H).toArray 36)).alloc (.cells (hl z16).toArray 36) = W at *
  refine (no_number p H W n2).mono ?_
  rintro e w' ⟨rfl, hb⟩
  have b2' := heap_bel b2 hb
  have HB : Aside _ := bel_set (b3.trans (hb.mono b3.size)) (show w.heap.size ≤ w.heap.size + 1 by omega) (hl z16).toArray
  have HR : Aside _ := setRow_heap w' (w.heap.size + 1) _ (hl z16).toArray 36 (0, 0) b2'
  clear b3 hb b4 n2
  go_wp2_with (refine st28 rfl (.tmp 8) (.tmp 20) rfl (w.heap.size + 1) z16 rfl hv_z z16 b2' rfl rfl ?_)
  refine bodyPost_ret (v := .tuple #[hv z16, .int .i64 1]) (res_h (fn := Tryz.f28) (p := 8) (u := 9) rfl _ _ (w.heap.size + 1) z16 rfl HR.out rfl) rfl ?_
  exact ⟨rfl, HB.out⟩
theorem box3 (w : World) (H G : List UInt8) : (((w.alloc (.cells (hl H).toArray 36)).alloc (.cells (hl G).toArray 36)).alloc (.cells (hl z16).toArray 36)).heap[w.heap.size]? = some (.cells (hl H).toArray 36 (0, 0)) ∧ (((w.alloc (.cells (hl H).toArray 36)).alloc (.cells (hl G).toArray 36)).alloc (.cells (hl z16).toArray 36)).heap[w.heap.size + 1]? = some (.cells (hl G).toArray 36 (0, 0)) ∧ (((w.alloc (.cells (hl H).toArray 36)).alloc (.cells (hl G).toArray 36)).alloc (.cells (hl z16).toArray 36)).heap[w.heap.size + 1 + 1]? = some (.cells (hl z16).toArray 36 (0, 0)) ∧ Below w.heap.size w (((w.alloc (.cells (hl H).toArray 36)).alloc (.cells (hl G).toArray 36)).alloc (.cells (hl z16).toArray 36)) ∧ (((w.alloc (.cells (hl H).toArray 36)).alloc (.cells (hl G).toArray 36)).alloc (.cells (hl z16).toArray 36)).heap.size = w.heap.size + 3 := by
  refine ⟨?_, ?_, ?_, ((bel1 w _).alloc (by simp) _).alloc (by simp; omega) _, by simp⟩
  · rw [Below.heap_alloc _ _ _ (by simp; omega), Below.heap_alloc _ _ _ (by simp)]; exact heap_alloc_new w _
  · rw [Below.heap_alloc _ _ _ (by simp)]
    have := heap_alloc_new (w.alloc (.cells (hl H).toArray 36)) (.cells (hl G).toArray 36)
    rwa [World.size_alloc] at this
  · have := heap_alloc_new ((w.alloc (.cells (hl H).toArray 36)).alloc (.cells (hl G).toArray 36)) (.cells (hl z16).toArray 36)
    rwa [World.size_alloc, World.size_alloc] at this
theorem box1 (w : World) (H : List UInt8) : (w.alloc (.cells (hl H).toArray 36)).heap[w.heap.size]? = some (.cells (hl H).toArray 36 (0, 0)) ∧ Below w.heap.size w (w.alloc (.cells (hl H).toArray 36)) := ⟨heap_alloc_new w _, bel1 _ _⟩
theorem box2' (w : World) (H G : List UInt8) : ((w.alloc (.cells (hl H).toArray 36)).alloc (.cells (hl G).toArray 36)).heap[w.heap.size]? = some (.cells (hl H).toArray 36 (0, 0)) ∧ ((w.alloc (.cells (hl H).toArray 36)).alloc (.cells (hl G).toArray 36)).heap[w.heap.size + 1]? = some (.cells (hl G).toArray 36 (0, 0)) ∧ Below w.heap.size w ((w.alloc (.cells (hl H).toArray 36)).alloc (.cells (hl G).toArray 36)) := by
  refine ⟨?_, ?_, (bel1 w _).alloc (by simp) _⟩
  · rw [Below.heap_alloc _ _ _ (by simp)]; exact heap_alloc_new w _
  · have := heap_alloc_new (w.alloc (.cells (hl H).toArray 36)) (.cells (hl G).toArray 36)
    rwa [World.size_alloc] at this
set_option maxHeartbeats 400000 in
theorem no_root (p : Option Addr) (w : World) (h : No w p) : Calls Tryz.prog 57 #[.pointer p] w fun e w' => e = .returned (hv z16) ∧ Below w.heap.size w w' := by
  obtain ⟨b1, b3⟩ := box1 w z16
  have n2 := h.bel b3
  go_enter Tryz.func57, Tryz.ntmps57
  go_wp2_with fail
  rw [hz28]
  generalize w.alloc (.cells (hl z16).toArray 36) = W at *
  refine (no_none p W n2).mono ?_
  rintro e w' ⟨rfl, rfl⟩
  have HB : Aside _ := bel_set b3 (Nat.le_refl _) (hl z16).toArray
  have HR : Aside _ := setRow_heap w' w.heap.size _ (hl z16).toArray 36 (0, 0) b1
  clear b3 n2
  go_wp2_with (refine st28 rfl (.tmp 2) (.tmp 5) rfl w.heap.size z16 rfl hv_z z16 b1 rfl rfl ?_)
  refine bodyPost_ret (v := hv z16) (res_1 (fn := Tryz.f57) (p := 2) rfl _ _ w.heap.size z16 rfl HR.out rfl) rfl ?_
  exact ⟨rfl, HB.out⟩
set_option maxHeartbeats 400000 in
theorem no_fresh (p : Option Addr) (w : World) (h : No w p) : Calls Tryz.prog 9 #[.pointer p] w fun e w' => e = .returned (hv z16) ∧ Below w.heap.size w w' := by
  obtain ⟨b1, b3⟩ := box1 w z16
  have n2 := h.bel b3
  go_enter Tryz.func9, Tryz.ntmps9
  go_wp2_with fail
  rw [hz28]
  generalize w.alloc (.cells (hl z16).toArray 36) = W at *
  refine (no_none p W n2).mono ?_
  rintro e w' ⟨rfl, rfl⟩
  have HB : Aside _ := bel_set b3 (Nat.le_refl _) (hl z16).toArray
  have HR : Aside _ := setRow_heap w' w.heap.size _ (hl z16).toArray 36 (0, 0) b1
  clear b3 n2
  go_wp2_with (refine st28 rfl (.tmp 2) (.tmp 5) rfl w.heap.size z16 rfl hv_z z16 b1 rfl rfl ?_)
  refine bodyPost_ret (v := hv z16) (res_1 (fn := Tryz.f9) (p := 2) rfl _ _ w.heap.size z16 rfl HR.out rfl) rfl ?_
  exact ⟨rfl, HB.out⟩
theorem res_b {fn : Func} {p : Tmp} (h : fn.results = #[.cell p 4]) (tmps : Array Value) (w : World) (g : Nat) (x : Bool) (hp : tmps.getD p undef = .pointer (some ⟨g, 0, none⟩))
    (hg : w.cell? ⟨g, 0, none⟩ = some (.bool x)) : (results fn tmps).run Tryz.prog w = .ok (.bool x) w := by
  have hp' : tmps[p]?.getD undef = .pointer (some ⟨g, 0, none⟩) := by simpa using hp
  have a4 := Tryz.isAgg4
  simp [results, h, hp', asAddr, loadVar, a4, hg, go_sem]
end Go.Proofs.YtdklkofnekacdaaGreatDoor
