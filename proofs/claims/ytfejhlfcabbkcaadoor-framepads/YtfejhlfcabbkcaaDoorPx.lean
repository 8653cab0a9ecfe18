/- frame.walk with a putter of a path; standing. -/
import Derived.Test.YtfejhlfcabbkcaaDoorPuM
import Derived.Test.YtfejhlfcabbkcaaDoorRr
namespace Go.Proofs.YtfejhlfcabbkcaaDoor
open Go.ChangeShapes Go.WideShapes Go.ChangeAt Go.RowKit
set_option linter.unusedVariables false
set_option maxRecDepth 100000

theorem fm_path {w : World} {F : Nat} {f : Fr} (h : Fm w F f) (hr : f.rs.length = 16) {T : List UInt8} (hf : f.pt = bc T) : Sl w (some ⟨F, 33, none⟩) T := by
  intro j hj
  refine ⟨F, 33, rfl, h.at (33 + j) _ ?_⟩
  unfold Fr.cells
  rw [List.getElem?_append_right (by simp; omega), List.getElem?_append_right (by simp [hr]; omega), List.getElem?_append_left (by rw [hf, bc_length]; simp [hr]; omega), hf]
  rw [show 33 + j - ([.int .i64 f.k, .int .i64 f.s, .int .i64 f.o, f.D, .bool f.fin, .bool f.len, .int .i64 f.lim, .int .i64 f.code, .int .i64 f.of, f.A, .int .i64 f.del, .int .i64 f.e0, .int .i64 f.e1, .int .i64 f.e2, .int .i64 f.seq, .int .i64 f.ret, f.I] : List Value).length - f.rs.length = j by simp [hr]; omega]
  simp [bc, hj]
set_option maxHeartbeats 1000000 in
theorem pwalk_26 (p B F : Nat) (X : List UInt8) (r : Bool) (f : Fr) (w : World) (h : WS w p B F X r f) (hX : X.length ≤ 1024) (hr : f.rs.length = 16) (T : List UInt8) (hT : T.length = 8) (hf : f.pt = bc T) :
    Calls Tryd.prog 12 #[.iface 52 (.pointer (some ⟨p, 0, none⟩)), .int .i64 26, .pointer (some ⟨F, 0, none⟩)] w fun e w' => e = .returned (.tuple #[]) ∧ WS w' p B F (X ++ T) r f ∧ Gr p B w w' := by
  have hmf : ∀ (fn : Fn) (first cap : Array Value) (w : World), (Instr.makeFunc fn first cap).run Tryd.prog w = .ok (.func fn first cap) w := fun _ _ _ _ => rfl
  have mN := mArr
  have nN := nArr
  have hd := h.drew
  obtain ⟨v, hv⟩ := hd.pu
  have ha := parray p B v X r (some ⟨F, 33, none⟩) 8 T 8 w.drew hv hd.bs (by omega) (by omega) hT (fm_path hd.fm hr hf) (fun e => by cases e)
  have HN : Aside (Calls Tryd.prog 63 #[.pointer (some ⟨p, 0, none⟩), .slice (some ⟨F, 33, none⟩) 8 8] w.drew fun e w' => e = .returned (.tuple #[]) ∧ Aside (WS w' p B F (X ++ T) r f ∧ Gr p B w w')) := ha.mono (by rintro e w' ⟨rfl, hp, hg⟩; exact ⟨rfl, hd.on hg hp, ((Gr.refl p B w).drew).trans hg⟩)
  clear h hd hv ha hf hr
  go_enter Tryd.func12, Tryd.ntmps12
  go_wp2_with (go_at_call 8; refine (isStr_any _ _ (by decide) (by decide)).mono ?_; rintro e w' ⟨rfl, rfl⟩)
  go_region_with (go_at_call 63; refine Calls.mono HN.out ?_; rintro e w2 ⟨rfl, HR⟩)
  all_goals
    go_wp2
    go_end0
    exact ⟨rfl, HR.out⟩
theorem standing_c (f : Fr) (w : World) (k : Int) (hk : f.k = k) (hk8 : ¬ k = 8) : Calls Tryd.prog 10 #[.agg f.cells.toArray] w fun e w' => e = .returned (.int .i64 k) ∧ Below w.heap.size w w' := by
  have hn0 : Fm (w.alloc (.cells f.cells.toArray 33)) w.heap.size f := heap_alloc_new w _
  have c0 := hn0.at 0 _ (show f.cells[0]? = some (.int .i64 f.k) from rfl)
  rw [hk] at c0
  have HB : Aside (Below w.heap.size w (w.alloc (.cells f.cells.toArray 33))) := bel1 w _
  obtain ⟨W1, hW1⟩ : ∃ W1, w.alloc (.cells f.cells.toArray 33) = W1 := ⟨_, rfl⟩
  rw [hW1] at c0 HB
  have hk8' : (k == 8) = false := by simpa using hk8
  clear hn0
  generalize f.cells.toArray = X at *
  go_enter Tryd.func10, Tryd.ntmps10
  go_wp2
  go_ret
  exact ⟨rfl, HB.out⟩
end Go.Proofs.YtfejhlfcabbkcaaDoor
