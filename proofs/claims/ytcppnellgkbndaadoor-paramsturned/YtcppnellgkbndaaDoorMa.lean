/- params: a row of the table may not be: Check's closure. -/
import Derived.Test.YtcppnellgkbndaaDoorMz
namespace Go.Proofs.YtcppnellgkbndaaDoor
open Go.ChangeShapes Go.WideShapes Go.ChangeAt Go.RowKit
set_option linter.unusedVariables false
set_option maxRecDepth 100000

/-- A method of a value answers a bool, whatever lies above w. -/
def MB (w : World) (T : TypeId) (v : Value) (m : String) (y : Bool) : Prop := ∃ f u, (∀ X : World, (Go.method 277 T v m).run Tryd.prog X = .ok (f, u) X) ∧ (∀ (args : Array Value) (X : World), (Go.callFunc f args).run Tryd.prog X = .ok (.enter f args) X) ∧ ∀ X, Below w.heap.size w X → Calls Tryd.prog f #[u] X fun e w' => e = .returned (.bool y) ∧ Below X.heap.size X w'
theorem MB.above {w X : World} {T : TypeId} {v : Value} {m : String} {y : Bool} (h : MB w T v m y) (hb : Below w.heap.size w X) : MB X T v m y := by
  obtain ⟨f, u, h1, h3, h2⟩ := h
  exact ⟨f, u, h1, h3, fun Y hY => h2 Y (hb.trans (hY.mono hb.size))⟩
/-- A row may not be, of a server or a client. -/
def bad (s sv al th : Bool) : Bool := !al || (!(s || !sv) && th)
set_option maxHeartbeats 1000000 in
theorem mayNot_c (n : Int) (sv mu s al th : Bool) (T : TypeId) (v : Value) (sb : Nat) (w : World) (hA : MB w T v "caravel/params.allowed" al) (hT : MB w T v "caravel/params.there" th) (hs : w.cell? ⟨sb, 0, none⟩ = some (.bool s)) :
    Calls Tryd.prog 26 #[.agg (fieldA n sv mu (.iface T v)), .pointer (some ⟨sb, 0, none⟩)] w fun e w' => e = .returned (.bool (bad s sv al th)) ∧ Below w.heap.size w w' := by
  obtain ⟨W1, hW1, hB, hH, d0, d1, d2, d3⟩ := field_cells n sv mu (.iface T v) w
  obtain ⟨fa, ua, ma, ea, ca⟩ := hA
  obtain ⟨ft, ut, mt, et, ct⟩ := hT
  have ha := ca W1 hB
  have HX : Aside (∀ X, Below W1.heap.size W1 X → X.heap[w.heap.size]? = some (.cells (fieldA n sv mu (.iface T v)) 58 (0, 0)) ∧ X.cell? ⟨w.heap.size, 3, none⟩ = some (.iface T v) ∧ X.cell? ⟨sb, 0, none⟩ = some (.bool s)) := fun X hX => ⟨(hX.block _ (lt_block hH)).trans hH, cell_bel d3 hX, cell_bel (cell_bel hs hB) hX⟩
  have HCT : Aside (∀ X, Below w.heap.size w X → Calls Tryd.prog ft #[ut] X fun e w' => e = .returned (.bool th) ∧ Below X.heap.size X w') := ct
  have HIS : Aside (∀ X, Calls Tryd.prog 27 #[.agg (fieldA n sv mu (.iface T v)), .bool s] X fun e w' => e = .returned (.bool (s || !sv)) ∧ Below X.heap.size X w') := fun X => isOf_c n sv mu s (.iface T v) X
  have hW2 : w.alloc (.cells #[.int .i64 n, .bool sv, .bool mu, .iface T v] 58) = W1 := hW1
  have HB : Aside (Below w.heap.size w W1) := hB
  rw [show #[Value.agg (fieldA n sv mu (.iface T v)), Value.pointer (some ⟨sb, 0, none⟩)] = #[.agg #[.int .i64 n, .bool sv, .bool mu, .iface T v], .pointer (some ⟨sb, 0, none⟩)] from rfl]
  clear hB hH d0 d1 d2 hs hW1 ca ct
  unfold bad
  generalize (s || !sv) = y at *
  cases al with
  | false =>
    go_enter Tryd.func26, Tryd.ntmps26
    go_wp2_with fail
    refine ha.mono ?_
    rintro e W2 ⟨rfl, hb2⟩
    have HB2 : Aside (Below w.heap.size w W2) := HB.out.trans (hb2.mono HB.out.size)
    clear ha hb2 HX d3
    go_wp2
    go_ret
    exact ⟨rfl, HB2.out⟩
  | true =>
    cases y with
    | true =>
      go_enter Tryd.func26, Tryd.ntmps26
      go_wp2_with fail
      refine ha.mono ?_
      rintro e W2 ⟨rfl, hb2⟩
      obtain ⟨k0, k3, ks⟩ := HX.out W2 hb2
      have HK : Aside (W2.heap[w.heap.size]? = some (.cells (fieldA n sv mu (.iface T v)) 58 (0, 0))) := k0
      have hi := HIS.out W2
      have HB2 : Aside (Below w.heap.size w W2) := HB.out.trans (hb2.mono HB.out.size)
      clear ha hb2 HX d3 k0 hW2
      go_wp2_with (first | (refine wpList_load_row_g (by rfl) 58 (.tmp 2) rfl w.heap.size rfl 58 _ (0, 0) _ HK.out hu58 rfl hi58 ?_))
      refine hi.mono ?_
      rintro e W3 ⟨rfl, hb3⟩
      have HB3 : Aside (Below w.heap.size w W3) := HB2.out.trans (hb3.mono HB2.out.size)
      clear hi hb3 k3 ks
      go_wp2
      go_ret
      exact ⟨rfl, HB3.out⟩
    | false =>
      go_enter Tryd.func26, Tryd.ntmps26
      go_wp2_with fail
      refine ha.mono ?_
      rintro e W2 ⟨rfl, hb2⟩
      obtain ⟨k0, k3, ks⟩ := HX.out W2 hb2
      have HK : Aside (W2.heap[w.heap.size]? = some (.cells (fieldA n sv mu (.iface T v)) 58 (0, 0))) := k0
      have hi := HIS.out W2
      have HB2 : Aside (Below w.heap.size w W2) := HB.out.trans (hb2.mono HB.out.size)
      have K3 : Aside (W2.cell? ⟨w.heap.size, 3, none⟩ = some (.iface T v)) := k3
      clear ha hb2 HX d3 k0 hW2
      go_wp2_with (first | (refine wpList_load_row_g (by rfl) 58 (.tmp 2) rfl w.heap.size rfl 58 _ (0, 0) _ HK.out hu58 rfl hi58 ?_))
      refine hi.mono ?_
      rintro e W3 ⟨rfl, hb3⟩
      have HB3 : Aside (Below w.heap.size w W3) := HB2.out.trans (hb3.mono HB2.out.size)
      have k33 := cell_bel K3.out hb3
      have ht := HCT.out W3 HB3.out
      clear hi hb3 k3 ks
      go_wp2_with fail
      refine ht.mono ?_
      rintro e W4 ⟨rfl, hb4⟩
      have HB4 : Aside (Below w.heap.size w W4) := HB3.out.trans (hb4.mono HB3.out.size)
      clear ht hb4 k33
      go_wp2
      go_ret
      exact ⟨by simp, HB4.out⟩
end Go.Proofs.YtcppnellgkbndaaDoor
