/- streams: apply; Take by kinds; takeOf of what is wrong. -/
import Derived.Test.YtijndpjdmiljkaaGreatDoorSh
namespace Go.Proofs.YtijndpjdmiljkaaGreatDoor
open Go.RowKit Go.Maps
set_option linter.unusedVariables false

theorem box_f (w : World) (k_ id o : Int) (d : Value) (fin : Bool) : ∃ X, w.alloc (.cells (fr6 k_ id o d fin).toArray 66) = X ∧ Rt 66 (fr6 k_ id o d fin).toArray X w.heap.size ∧ Below w.heap.size w X := ⟨_, rfl, heap_alloc_new w _, bel1 _ _⟩
set_option maxRecDepth 10000 in
theorem apply_8 (w : World) (T S : Nat) (id o : Int) (d : Value) (fin : Bool) (P : Value → World → Prop) (hp : ∀ X, Below w.heap.size w X → Calls Tryz.prog 179 #[.pointer (some ⟨T, 0, none⟩), .pointer (some ⟨S, 0, none⟩), .agg (fr6 8 id o d fin).toArray] X fun e w' => ∃ v, e = .returned v ∧ P v w') :
    Calls Tryz.prog 123 #[.pointer (some ⟨T, 0, none⟩), .pointer (some ⟨S, 0, none⟩), .agg (fr6 8 id o d fin).toArray] w fun e w' => ∃ v, e = .returned v ∧ P v w' := by
  obtain ⟨X, hX, hx, hb⟩ := box_f w 8 id o d fin
  have HP : Hid _ := hp X hb
  have HX : Hid _ := hx
  have c0 : X.cell? ⟨w.heap.size, 0, none⟩ = some (.int .i64 8) := hx.cell 0
  clear hp hx hb
  go_enter Tryz.func123, Tryz.ntmps123
  go_wp2_with (refine wpList_load_row rfl 66 (.tmp 5) rfl w.heap.size rfl 66 _ (0, 0) _ HX.out u66 rfl i66 ?_)
  refine Calls.mono HP.out ?_
  rintro e w' ⟨v, rfl, hv⟩
  have HV : Hid _ := hv
  clear hv
  go_wp2
  go_ret
  exact ⟨v, rfl, HV.out⟩
set_option maxRecDepth 10000 in
theorem apply_4 (w : World) (T S : Nat) (id : Int) (P : Value → World → Prop) (hp : ∀ X, Below w.heap.size w X → Calls Tryz.prog 179 #[.pointer (some ⟨T, 0, none⟩), .pointer (some ⟨S, 0, none⟩), .agg (fr6 4 id 0 (.slice none 0 0) true).toArray] X fun e w' => ∃ v, e = .returned v ∧ P v w') :
    Calls Tryz.prog 123 #[.pointer (some ⟨T, 0, none⟩), .pointer (some ⟨S, 0, none⟩), .agg (fr6 4 id 0 (.slice none 0 0) false).toArray] w fun e w' => ∃ v, e = .returned v ∧ P v w' := by
  obtain ⟨X, hX, hx, hb⟩ := box_f w 4 id 0 (.slice none 0 0) false
  have c0 : X.cell? ⟨w.heap.size, 0, none⟩ = some (.int .i64 4) := hx.cell 0
  have c2 : X.cell? ⟨w.heap.size, 2, none⟩ = some (.int .i64 0) := hx.cell 2
  have c3 : X.cell? ⟨w.heap.size, 3, none⟩ = some (.slice none 0 0) := hx.cell 3
  have c4 : X.cell? ⟨w.heap.size, 4, none⟩ = some (.bool false) := hx.cell 4
  have c6 : X.cell? ⟨w.heap.size, 6, none⟩ = some (.int .i64 0) := hx.cell 6
  have f2 : X.frozen? ⟨w.heap.size, 2, none⟩ = false := hx.frozen 2
  have f3 : X.frozen? ⟨w.heap.size, 3, none⟩ = false := hx.frozen 3
  have f4 : X.frozen? ⟨w.heap.size, 4, none⟩ = false := hx.frozen 4
  have h1 := hx.set 2 (.int .i64 0)
  have h2 := h1.set 3 (.slice none 0 0)
  have h3 := h2.set 4 (.bool true)
  have b1 := bel_setc hx 2 (.int .i64 0) hb (Nat.le_refl _)
  have b2 := bel_setc h1 3 (.slice none 0 0) b1 (Nat.le_refl _)
  have b3 := bel_setc h2 4 (.bool true) b2 (Nat.le_refl _)
  have HX : Hid (Rt 66 (fr6 4 id 0 (.slice none 0 0) true).toArray (((X.setCell ⟨w.heap.size, 2, none⟩ (.int .i64 0)).setCell ⟨w.heap.size, 3, none⟩ (.slice none 0 0)).setCell ⟨w.heap.size, 4, none⟩ (.bool true)) w.heap.size) := h3
  have HP : Hid _ := hp _ b3
  clear hp hx hb h1 h2 h3 b1 b2 b3
  go_enter Tryz.func123, Tryz.ntmps123
  go_upto_region 7 with fail
  generalize ((X.setCell ⟨w.heap.size, 2, none⟩ (.int .i64 0)).setCell ⟨w.heap.size, 3, none⟩ (.slice none 0 0)).setCell ⟨w.heap.size, 4, none⟩ (.bool true) = X' at *
  go_wp2_with (refine wpList_load_row rfl 66 (.tmp 5) rfl w.heap.size rfl 66 _ (0, 0) _ HX.out u66 rfl i66 ?_)
  refine Calls.mono HP.out ?_
  rintro e w' ⟨v, rfl, hv⟩
  have HV : Hid _ := hv
  clear hv
  go_wp2
  go_ret
  exact ⟨v, rfl, HV.out⟩
section
variable {srv : Bool} {x y : Lm} {k : Bks} {st : Tst} {w : World}
set_option maxRecDepth 10000 in
theorem take_of (h : Tb srv x y k st w) (k_ id o : Int) (d : Value) (fin : Bool) (hk : k_ = 8 ∨ k_ = 4 ∨ k_ = 5 ∨ k_ = 17 ∨ k_ = 21) (P : Value → World → Prop) (hp : ∀ X, Below w.heap.size w X → Calls Tryz.prog 58 #[.pointer (some ⟨k.T, 0, none⟩), .agg (fr6 k_ id o d fin).toArray] X fun e w' => ∃ v, e = .returned v ∧ P v w') :
    Calls Tryz.prog 21 #[.pointer (some ⟨k.T, 0, none⟩), .agg (fr6 k_ id o d fin).toArray] w fun e w' => ∃ v, e = .returned v ∧ P v w' := by
  obtain ⟨X, hX, hx, hb⟩ := box_f w k_ id o d fin
  have HP : Hid _ := hp X hb
  have HX : Hid _ := hx
  have HN : Hid _ := tnone_c (h.go hb)
  have c0 : X.cell? ⟨w.heap.size, 0, none⟩ = some (.int .i64 k_) := hx.cell 0
  clear hp hx hb h
  rcases hk with rfl | rfl | rfl | rfl | rfl
  all_goals
    go_enter Tryz.func21, Tryz.ntmps21
    go_wp2_with fail
    refine Calls.mono HN.out ?_
    rintro e w' ⟨rfl, hw⟩
    subst w'
    go_wp2_with (refine wpList_load_row rfl 66 (.tmp 3) rfl w.heap.size rfl 66 _ (0, 0) _ HX.out u66 rfl i66 ?_)
    refine Calls.mono HP.out ?_
    rintro e w' ⟨v, rfl, hv⟩
    have HV : Hid _ := hv
    clear hv
    go_wp2
    go_ret
    exact ⟨v, rfl, HV.out⟩
set_option maxRecDepth 10000 in
theorem take_ping (h : Tb srv x y k st w) (k_ id o : Int) (d : Value) (fin : Bool) (hk : k_ = 1 ∨ k_ = 20) :
    Calls Tryz.prog 21 #[.pointer (some ⟨k.T, 0, none⟩), .agg (fr6 k_ id o d fin).toArray] w fun e w' => e = .returned (if k_ = 1 then .iface 53 (.int .i64 12) else .nilIface) ∧ Below w.heap.size w w' := by
  obtain ⟨X, hX, hx, hb⟩ := box_f w k_ id o d fin
  have HB : Hid _ := hb
  have HN : Hid _ := tnone_c (h.go hb)
  have c0 : X.cell? ⟨w.heap.size, 0, none⟩ = some (.int .i64 k_) := hx.cell 0
  clear hx hb h
  rcases hk with rfl | rfl
  all_goals
    go_enter Tryz.func21, Tryz.ntmps21
    go_wp2_with fail
    refine Calls.mono HN.out ?_
    rintro e w' ⟨rfl, hw⟩
    subst w'
    go_wp2
    go_ret
    exact ⟨rfl, HB.out⟩
theorem neq_close (c : Nat) (w : World) : (binOp .neq 70 (.iface 139 (.pointer (some ⟨c, 0, none⟩))) .nilIface).run Tryz.prog w = .ok (.bool true) w := by kernel_rfl
set_option maxRecDepth 10000 in
theorem takeOf_wrong (T : Nat) (w : World) (k_ id o : Int) (d : Value) (fin : Bool) (code er : Int) (hp : ∀ X, Below w.heap.size w X → Calls Tryz.prog 122 #[.pointer (some ⟨T, 0, none⟩), .agg (fr6 k_ id o d fin).toArray] X fun e w' => ∃ v, e = .returned v ∧ Cl w' v code k_ er ∧ Below X.heap.size X w') :
    Calls Tryz.prog 58 #[.pointer (some ⟨T, 0, none⟩), .agg (fr6 k_ id o d fin).toArray] w fun e w' => ∃ v, e = .returned v ∧ Cl w' v code k_ er ∧ Below w.heap.size w w' := by
  obtain ⟨X, hX, hx, hb⟩ := box_f w k_ id o d fin
  have HP : Hid _ := hp X hb
  have HX : Hid _ := hx
  have HB : Hid _ := hb
  clear hp hx hb
  go_enter Tryz.func58, Tryz.ntmps58
  go_wp2_with (refine wpList_load_row rfl 66 (.tmp 3) rfl w.heap.size rfl 66 _ (0, 0) _ HX.out u66 rfl i66 ?_)
  refine Calls.mono HP.out ?_
  rintro e w' ⟨v, rfl, ⟨c, rfl, hc⟩, hb⟩
  have HV : Hid (Cl w' (.iface 139 (.pointer (some ⟨c, 0, none⟩))) code k_ er) := ⟨c, rfl, hc⟩
  have HB2 : Hid _ := bel_trans HB.out hb
  have hq := neq_close c
  clear hc hb HP
  go_wp2
  go_ret
  exact ⟨_, rfl, HV.out, HB2.out⟩
end
end Go.Proofs.YtijndpjdmiljkaaGreatDoor
