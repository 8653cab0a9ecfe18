/- streams: a frame's value; closed; wrong: what is wrong with a frame by its stream's number. -/
import Derived.Test.YtijndpjdmiljkaaGreatDoorSa
namespace Go.Proofs.YtijndpjdmiljkaaGreatDoor
open Go.RowKit
set_option linter.unusedVariables false

/-- A frame's cells, of those that a test of streams sets. -/
def fr6 (k_ id o : Int) (d : Value) (fin : Bool) : List Value := [.int .i64 k_, .int .i64 id, .int .i64 o, d, .bool fin, .bool false, .int .i64 0, .int .i64 0, .int .i64 0, .slice none 0 0, .int .i64 0, .int .i64 0, .int .i64 0, .int .i64 0, .int .i64 0, .int .i64 0, .slice none 0 0, .int .u8 0, .int .u8 0, .int .u8 0, .int .u8 0, .int .u8 0, .int .u8 0, .int .u8 0, .int .u8 0, .int .u8 0, .int .u8 0, .int .u8 0, .int .u8 0, .int .u8 0, .int .u8 0, .int .u8 0, .int .u8 0, .int .u8 0, .int .u8 0, .int .u8 0, .int .u8 0, .int .u8 0, .int .u8 0, .int .u8 0, .int .u8 0, .int .i64 0]
/-- v is a Close with these, which is new. -/
def Cl (W : World) (v : Value) (code kind er : Int) : Prop := ∃ c, v = .iface 139 (.pointer (some ⟨c, 0, none⟩)) ∧ W.heap[c]? = some (.cells #[.int .i64 code, .bool false, .int .i64 kind, .int .i64 er] 143 (0, 0))
theorem Cl.go {W Z : World} {v : Value} {code kind er : Int} (h : Cl W v code kind er) (hb : Below W.heap.size W Z) : Cl Z v code kind er := by
  obtain ⟨c, h1, h2⟩ := h
  exact ⟨c, h1, heap_bel h2 hb⟩
theorem closed_c (code kind er : Int) (w : World) : Calls Tryz.prog 177 #[.int .i64 code, .int .i64 kind, .int .i64 er] w fun e w' => ∃ v, e = .returned v ∧ Cl w' v code kind er ∧ Below w.heap.size w w' := by
  have HR : Hid _ := heap_alloc_new w (.cells #[.int .i64 code, .bool false, .int .i64 kind, .int .i64 er] 143)
  have HB : Hid _ := bel1 w (.cells #[.int .i64 code, .bool false, .int .i64 kind, .int .i64 er] 143)
  go_enter Tryz.func177, Tryz.ntmps177
  go_wp2
  go_ret
  exact ⟨_, rfl, ⟨_, rfl, HR.out⟩, HB.out⟩
theorem u66' : Tryz.prog.underlying 66 = some (.struct (Tryz.prog.fieldsOf 66)) := by kernel_rfl
theorem i66' : (Tryz.prog.info? 66).map (·.size) = some 42 := by kernel_rfl
/-- A frame in its box, and the table. -/
structure Bx (srv : Bool) (x y : Lm) (k : Bks) (st : Tst) (k_ id o : Int) (d : Value) (fin : Bool) (w : World) (B : Nat) (X : World) : Prop where
  bx : X.heap[B]? = some (.cells (fr6 k_ id o d fin).toArray 66 (0, 0))
  tb : Tb srv x y k st X
  bel : Below w.heap.size w X
section
variable {srv : Bool} {x y : Lm} {k : Bks} {st : Tst} {k_ id o : Int} {d : Value} {fin : Bool} {w : World} {B : Nat} {X : World}
theorem Bx.go (h : Bx srv x y k st k_ id o d fin w B X) {Z : World} (hb : Below X.heap.size X Z) : Bx srv x y k st k_ id o d fin w B Z := ⟨heap_bel h.bx hb, h.tb.go hb, bel_trans h.bel hb⟩
theorem Bx.c0 (h : Bx srv x y k st k_ id o d fin w B X) : X.cell? ⟨B, 0, none⟩ = some (.int .i64 k_) := by simp [World.cell?, h.bx, fr6]
theorem Bx.c1 (h : Bx srv x y k st k_ id o d fin w B X) : X.cell? ⟨B, 1, none⟩ = some (.int .i64 id) := by simp [World.cell?, h.bx, fr6]
theorem Bx.c2 (h : Bx srv x y k st k_ id o d fin w B X) : X.cell? ⟨B, 2, none⟩ = some (.int .i64 o) := by simp [World.cell?, h.bx, fr6]
theorem Bx.c3 (h : Bx srv x y k st k_ id o d fin w B X) : X.cell? ⟨B, 3, none⟩ = some d := by simp [World.cell?, h.bx, fr6]
theorem Bx.c4 (h : Bx srv x y k st k_ id o d fin w B X) : X.cell? ⟨B, 4, none⟩ = some (.bool fin) := by simp [World.cell?, h.bx, fr6]
theorem Bx.c6 (h : Bx srv x y k st k_ id o d fin w B X) : X.cell? ⟨B, 6, none⟩ = some (.int .i64 0) := by simp [World.cell?, h.bx, fr6]
theorem Bx.rng (h : Bx srv x y k st k_ id o d fin w B X) : X.rangeAt B 0 (fr6 k_ id o d fin) := by
  intro j v hv
  unfold World.cell?
  simp only [h.bx]
  simpa using hv
end
theorem Bx.new {srv : Bool} {x y : Lm} {k : Bks} {st : Tst} {w : World} (h : Tb srv x y k st w) (k_ id o : Int) (d : Value) (fin : Bool) : Bx srv x y k st k_ id o d fin w w.heap.size (w.alloc (.cells (fr6 k_ id o d fin).toArray 66)) := ⟨heap_alloc_new w _, h.go (bel1 _ _), bel1 _ _⟩
set_option maxRecDepth 10000 in
set_option maxHeartbeats 2000000 in
theorem wrong_r_no {srv : Bool} {x y : Lm} {k : Bks} {st : Tst} {w : World} (h : Tb srv x y k st w) (hf : st.fine) (k_ : Int) (p : Nat) (s u : Bool) (o : Int) (d : Value) (fin : Bool) (hp : p < 1152921504606846976) (hk : k_ = 8 ∨ k_ = 4 ∨ k_ = 21) (hh : (!(s == srv) || !u) = false) :
    Calls Tryz.prog 122 #[.pointer (some ⟨k.T, 0, none⟩), .agg (fr6 k_ (sid p s u) o d fin).toArray] w fun e w' => ∃ v, e = .returned v ∧ Cl w' v 5 k_ 32 ∧ Below w.heap.size w w' := by
  have HX0 : Hid _ := Bx.new h k_ (sid p s u) o d fin
  have id0 := sid_0 p s u
  have hz : ¬ sid p s u < 0 := by omega
  have HR : Hid (∀ W, Tb srv x y k st W → _) := fun W (hW : Tb srv x y k st W) => reads_c hW p s u hp
  have HW : Hid (∀ W, Tb srv x y k st W → _) := fun W (hW : Tb srv x y k st W) => writes_c hW p s u hp
  have HM : Hid (∀ W, Tb srv x y k st W → _) := fun W (hW : Tb srv x y k st W) => mine_c hW p s u hp
  have HO : Hid (∀ W, Tb srv x y k st W → _) := fun W (hW : Tb srv x y k st W) => opened_c hW hf p s u hp
  have HP : Hid (∀ W, _) := fun W => place_c p s u W
  have HU : Hid (∀ W, _) := fun W => isUni_c p s u W hp
  have HA : Hid (∀ W, Tb srv x y k st W → _) := fun W (hW : Tb srv x y k st W) => allowed_c hW u
  rw [hh] at HR
  clear hf h
  generalize sid p s u = id at *
  go_enter Tryz.func122, Tryz.ntmps122
  go_upto_region 1 with fail
  obtain ⟨B, hB⟩ : ∃ B, w.heap.size = B := ⟨_, rfl⟩
  obtain ⟨X, hX⟩ : ∃ X, w.alloc (.cells (fr6 k_ id o d fin).toArray 66) = X := ⟨_, rfl⟩
  rw [hB, hX] at HX0
  rw [hB, hX]
  clear hB hX
  have c0 := HX0.out.c0
  have c1 := HX0.out.c1
  go_wp2_with fail
  refine Calls.mono (HR.out _ HX0.out.tb) ?_
  rintro e w' ⟨rfl, hw⟩
  subst w'
  rcases hk with rfl | rfl | rfl
  all_goals
    go_wp2_with fail
    refine Calls.mono (HM.out _ HX0.out.tb) ?_
    rintro e w' ⟨rfl, hw⟩
    subst w'
    go_wp2_with fail
    refine Calls.mono (closed_c 5 _ 32 _) ?_
    rintro e w' ⟨v, rfl, hcl, hbl⟩
    have HB : Hid _ := bel_trans HX0.out.bel hbl
    have HC : Hid _ := hcl
    clear hcl hbl
    go_wp2
    go_ret
    exact ⟨v, rfl, HC.out, HB.out⟩
set_option maxRecDepth 10000 in
set_option maxHeartbeats 2000000 in
theorem wrong_w_no {srv : Bool} {x y : Lm} {k : Bks} {st : Tst} {w : World} (h : Tb srv x y k st w) (hf : st.fine) (k_ : Int) (p : Nat) (s u : Bool) (o : Int) (d : Value) (fin : Bool) (hp : p < 1152921504606846976) (hk : k_ = 5 ∨ k_ = 17) (hh : ((s == srv) || !u) = false) :
    Calls Tryz.prog 122 #[.pointer (some ⟨k.T, 0, none⟩), .agg (fr6 k_ (sid p s u) o d fin).toArray] w fun e w' => ∃ v, e = .returned v ∧ Cl w' v 5 k_ 32 ∧ Below w.heap.size w w' := by
  have HX0 : Hid _ := Bx.new h k_ (sid p s u) o d fin
  have id0 := sid_0 p s u
  have hz : ¬ sid p s u < 0 := by omega
  have HR : Hid (∀ W, Tb srv x y k st W → _) := fun W (hW : Tb srv x y k st W) => reads_c hW p s u hp
  have HW : Hid (∀ W, Tb srv x y k st W → _) := fun W (hW : Tb srv x y k st W) => writes_c hW p s u hp
  have HM : Hid (∀ W, Tb srv x y k st W → _) := fun W (hW : Tb srv x y k st W) => mine_c hW p s u hp
  have HO : Hid (∀ W, Tb srv x y k st W → _) := fun W (hW : Tb srv x y k st W) => opened_c hW hf p s u hp
  have HP : Hid (∀ W, _) := fun W => place_c p s u W
  have HU : Hid (∀ W, _) := fun W => isUni_c p s u W hp
  have HA : Hid (∀ W, Tb srv x y k st W → _) := fun W (hW : Tb srv x y k st W) => allowed_c hW u
  rw [hh] at HW
  clear hf h
  generalize sid p s u = id at *
  go_enter Tryz.func122, Tryz.ntmps122
  go_upto_region 1 with fail
  obtain ⟨B, hB⟩ : ∃ B, w.heap.size = B := ⟨_, rfl⟩
  obtain ⟨X, hX⟩ : ∃ X, w.alloc (.cells (fr6 k_ id o d fin).toArray 66) = X := ⟨_, rfl⟩
  rw [hB, hX] at HX0
  rw [hB, hX]
  clear hB hX
  have c0 := HX0.out.c0
  have c1 := HX0.out.c1
  go_wp2_with fail
  refine Calls.mono (HR.out _ HX0.out.tb) ?_
  rintro e w' ⟨rfl, hw⟩
  subst w'
  rcases hk with rfl | rfl
  all_goals
    go_wp2_with fail
    refine Calls.mono (HW.out _ HX0.out.tb) ?_
    rintro e w' ⟨rfl, hw⟩
    subst w'
    go_wp2_with fail
    refine Calls.mono (HM.out _ HX0.out.tb) ?_
    rintro e w' ⟨rfl, hw⟩
    subst w'
    go_wp2_with fail
    refine Calls.mono (closed_c 5 _ 32 _) ?_
    rintro e w' ⟨v, rfl, hcl, hbl⟩
    have HB : Hid _ := bel_trans HX0.out.bel hbl
    have HC : Hid _ := hcl
    clear hcl hbl
    go_wp2
    go_ret
    exact ⟨v, rfl, HC.out, HB.out⟩
set_option maxRecDepth 10000 in
set_option maxHeartbeats 2000000 in
theorem wrong_r_op {srv : Bool} {x y : Lm} {k : Bks} {st : Tst} {w : World} (h : Tb srv x y k st w) (hf : st.fine) (k_ : Int) (p : Nat) (s u : Bool) (o : Int) (d : Value) (fin : Bool) (hp : p < 1152921504606846976) (hk : k_ = 8 ∨ k_ = 4 ∨ k_ = 21) (hh : (!(s == srv) || !u) = true) (hm : (s == srv) = true) (ho : ¬ (p : Int) < st.had srv s u) :
    Calls Tryz.prog 122 #[.pointer (some ⟨k.T, 0, none⟩), .agg (fr6 k_ (sid p s u) o d fin).toArray] w fun e w' => ∃ v, e = .returned v ∧ Cl w' v 5 k_ 32 ∧ Below w.heap.size w w' := by
  have HX0 : Hid _ := Bx.new h k_ (sid p s u) o d fin
  have id0 := sid_0 p s u
  have hz : ¬ sid p s u < 0 := by omega
  have HR : Hid (∀ W, Tb srv x y k st W → _) := fun W (hW : Tb srv x y k st W) => reads_c hW p s u hp
  have HW : Hid (∀ W, Tb srv x y k st W → _) := fun W (hW : Tb srv x y k st W) => writes_c hW p s u hp
  have HM : Hid (∀ W, Tb srv x y k st W → _) := fun W (hW : Tb srv x y k st W) => mine_c hW p s u hp
  have HO : Hid (∀ W, Tb srv x y k st W → _) := fun W (hW : Tb srv x y k st W) => opened_c hW hf p s u hp
  have HP : Hid (∀ W, _) := fun W => place_c p s u W
  have HU : Hid (∀ W, _) := fun W => isUni_c p s u W hp
  have HA : Hid (∀ W, Tb srv x y k st W → _) := fun W (hW : Tb srv x y k st W) => allowed_c hW u
  rw [hh] at HR
  rw [hm] at HM
  rw [decide_eq_false ho] at HO
  clear hf h
  generalize sid p s u = id at *
  go_enter Tryz.func122, Tryz.ntmps122
  go_upto_region 1 with fail
  obtain ⟨B, hB⟩ : ∃ B, w.heap.size = B := ⟨_, rfl⟩
  obtain ⟨X, hX⟩ : ∃ X, w.alloc (.cells (fr6 k_ id o d fin).toArray 66) = X := ⟨_, rfl⟩
  rw [hB, hX] at HX0
  rw [hB, hX]
  clear hB hX
  have c0 := HX0.out.c0
  have c1 := HX0.out.c1
  go_wp2_with fail
  refine Calls.mono (HR.out _ HX0.out.tb) ?_
  rintro e w' ⟨rfl, hw⟩
  subst w'
  rcases hk with rfl | rfl | rfl
  all_goals
    go_wp2_with fail
    refine Calls.mono (HM.out _ HX0.out.tb) ?_
    rintro e w' ⟨rfl, hw⟩
    subst w'
    go_wp2_with fail
    refine Calls.mono (HO.out _ HX0.out.tb) ?_
    rintro e X1 ⟨rfl, hb1⟩
    have HX1 : Hid _ := HX0.out.go hb1
    have c0' := HX1.out.c0
    clear hb1 c0 c1
    go_wp2_with fail
    refine Calls.mono (closed_c 5 _ 32 _) ?_
    rintro e w' ⟨v, rfl, hcl, hbl⟩
    have HB : Hid _ := bel_trans HX1.out.bel hbl
    have HC : Hid _ := hcl
    clear hcl hbl
    go_wp2
    go_ret
    exact ⟨v, rfl, HC.out, HB.out⟩
set_option maxRecDepth 10000 in
set_option maxHeartbeats 2000000 in
theorem wrong_w_op {srv : Bool} {x y : Lm} {k : Bks} {st : Tst} {w : World} (h : Tb srv x y k st w) (hf : st.fine) (k_ : Int) (p : Nat) (s u : Bool) (o : Int) (d : Value) (fin : Bool) (hp : p < 1152921504606846976) (hk : k_ = 5 ∨ k_ = 17) (hh : ((s == srv) || !u) = true) (hm : (s == srv) = true) (ho : ¬ (p : Int) < st.had srv s u) :
    Calls Tryz.prog 122 #[.pointer (some ⟨k.T, 0, none⟩), .agg (fr6 k_ (sid p s u) o d fin).toArray] w fun e w' => ∃ v, e = .returned v ∧ Cl w' v 5 k_ 32 ∧ Below w.heap.size w w' := by
  have HX0 : Hid _ := Bx.new h k_ (sid p s u) o d fin
  have id0 := sid_0 p s u
  have hz : ¬ sid p s u < 0 := by omega
  have HR : Hid (∀ W, Tb srv x y k st W → _) := fun W (hW : Tb srv x y k st W) => reads_c hW p s u hp
  have HW : Hid (∀ W, Tb srv x y k st W → _) := fun W (hW : Tb srv x y k st W) => writes_c hW p s u hp
  have HM : Hid (∀ W, Tb srv x y k st W → _) := fun W (hW : Tb srv x y k st W) => mine_c hW p s u hp
  have HO : Hid (∀ W, Tb srv x y k st W → _) := fun W (hW : Tb srv x y k st W) => opened_c hW hf p s u hp
  have HP : Hid (∀ W, _) := fun W => place_c p s u W
  have HU : Hid (∀ W, _) := fun W => isUni_c p s u W hp
  have HA : Hid (∀ W, Tb srv x y k st W → _) := fun W (hW : Tb srv x y k st W) => allowed_c hW u
  rw [hh] at HW
  rw [hm] at HM
  rw [decide_eq_false ho] at HO
  clear hf h
  generalize sid p s u = id at *
  go_enter Tryz.func122, Tryz.ntmps122
  go_upto_region 1 with fail
  obtain ⟨B, hB⟩ : ∃ B, w.heap.size = B := ⟨_, rfl⟩
  obtain ⟨X, hX⟩ : ∃ X, w.alloc (.cells (fr6 k_ id o d fin).toArray 66) = X := ⟨_, rfl⟩
  rw [hB, hX] at HX0
  rw [hB, hX]
  clear hB hX
  have c0 := HX0.out.c0
  have c1 := HX0.out.c1
  go_wp2_with fail
  refine Calls.mono (HR.out _ HX0.out.tb) ?_
  rintro e w' ⟨rfl, hw⟩
  subst w'
  rcases hk with rfl | rfl
  all_goals
    go_wp2_with fail
    refine Calls.mono (HW.out _ HX0.out.tb) ?_
    rintro e w' ⟨rfl, hw⟩
    subst w'
    go_wp2_with fail
    refine Calls.mono (HM.out _ HX0.out.tb) ?_
    rintro e w' ⟨rfl, hw⟩
    subst w'
    go_wp2_with fail
    refine Calls.mono (HO.out _ HX0.out.tb) ?_
    rintro e X1 ⟨rfl, hb1⟩
    have HX1 : Hid _ := HX0.out.go hb1
    have c0' := HX1.out.c0
    clear hb1 c0 c1
    go_wp2_with fail
    refine Calls.mono (closed_c 5 _ 32 _) ?_
    rintro e w' ⟨v, rfl, hcl, hbl⟩
    have HB : Hid _ := bel_trans HX1.out.bel hbl
    have HC : Hid _ := hcl
    clear hcl hbl
    go_wp2
    go_ret
    exact ⟨v, rfl, HC.out, HB.out⟩
set_option maxRecDepth 10000 in
set_option maxHeartbeats 2000000 in
theorem wrong_r_lim {srv : Bool} {x y : Lm} {k : Bks} {st : Tst} {w : World} (h : Tb srv x y k st w) (hf : st.fine) (k_ : Int) (p : Nat) (s u : Bool) (o : Int) (d : Value) (fin : Bool) (hp : p < 1152921504606846976) (hk : k_ = 8 ∨ k_ = 4 ∨ k_ = 21) (hh : (!(s == srv) || !u) = true) (hm : (s == srv) = false) (hl : (st.tk u).l ≤ (p : Int)) :
    Calls Tryz.prog 122 #[.pointer (some ⟨k.T, 0, none⟩), .agg (fr6 k_ (sid p s u) o d fin).toArray] w fun e w' => ∃ v, e = .returned v ∧ Cl w' v 4 k_ 31 ∧ Below w.heap.size w w' := by
  have HX0 : Hid _ := Bx.new h k_ (sid p s u) o d fin
  have id0 := sid_0 p s u
  have hz : ¬ sid p s u < 0 := by omega
  have HR : Hid (∀ W, Tb srv x y k st W → _) := fun W (hW : Tb srv x y k st W) => reads_c hW p s u hp
  have HW : Hid (∀ W, Tb srv x y k st W → _) := fun W (hW : Tb srv x y k st W) => writes_c hW p s u hp
  have HM : Hid (∀ W, Tb srv x y k st W → _) := fun W (hW : Tb srv x y k st W) => mine_c hW p s u hp
  have HO : Hid (∀ W, Tb srv x y k st W → _) := fun W (hW : Tb srv x y k st W) => opened_c hW hf p s u hp
  have HP : Hid (∀ W, _) := fun W => place_c p s u W
  have HU : Hid (∀ W, _) := fun W => isUni_c p s u W hp
  have HA : Hid (∀ W, Tb srv x y k st W → _) := fun W (hW : Tb srv x y k st W) => allowed_c hW u
  rw [hh] at HR
  rw [hm] at HM
  clear hf h
  generalize sid p s u = id at *
  go_enter Tryz.func122, Tryz.ntmps122
  go_upto_region 1 with fail
  obtain ⟨B, hB⟩ : ∃ B, w.heap.size = B := ⟨_, rfl⟩
  obtain ⟨X, hX⟩ : ∃ X, w.alloc (.cells (fr6 k_ id o d fin).toArray 66) = X := ⟨_, rfl⟩
  rw [hB, hX] at HX0
  rw [hB, hX]
  clear hB hX
  have c0 := HX0.out.c0
  have c1 := HX0.out.c1
  go_wp2_with fail
  refine Calls.mono (HR.out _ HX0.out.tb) ?_
  rintro e w' ⟨rfl, hw⟩
  subst w'
  rcases hk with rfl | rfl | rfl
  all_goals
    go_wp2_with fail
    refine Calls.mono (HM.out _ HX0.out.tb) ?_
    rintro e w' ⟨rfl, hw⟩
    subst w'
    go_upto_region 7 with fail
    have HXD : Hid _ := HX0.out.go (bel_drew X)
    clear c0 c1
    refine wp_region_held_drew (S := fun X => Bx srv x y k st _ id o d fin w B X) (by kernel_rfl) HXD.out (fun hHeld => ?_)
    generalize X.drew = Y at *
    refine wpAnyH_take (i := 0) (v := .bool false) rfl (by kernel_rfl) (by kernel_rfl) (by kernel_rfl) (fun _ _ _ h => h) (Or.inl ⟨by rfl, by intro w hs; go_simp⟩) hHeld ?_
    refine norm_any' (fun K hK => ?_); go_simp; refine hK _ _ ?_; clear hK K
    refine wpAnyH_take (i := 1) (v := .bool true) rfl (by kernel_rfl) (by kernel_rfl) (by kernel_rfl) (fun _ _ _ h => h) (Or.inl ⟨by rfl, by intro w hs; go_simp⟩) hHeld ?_
    refine norm_any' (fun K hK => ?_); go_simp; refine hK _ _ ?_; clear hK K
    refine wpAnyH_take (i := 2) (v := .bool true) rfl (by kernel_rfl) (by kernel_rfl) (by kernel_rfl) (fun _ _ _ h => h) (Or.inl ⟨by rfl, by intro w hs; go_simp⟩) hHeld ?_
    refine norm_any' (fun K hK => ?_); go_simp; refine hK _ _ ?_; clear hK K
    refine wpAnyH_take (i := 3) (v := .pointer (some ⟨B, 1, none⟩)) rfl (by kernel_rfl) (by kernel_rfl) (by kernel_rfl) (fun _ _ _ h => h) (Or.inl ⟨by rfl, by intro w hs; go_simp⟩) hHeld ?_
    refine norm_any' (fun K hK => ?_); go_simp; refine hK _ _ ?_; clear hK K
    refine wpAnyH_take (i := 4) (v := .int .i64 id) rfl (by kernel_rfl) (by kernel_rfl) (by kernel_rfl) (fun _ _ _ h => h) (Or.inl ⟨by rfl, by intro w_ hs; have := hs.c1; go_simp⟩) hHeld ?_
    refine norm_any' (fun K hK => ?_); go_simp; refine hK _ _ ?_; clear hK K
    refine wpAnyH_take (i := 6) (v := .pointer (some ⟨k.T, 0, none⟩)) rfl (by kernel_rfl) (by kernel_rfl) (by kernel_rfl) (fun _ _ _ h => h) (Or.inl ⟨by rfl, by intro w hs; go_simp⟩) hHeld ?_
    refine norm_any' (fun K hK => ?_); go_simp; refine hK _ _ ?_; clear hK K
    refine wpAnyH_take (i := 7) (v := .pointer (some ⟨B, 1, none⟩)) rfl (by kernel_rfl) (by kernel_rfl) (by kernel_rfl) (fun _ _ _ h => h) (Or.inl ⟨by rfl, by intro w hs; go_simp⟩) hHeld ?_
    refine norm_any' (fun K hK => ?_); go_simp; refine hK _ _ ?_; clear hK K
    refine wpAnyH_take (i := 8) (v := .int .i64 id) rfl (by kernel_rfl) (by kernel_rfl) (by kernel_rfl) (fun _ _ _ h => h) (Or.inl ⟨by rfl, by intro w_ hs; have := hs.c1; go_simp⟩) hHeld ?_
    refine norm_any' (fun K hK => ?_); go_simp; refine hK _ _ ?_; clear hK K
    refine wpAnyH_ready (rs := [5]) (by kernel_rfl) (by simp) (AllReadyH.cons rfl (fun K hK => ?_) AllReadyH.nil)
    go_simp
    refine Calls.mono (HP.out _) ?_
    rintro e Y' ⟨rfl, hw⟩
    subst Y'
    refine hK.out _ _ HXD.out (fun hHeld => ?_)
    clear hK K
    refine norm_any' (fun K hK => ?_); go_simp; refine hK _ _ ?_; clear hK K
    refine wpAnyH_ready (rs := [9]) (by kernel_rfl) (by simp) (AllReadyH.cons rfl (fun K hK => ?_) AllReadyH.nil)
    go_simp
    refine Calls.mono (HU.out _) ?_
    rintro e Y' ⟨rfl, hw⟩
    subst Y'
    refine hK.out _ _ HXD.out (fun hHeld => ?_)
    clear hK K
    refine norm_any' (fun K hK => ?_); go_simp; refine hK _ _ ?_; clear hK K
    refine wpAnyH_ready (rs := [10]) (by kernel_rfl) (by simp) (AllReadyH.cons rfl (fun K hK => ?_) AllReadyH.nil)
    go_simp
    refine Calls.mono (kind_c k.T u _) ?_
    rintro e Y' ⟨rfl, hw⟩
    subst Y'
    refine hK.out _ _ HXD.out (fun hHeld => ?_)
    clear hK K
    refine norm_any' (fun K hK => ?_); go_simp; refine hK _ _ ?_; clear hK K
    refine wpAnyH_ready (rs := [11]) (by kernel_rfl) (by simp) (AllReadyH.cons rfl (fun K hK => ?_) AllReadyH.nil)
    go_simp
    refine Calls.mono (HA.out _ HXD.out.tb) ?_
    rintro e Y1 ⟨rfl, hb1⟩
    have HX1 : Hid _ := HXD.out.go hb1
    clear hb1
    refine hK.out _ _ HX1.out (fun hHeld => ?_)
    clear hK K
    refine norm_any' (fun K hK => ?_); go_simp; refine hK _ _ ?_; clear hK K
    refine wpAnyH_take (i := 12) (v := .bool true) rfl (by kernel_rfl) (by kernel_rfl) (by kernel_rfl) (fun _ _ _ h => h) (Or.inl ⟨by rfl, by intro w_ hs; go_simp⟩) hHeld ?_
    refine norm_any' (fun K hK => ?_); go_simp; refine hK _ _ ?_; clear hK K
    refine wpAnyH_take (i := 13) (v := .bool true) rfl (by kernel_rfl) (by kernel_rfl) (by kernel_rfl) (fun _ _ _ h => h) (Or.inl ⟨by rfl, by intro w hs; go_simp⟩) hHeld ?_
    refine norm_any' (fun K hK => ?_); go_simp; refine hK _ _ ?_; clear hK K
    refine wpAnyH_take (i := 14) (v := .bool true) rfl (by kernel_rfl) (by kernel_rfl) (by kernel_rfl) (fun _ _ _ h => h) (Or.inl ⟨by rfl, by intro w hs; go_simp⟩) hHeld ?_
    refine norm_any' (fun K hK => ?_); go_simp; refine hK _ _ ?_; clear hK K
    refine wpAnyH_done (by kernel_rfl) ?_ _
    have c0' := HX1.out.c0
    go_wp2_with fail
    refine Calls.mono (closed_c 4 _ 31 _) ?_
    rintro e w' ⟨v, rfl, hcl, hbl⟩
    have HB : Hid _ := bel_trans HX1.out.bel hbl
    have HC : Hid _ := hcl
    clear hcl hbl
    go_wp2
    go_ret
    exact ⟨v, rfl, HC.out, HB.out⟩
set_option maxRecDepth 10000 in
set_option maxHeartbeats 2000000 in
theorem wrong_r_nil {srv : Bool} {x y : Lm} {k : Bks} {st : Tst} {w : World} (h : Tb srv x y k st w) (hf : st.fine) (k_ : Int) (p : Nat) (s u : Bool) (o : Int) (d : Value) (fin : Bool) (hp : p < 1152921504606846976) (hk : k_ = 8 ∨ k_ = 4 ∨ k_ = 21) (hh : (!(s == srv) || !u) = true) (hm : (s == srv) = false) (hl : (p : Int) < (st.tk u).l) :
    Calls Tryz.prog 122 #[.pointer (some ⟨k.T, 0, none⟩), .agg (fr6 k_ (sid p s u) o d fin).toArray] w fun e w' => e = .returned .nilIface ∧ Below w.heap.size w w' := by
  have HX0 : Hid _ := Bx.new h k_ (sid p s u) o d fin
  have id0 := sid_0 p s u
  have hz : ¬ sid p s u < 0 := by omega
  have HR : Hid (∀ W, Tb srv x y k st W → _) := fun W (hW : Tb srv x y k st W) => reads_c hW p s u hp
  have HW : Hid (∀ W, Tb srv x y k st W → _) := fun W (hW : Tb srv x y k st W) => writes_c hW p s u hp
  have HM : Hid (∀ W, Tb srv x y k st W → _) := fun W (hW : Tb srv x y k st W) => mine_c hW p s u hp
  have HO : Hid (∀ W, Tb srv x y k st W → _) := fun W (hW : Tb srv x y k st W) => opened_c hW hf p s u hp
  have HP : Hid (∀ W, _) := fun W => place_c p s u W
  have HU : Hid (∀ W, _) := fun W => isUni_c p s u W hp
  have HA : Hid (∀ W, Tb srv x y k st W → _) := fun W (hW : Tb srv x y k st W) => allowed_c hW u
  rw [hh] at HR
  rw [hm] at HM
  clear hf h
  generalize sid p s u = id at *
  go_enter Tryz.func122, Tryz.ntmps122
  go_upto_region 1 with fail
  obtain ⟨B, hB⟩ : ∃ B, w.heap.size = B := ⟨_, rfl⟩
  obtain ⟨X, hX⟩ : ∃ X, w.alloc (.cells (fr6 k_ id o d fin).toArray 66) = X := ⟨_, rfl⟩
  rw [hB, hX] at HX0
  rw [hB, hX]
  clear hB hX
  have c0 := HX0.out.c0
  have c1 := HX0.out.c1
  go_wp2_with fail
  refine Calls.mono (HR.out _ HX0.out.tb) ?_
  rintro e w' ⟨rfl, hw⟩
  subst w'
  rcases hk with rfl | rfl | rfl
  all_goals
    go_wp2_with fail
    refine Calls.mono (HM.out _ HX0.out.tb) ?_
    rintro e w' ⟨rfl, hw⟩
    subst w'
    go_upto_region 7 with fail
    have HXD : Hid _ := HX0.out.go (bel_drew X)
    clear c0 c1
    refine wp_region_held_drew (S := fun X => Bx srv x y k st _ id o d fin w B X) (by kernel_rfl) HXD.out (fun hHeld => ?_)
    generalize X.drew = Y at *
    refine wpAnyH_take (i := 0) (v := .bool false) rfl (by kernel_rfl) (by kernel_rfl) (by kernel_rfl) (fun _ _ _ h => h) (Or.inl ⟨by rfl, by intro w hs; go_simp⟩) hHeld ?_
    refine norm_any' (fun K hK => ?_); go_simp; refine hK _ _ ?_; clear hK K
    refine wpAnyH_take (i := 1) (v := .bool true) rfl (by kernel_rfl) (by kernel_rfl) (by kernel_rfl) (fun _ _ _ h => h) (Or.inl ⟨by rfl, by intro w hs; go_simp⟩) hHeld ?_
    refine norm_any' (fun K hK => ?_); go_simp; refine hK _ _ ?_; clear hK K
    refine wpAnyH_take (i := 2) (v := .bool true) rfl (by kernel_rfl) (by kernel_rfl) (by kernel_rfl) (fun _ _ _ h => h) (Or.inl ⟨by rfl, by intro w hs; go_simp⟩) hHeld ?_
    refine norm_any' (fun K hK => ?_); go_simp; refine hK _ _ ?_; clear hK K
    refine wpAnyH_take (i := 3) (v := .pointer (some ⟨B, 1, none⟩)) rfl (by kernel_rfl) (by kernel_rfl) (by kernel_rfl) (fun _ _ _ h => h) (Or.inl ⟨by rfl, by intro w hs; go_simp⟩) hHeld ?_
    refine norm_any' (fun K hK => ?_); go_simp; refine hK _ _ ?_; clear hK K
    refine wpAnyH_take (i := 4) (v := .int .i64 id) rfl (by kernel_rfl) (by kernel_rfl) (by kernel_rfl) (fun _ _ _ h => h) (Or.inl ⟨by rfl, by intro w_ hs; have := hs.c1; go_simp⟩) hHeld ?_
    refine norm_any' (fun K hK => ?_); go_simp; refine hK _ _ ?_; clear hK K
    refine wpAnyH_take (i := 6) (v := .pointer (some ⟨k.T, 0, none⟩)) rfl (by kernel_rfl) (by kernel_rfl) (by kernel_rfl) (fun _ _ _ h => h) (Or.inl ⟨by rfl, by intro w hs; go_simp⟩) hHeld ?_
    refine norm_any' (fun K hK => ?_); go_simp; refine hK _ _ ?_; clear hK K
    refine wpAnyH_take (i := 7) (v := .pointer (some ⟨B, 1, none⟩)) rfl (by kernel_rfl) (by kernel_rfl) (by kernel_rfl) (fun _ _ _ h => h) (Or.inl ⟨by rfl, by intro w hs; go_simp⟩) hHeld ?_
    refine norm_any' (fun K hK => ?_); go_simp; refine hK _ _ ?_; clear hK K
    refine wpAnyH_take (i := 8) (v := .int .i64 id) rfl (by kernel_rfl) (by kernel_rfl) (by kernel_rfl) (fun _ _ _ h => h) (Or.inl ⟨by rfl, by intro w_ hs; have := hs.c1; go_simp⟩) hHeld ?_
    refine norm_any' (fun K hK => ?_); go_simp; refine hK _ _ ?_; clear hK K
    refine wpAnyH_ready (rs := [5]) (by kernel_rfl) (by simp) (AllReadyH.cons rfl (fun K hK => ?_) AllReadyH.nil)
    go_simp
    refine Calls.mono (HP.out _) ?_
    rintro e Y' ⟨rfl, hw⟩
    subst Y'
    refine hK.out _ _ HXD.out (fun hHeld => ?_)
    clear hK K
    refine norm_any' (fun K hK => ?_); go_simp; refine hK _ _ ?_; clear hK K
    refine wpAnyH_ready (rs := [9]) (by kernel_rfl) (by simp) (AllReadyH.cons rfl (fun K hK => ?_) AllReadyH.nil)
    go_simp
    refine Calls.mono (HU.out _) ?_
    rintro e Y' ⟨rfl, hw⟩
    subst Y'
    refine hK.out _ _ HXD.out (fun hHeld => ?_)
    clear hK K
    refine norm_any' (fun K hK => ?_); go_simp; refine hK _ _ ?_; clear hK K
    refine wpAnyH_ready (rs := [10]) (by kernel_rfl) (by simp) (AllReadyH.cons rfl (fun K hK => ?_) AllReadyH.nil)
    go_simp
    refine Calls.mono (kind_c k.T u _) ?_
    rintro e Y' ⟨rfl, hw⟩
    subst Y'
    refine hK.out _ _ HXD.out (fun hHeld => ?_)
    clear hK K
    refine norm_any' (fun K hK => ?_); go_simp; refine hK _ _ ?_; clear hK K
    refine wpAnyH_ready (rs := [11]) (by kernel_rfl) (by simp) (AllReadyH.cons rfl (fun K hK => ?_) AllReadyH.nil)
    go_simp
    refine Calls.mono (HA.out _ HXD.out.tb) ?_
    rintro e Y1 ⟨rfl, hb1⟩
    have HX1 : Hid _ := HXD.out.go hb1
    clear hb1
    refine hK.out _ _ HX1.out (fun hHeld => ?_)
    clear hK K
    refine norm_any' (fun K hK => ?_); go_simp; refine hK _ _ ?_; clear hK K
    refine wpAnyH_take (i := 12) (v := .bool false) rfl (by kernel_rfl) (by kernel_rfl) (by kernel_rfl) (fun _ _ _ h => h) (Or.inl ⟨by rfl, by intro w_ hs; go_simp⟩) hHeld ?_
    refine norm_any' (fun K hK => ?_); go_simp; refine hK _ _ ?_; clear hK K
    refine wpAnyH_take (i := 13) (v := .bool false) rfl (by kernel_rfl) (by kernel_rfl) (by kernel_rfl) (fun _ _ _ h => h) (Or.inl ⟨by rfl, by intro w hs; go_simp⟩) hHeld ?_
    refine norm_any' (fun K hK => ?_); go_simp; refine hK _ _ ?_; clear hK K
    refine wpAnyH_take (i := 14) (v := .bool false) rfl (by kernel_rfl) (by kernel_rfl) (by kernel_rfl) (fun _ _ _ h => h) (Or.inl ⟨by rfl, by intro w hs; go_simp⟩) hHeld ?_
    refine norm_any' (fun K hK => ?_); go_simp; refine hK _ _ ?_; clear hK K
    refine wpAnyH_done (by kernel_rfl) ?_ _
    go_wp2
    go_ret
    exact ⟨rfl, HX1.out.bel⟩
end Go.Proofs.YtijndpjdmiljkaaGreatDoor
