/- StreamsRefuse: the walk. -/
import Derived.Test.YtijndpjdmiljkaaGreatDoorRc
import Derived.Test.YtijndpjdmiljkaaGreatDoorNx
import Derived.Lib.SlBytesConst
namespace Go.Proofs.YtijndpjdmiljkaaGreatDoor
open Go.RowKit Go.Maps
set_option linter.unusedVariables false

def hz8 (l : List UInt8) : List Value := l.map fun b => .int .u8 (b.toNat : Int)
theorem made_b (N : Nat) : madeCells (Value.int .u8 0).cells (N * 1) = (hz8 (List.replicate N 0)).toArray := by
  apply Array.ext
  · simp [madeCells, hz8]
  · intro i h1 h2
    simp [madeCells, hz8, Value.cells, Nat.mod_one]
theorem inf5 : ∃ i, Tryz.prog.info? 5 = some i ∧ i.zero = some (.int .u8 0) ∧ i.size = 1 ∧ i.bytes = 1 := by
  have : (Tryz.prog.info? 5).map (fun i => (i.zero, i.size, i.bytes)) = some (some (.int .u8 0), 1, 1) := by kernel_rfl
  cases h : Tryz.prog.info? 5 with
  | none => rw [h] at this; cases this
  | some i =>
    rw [h] at this
    simp only [Option.map_some, Option.some.injEq, Prod.mk.injEq] at this
    exact ⟨i, rfl, this.1, this.2.1, this.2.2⟩
theorem mk_b (N : Nat) (hN : N ≤ 65536) (W : World) : (Instr.makeSlice 38 (.int .i64 (N : Int)) (.int .i64 (N : Int))).run Tryz.prog W = .ok (.slice (some ⟨W.heap.size, 0, none⟩) N N) (W.alloc (.cells (hz8 (List.replicate N 0)).toArray 5)) := by
  obtain ⟨i, hi, hz, hs, hb⟩ := inf5
  have := run_make (P := Tryz.prog) W 38 5 i (.int .u8 0) Tryz.underlying38 hi hz .i64 .i64 (N : Int) (N : Int) (by omega) (by omega) (by rw [hb]; omega) (by omega)
  rw [this, hs, Int.toNat_natCast, made_b]
theorem sl_new (W : World) (l : List UInt8) : Sl (W.alloc (.cells (hz8 l).toArray 5)) (some ⟨W.heap.size, 0, none⟩) l := by
  intro j hj
  refine ⟨_, _, rfl, ?_⟩
  have := heap_alloc_new W (.cells (hz8 l).toArray 5)
  simp only [World.cell?, this, Nat.zero_add]
  simp [hz8, List.getElem?_eq_getElem hj]
/-- What stays while the law goes on. -/
structure Lw (c s z : Lm) (w : World) (L : Nat) (X : World) : Prop where
  bx : X.heap[w.heap.size]? = some (.cells (c.v ++ s.v).toArray 25 (0, 0))
  lm : X.heap[L]? = some (.cells z.v.toArray 23 (0, 0))
  bel : Below w.heap.size w X
section
variable {c s z : Lm} {w X Z : World} {L : Nat}
theorem Lw.go (h : Lw c s z w L X) (hb : Below X.heap.size X Z) : Lw c s z w L Z := ⟨heap_bel h.bx hb, heap_bel h.lm hb, bel_trans h.bel hb⟩
theorem Lw.chg (h : Lw c s z w L X) {k : Bks} (hc : Chg (fun j => j ∈ k.l ∨ k.T ≤ j) X Z) {n0 : Nat} (hL : L < n0) (hn : w.heap.size < n0) (hlo : ∀ b ∈ k.l, n0 ≤ b) : Lw c s z w L Z := by
  have hk : n0 ≤ k.T := hlo k.T (by simp [Bks.l])
  have hne : ∀ j, j < n0 → ¬ (j ∈ k.l ∨ k.T ≤ j) := by
    rintro j hj (e | e)
    · have := hlo j e; omega
    · omega
  have l1 := (Array.getElem?_eq_some_iff.1 h.lm).1
  have l2 := (Array.getElem?_eq_some_iff.1 h.bx).1
  refine ⟨(hc.2.2.2.2 _ l2 (hne _ hn)).trans h.bx, (hc.2.2.2.2 _ l1 (hne _ hL)).trans h.lm, ⟨hc.1.trans h.bel.os, hc.2.1.trans h.bel.tape, hc.2.2.1.trans h.bel.output, Nat.le_trans h.bel.size hc.2.2.2.1, fun j hj => ?_⟩⟩
  exact (hc.2.2.2.2 j (Nat.lt_of_lt_of_le hj h.bel.size) (hne j (by omega))).trans (h.bel.block j hj)
theorem Lw.b0 (h : Lw c s z w L X) : X.rangeAt w.heap.size 0 c.v := by
  intro j v hv
  have h' := h.bx
  unfold World.cell?
  simp only [h']
  rcases j with _ | _ | _ | _ | _ | _ | j <;> simp [Lm.v] at hv <;> subst hv <;> simp [Lm.v]
theorem Lw.eh (h : Lw c s z w L X) (hE : w.cell? ⟨0, 0, none⟩ = some (rtp 70)) : X.cell? ⟨0, 0, none⟩ = some (rtp 70) := cell_bel hE h.bel
theorem Lw.ti (h : Lw c s z w L X) (hT : TbI w) : TbI X := fun i hi => cell_bel (hT i hi) h.bel
theorem Lw.lims (h : Lw c s z w L X) : X.cell? ⟨L, 0, none⟩ = some (.int .i64 z.d) ∧ X.cell? ⟨L, 2, none⟩ = some (.int .i64 z.r) ∧ X.cell? ⟨L, 4, none⟩ = some (.int .i64 z.b) := by
  obtain ⟨a0, a1, a2, a3, a4, a5⟩ := lim_cells h.lm
  exact ⟨a0, a2, a4⟩
theorem Lw.new_ {X1 : World} {ol : Array Value} (hbx : X1.heap[w.heap.size]? = some (.cells (c.v ++ s.v).toArray 25 (0, 0))) (hb : Below w.heap.size w X1) : Lw c s z w X1.heap.size ((X1.alloc (.cells ol 23)).setRow X1.heap.size z.v.toArray) := by
  have hh := heap_alloc_new X1 (.cells ol 23)
  have l2 := (Array.getElem?_eq_some_iff.1 hbx).1
  refine ⟨?_, setRow_heap _ _ _ _ 23 (0, 0) hh, bel_set (bel_trans hb (bel1 X1 _)) hb.size _⟩
  rw [setRow_other _ _ _ _ (by omega)]
  exact heap_bel hbx (bel1 X1 _)
end
theorem tnew_p (srv : Bool) (x y : Lm) (w : World) (hx : x.tiny) (hy : y.tiny) : Calls Tryz.prog 15 #[.bool srv, .agg x.v.toArray, .agg y.v.toArray] w fun e w' => ∃ k : Bks, e = .returned (.tuple #[.pointer (some ⟨k.T, 0, none⟩), .int .i64 0]) ∧ Tb srv x y k (Tst.begin x y) w' ∧ w'.heap[k.sb]? = some (.map #[] 0) ∧ w'.heap[k.nb]? = some (.map #[] 0) ∧ (∀ b ∈ k.l, w.heap.size ≤ b) ∧ Below w.heap.size w w' :=
  (tnew_c srv x y w hx.own hy.peer).mono fun _ _ ⟨k, h1, h2, h3, _, h5, h6, h7⟩ => ⟨k, h1, h2, h3, h5, h6, h7⟩
/-- The law's tables between its calls: the row of kinds that it goes through. -/
structure Rq (c s z : Lm) (w : World) (L : Nat) (y : Lm) (k : Bks) (st : Tst) (B : Nat) (vs : Array Value) (X : World) : Prop where
  lw : Lw c s z w L X
  tb : Tb true z y k st X
  sl : X.heap[B]? = some (.cells vs 3 (0, 0))
theorem Rq.go {c s z : Lm} {w : World} {L : Nat} {y : Lm} {k : Bks} {st : Tst} {B : Nat} {vs : Array Value} {X Z : World} (h : Rq c s z w L y k st B vs X) (hb : Below X.heap.size X Z) : Rq c s z w L y k st B vs Z := ⟨h.lw.go hb, h.tb.go hb, heap_bel h.sl hb⟩
theorem Rq.at {c s z : Lm} {w : World} {L : Nat} {y : Lm} {k : Bks} {st : Tst} {B : Nat} {vs : Array Value} {X : World} (h : Rq c s z w L y k st B vs X) (i : Nat) : X.cell? ⟨B, i, none⟩ = vs[i]? := by simp [World.cell?, h.sl]
/-- The law's second table, its stream ended. -/
structure Rs (c s z : Lm) (w : World) (L : Nat) (y : Lm) (k : Bks) (st : Tst) (S : Nat) (cs : Array Value) (F : Int → Value) (n ib mb nn : Nat) (V : Nat → Option UInt8) (E hd : Int) (win : Nat) (X : World) : Prop where
  lw : Lw c s z w L X
  af : Af z y k st 2 S cs F n ib mb nn V E hd win 1 true X
theorem Rs.go {c s z : Lm} {w : World} {L : Nat} {y : Lm} {k : Bks} {st : Tst} {S : Nat} {cs : Array Value} {F : Int → Value} {n ib mb nn : Nat} {V : Nat → Option UInt8} {E hd : Int} {win : Nat} {X Z : World} (h : Rs c s z w L y k st S cs F n ib mb nn V E hd win X) (hb : Below X.heap.size X Z) : Rs c s z w L y k st S cs F n ib mb nn V E hd win Z := ⟨h.lw.go hb, h.af.go hb⟩
section
variable {srv : Bool} {x y : Lm} {k : Bks} {st : Tst} {w : World}
theorem take_p1 (h : Tb srv x y k st w) : Calls Tryz.prog 21 #[.pointer (some ⟨k.T, 0, none⟩), .agg (fr6 1 0 0 (.slice none 0 0) false).toArray] w fun e w' => e = .returned (.iface 53 (.int .i64 12)) ∧ Below w.heap.size w w' := by
  have := take_ping h 1 0 0 (.slice none 0 0) false (Or.inl rfl)
  rwa [if_pos rfl] at this
theorem take_p20 (h : Tb srv x y k st w) : Calls Tryz.prog 21 #[.pointer (some ⟨k.T, 0, none⟩), .agg (fr6 20 0 0 (.slice none 0 0) false).toArray] w fun e w' => e = .returned .nilIface ∧ Below w.heap.size w w' := by
  have := take_ping h 20 0 0 (.slice none 0 0) false (Or.inr rfl)
  rwa [if_neg (by decide)] at this
theorem cv_one (b : Int) (w : World) : (convert 38 38 (.slice (some ⟨w.heap.size, 0, none⟩) 1 1)).run Tryz.prog (w.alloc (.cells #[.int .u8 b] 5)) = .ok (.slice (some ⟨w.heap.size, 0, none⟩) 1 1) (w.alloc (.cells #[.int .u8 b] 5 (1, 2))) :=
  Lib.run_convert_bytes_const (P := Tryz.prog) w 38 5 #[.int .u8 b] 1 1 Tryz.underlying38 Tryz.underlying5
theorem eq_nil2 (w : World) : (binOp .eql 70 .nilIface .nilIface).run Tryz.prog w = .ok (.bool true) w := by kernel_rfl
theorem sl_97 (W : World) : Sl (W.alloc (.cells #[.int .u8 97] 5 (1, 2))) (some ⟨W.heap.size, 0, none⟩) [97] := by
  intro j hj
  have hj0 : j = 0 := by simp at hj; exact hj
  subst hj0
  refine ⟨_, _, rfl, ?_⟩
  have := heap_alloc_new W (.cells #[.int .u8 97] 5 (1, 2))
  simp only [World.cell?, this, Nat.zero_add]
  rfl
theorem shut_begin {x y : Lm} (hy : y.tiny) : (Tst.begin x y).shut := begin_fine hy.peer
end
theorem box_s (c s : Lm) (w : World) : ∃ X, w.alloc (.cells (c.v ++ s.v).toArray 25) = X ∧ X.heap[w.heap.size]? = some (.cells (c.v ++ s.v).toArray 25 (0, 0)) ∧ X.rangeAt w.heap.size 6 s.v ∧ X.heap.size = w.heap.size + 1 ∧ Below w.heap.size w X := by
  have h := heap_alloc_new w (.cells (c.v ++ s.v).toArray 25)
  refine ⟨_, rfl, h, ?_, by simp, bel1 _ _⟩
  intro j v hv
  unfold World.cell?
  simp only [h]
  rcases j with _ | _ | _ | _ | _ | _ | j <;> simp [Lm.v] at hv <;> subst hv <;> simp [Lm.v]
set_option maxRecDepth 100000 in
set_option maxHeartbeats 40000000 in
theorem refuse_law (c s : Lm) (id size : Int) (w : World) (hE : w.cell? ⟨0, 0, none⟩ = some (rtp 70)) (hT : TbI w) :
    Calls Tryz.prog 6 #[.agg (c.v ++ s.v).toArray, .int .i64 id, .int .i64 size] w fun e w' => e = .returned (.bool true) ∧ Below w.heap.size w w' := by
  obtain ⟨X0, hX0, hx0, hr0, hn0, hb0⟩ := box_s c s w
  obtain ⟨pI, hpI⟩ : ∃ a, bits .and .i64 (id / 4) 255 = a := ⟨_, rfl⟩
  have hp0 : 0 ≤ bits .and .i64 (id / 4) 255 ∧ bits .and .i64 (id / 4) 255 ≤ 255 := mask_i64 (id / 4) 255 (by decide)
  obtain ⟨nI, hnI⟩ : ∃ a, bits .and .i64 size 511 = a := ⟨_, rfl⟩
  have hn1 : 0 ≤ bits .and .i64 size 511 ∧ bits .and .i64 size 511 ≤ 511 := mask_i64 size 511 (by decide)
  rw [hpI] at hp0
  rw [hnI] at hn1
  obtain ⟨p, rfl⟩ : ∃ p : Nat, pI = (p : Int) := ⟨pI.toNat, by omega⟩
  obtain ⟨n, rfl⟩ : ∃ n : Nat, nI = (n : Int) := ⟨nI.toNat, by omega⟩
  have HP : Hid (p ≤ 255 ∧ n ≤ 511) := ⟨by omega, by omega⟩
  have hmk := mk_b n (by omega)
  have HMK : Hid _ := hmk
  have HE : Hid _ := hE
  have HT : Hid _ := hT
  have HX0 : Hid (X0.heap[w.heap.size]? = some (.cells (c.v ++ s.v).toArray 25 (0, 0)) ∧ X0.rangeAt w.heap.size 6 s.v ∧ X0.heap.size = w.heap.size + 1 ∧ Below w.heap.size w X0) := ⟨hx0, hr0, hn0, hb0⟩
  have HPI : Hid _ := hpI
  have HNI : Hid _ := hnI
  clear hx0 hr0 hn0 hb0 hp0 hn1 hE hT hmk hpI hnI
  go_enter Tryz.func6, Tryz.ntmps6
  go_upto_region 1 with fail
  clear hX0
  go_wp2_with (refine wpList_load_mid rfl 23 (.tmp 18) rfl w.heap.size 6 rfl s.v _ HX0.out.2.1 u23 rfl i23 ?_)
  refine Calls.mono (small_c s X0) ?_
  rintro e X1 ⟨z, rfl, hz, hb1⟩
  have HZ : Hid z.tiny := hz
  have HL : Hid _ := heap_alloc_new X1 (.cells (Lm.v ⟨0, 0, 0, 0, 0, 0⟩).toArray 23)
  have HX1 : Hid _ := Lw.new_ (z := z) (ol := (Lm.v ⟨0, 0, 0, 0, 0, 0⟩).toArray) (heap_bel HX0.out.1 hb1) (bel_trans HX0.out.2.2.2 hb1)
  clear hz hb1 HX0
  go_upto_region 2 with (refine wpList_store_row rfl 23 (.tmp 7) (.tmp 20) rfl X1.heap.size z.v.toArray rfl rfl 23 _ HL.out i23 rfl (by kernel_rfl) ?_)
  have HX2 : Hid (Lw c s z w X1.heap.size ((X1.alloc (.cells #[.int .i64 0, .int .i64 0, .int .i64 0, .int .i64 0, .int .i64 0, .int .i64 0] 23)).setRow X1.heap.size z.v.toArray)) := HX1.out
  generalize ((X1.alloc (.cells #[.int .i64 0, .int .i64 0, .int .i64 0, .int .i64 0, .int .i64 0, .int .i64 0] 23)).setRow X1.heap.size z.v.toArray) = X2 at *
  generalize X1.heap.size = LB at *
  clear HX1 HL
  
  have HD1 : Hid _ := HX2.out.go (bel_drew X2)
  refine wp_region_held_drew (S := fun X => Lw c s z w LB X) (by kernel_rfl) HD1.out (fun hHeld => ?_)
  generalize X2.drew = Y1 at *
  clear HX2
  refine wpAnyH_take (i := 0) (v := .agg z.v.toArray) rfl (by kernel_rfl) (by kernel_rfl) (by kernel_rfl) (fun _ _ _ h => h) (yieldsIf_load_mid rfl 23 (.tmp 7) rfl (LB) 0 rfl z.v _ (fun X hX => rng23 (Lw.lm hX)) u23 rfl i23) hHeld ?_
  refine norm_any' (fun K hK => ?_); go_simp; refine hK _ _ ?_; clear hK K
  refine wpAnyH_take (i := 1) (v := .pointer (some ⟨w.heap.size, 0, none⟩)) rfl (by kernel_rfl) (by kernel_rfl) (by kernel_rfl) (fun _ _ _ h => h) (Or.inl ⟨by rfl, by intro w hs; go_simp⟩) hHeld ?_
  refine norm_any' (fun K hK => ?_); go_simp; refine hK _ _ ?_; clear hK K
  refine wpAnyH_take (i := 2) (v := .agg c.v.toArray) rfl (by kernel_rfl) (by kernel_rfl) (by kernel_rfl) (fun _ _ _ h => h) (yieldsIf_load_mid rfl 23 (.tmp 23) rfl (w.heap.size) 0 rfl c.v _ (fun X hX => Lw.b0 hX) u23 rfl i23) hHeld ?_
  refine norm_any' (fun K hK => ?_); go_simp; refine hK _ _ ?_; clear hK K
  refine wpAnyH_ready (rs := [3]) (by kernel_rfl) (by simp) (AllReadyH.cons rfl (fun K hK => ?_) AllReadyH.nil)
  go_simp
  refine Calls.mono (small_c c _) ?_
  rintro e Y1a ⟨y1, rfl, hy1, hb1⟩
  have HY1 : Hid _ := hy1
  have HA1 : Hid _ := HD1.out.go hb1
  clear hb1 hy1 HD1
  refine hK.out _ _ HA1.out (fun hHeld => ?_)
  clear hK K
  refine norm_any' (fun K hK => ?_); go_simp; refine hK _ _ ?_; clear hK K
  refine wpAnyH_ready (rs := [4]) (by kernel_rfl) (by simp) (AllReadyH.cons rfl (fun K hK => ?_) AllReadyH.nil)
  go_simp
  refine Calls.mono (tnew_p true z y1 _ HZ.out HY1.out) ?_
  rintro e Y1b ⟨k1, rfl, htb, hsb, hnb, hlo, hb⟩
  have HX1 : Hid _ := HA1.out.go hb
  have HTB1 : Hid (Tb true z y1 k1 (Tst.begin z y1) Y1b ∧ Y1b.heap[k1.sb]? = some (.map #[] 0) ∧ Y1b.heap[k1.nb]? = some (.map #[] 0)) := ⟨htb, hsb, hnb⟩
  have HLO1 : Hid (w.heap.size < Y1a.heap.size ∧ LB < Y1a.heap.size ∧ ∀ b ∈ k1.l, Y1a.heap.size ≤ b) := ⟨(Array.getElem?_eq_some_iff.1 HA1.out.bx).1, (Array.getElem?_eq_some_iff.1 HA1.out.lm).1, hlo⟩
  clear htb hsb hnb hlo hb HA1
  refine hK.out _ _ HX1.out (fun hHeld => ?_)
  clear hK K
  refine norm_any' (fun K hK => ?_); go_simp; refine hK _ _ ?_; clear hK K
  refine wpAnyH_take (i := 5) (v := .tuple #[.pointer (some ⟨k1.T, 0, none⟩), .int .i64 0]) rfl (by kernel_rfl) (by kernel_rfl) (by kernel_rfl) (fun _ _ _ h => h) (Or.inl ⟨by rfl, by intro w hs; go_simp⟩) hHeld ?_
  refine norm_any' (fun K hK => ?_); go_simp; refine hK _ _ ?_; clear hK K
  refine wpAnyH_take (i := 6) (v := .pointer (some ⟨k1.T, 0, none⟩)) rfl (by kernel_rfl) (by kernel_rfl) (by kernel_rfl) (fun _ _ _ h => h) (Or.inl ⟨by rfl, by intro w hs; go_simp⟩) hHeld ?_
  refine norm_any' (fun K hK => ?_); go_simp; refine hK _ _ ?_; clear hK K
  refine wpAnyH_take (i := 7) (v := .int .i64 0) rfl (by kernel_rfl) (by kernel_rfl) (by kernel_rfl) (fun _ _ _ h => h) (Or.inl ⟨by rfl, by intro w hs; go_simp⟩) hHeld ?_
  refine norm_any' (fun K hK => ?_); go_simp; refine hK _ _ ?_; clear hK K
  refine wpAnyH_take (i := 8) (v := .pointer (some ⟨k1.T, 0, none⟩)) rfl (by kernel_rfl) (by kernel_rfl) (by kernel_rfl) (fun _ _ _ h => h) (Or.inl ⟨by rfl, by intro w hs; go_simp⟩) hHeld ?_
  refine norm_any' (fun K hK => ?_); go_simp; refine hK _ _ ?_; clear hK K
  refine wpAnyH_take (i := 9) (v := .int .i64 0) rfl (by kernel_rfl) (by kernel_rfl) (by kernel_rfl) (fun _ _ _ h => h) (Or.inl ⟨by rfl, by intro w hs; go_simp⟩) hHeld ?_
  refine norm_any' (fun K hK => ?_); go_simp; refine hK _ _ ?_; clear hK K
  refine wpAnyH_done (by kernel_rfl) ?_ _
  have hpI := HPI.out
  have hnI := HNI.out
  have hmk := HMK.out
  go_upto_region 7 with fail
  clear hpI hnI
  have e4 : IntKind.i64.wrap (4 * (p : Int)) = 4 * (p : Int) := wrp _ (by have := HP.out; omega) (by have := HP.out; omega)
  have HSL : Hid _ := sl_new Y1b (List.replicate n 0)
  have HB2 : Hid _ := bel1 Y1b (.cells (hz8 (List.replicate n 0)).toArray 5)
  
  have e43 : IntKind.i64.wrap (4 * (p : Int) + 3) = 4 * (p : Int) + 3 := wrp _ (by have := HP.out; omega) (by have := HP.out; omega)
  have e41 : IntKind.i64.wrap (4 * (p : Int) + 1) = 4 * (p : Int) + 1 := wrp _ (by have := HP.out; omega) (by have := HP.out; omega)
  have e42 : IntKind.i64.wrap (4 * (p : Int) + 2) = 4 * (p : Int) + 2 := wrp _ (by have := HP.out; omega) (by have := HP.out; omega)
  have HES : Hid (sid p false false = 4 * (p : Int)) := by show sid p false false = _; simp [sid]
  by_cases ha : z.b ≤ (p : Int)
  · as_aux_lemma =>
    have HTK : Hid _ := take_lim (HTB1.out.1.go HB2.out) (shut_begin HY1.out).1 p (by have := HP.out; omega) (.slice (some ⟨Y1b.heap.size, 0, none⟩) n n) ha
    have HX2 : Hid _ := HX1.out.go HB2.out
    have HTB2 : Hid _ := HTB1.out.1.go HB2.out
    have hla := HX1.out.lims
    go_upto_region 7 with fail
    go_wp2_with fail
    refine Calls.mono HTK.out ?_
    rintro e Y3 ⟨v, rfl, ⟨cc, rfl, hcc⟩, hb⟩
    have HC : Hid _ := hcc
    have HX3 : Hid _ := HX2.out.go hb
    have HTB3 : Hid _ := HTB2.out.go hb
    obtain ⟨la, lb, lc⟩ := HX3.out.lims
    clear hcc hb HTK HX2 HTB2 HX1 HTB1 HSL HB2 hmk hla
    go_wp2_with fail
    refine Calls.mono (closes_c cc 4 8 31 _ HC.out (HX3.out.eh HE.out)) ?_
    rintro e Y4 ⟨rfl, hb⟩
    have HX4 : Hid _ := HX3.out.go hb
    have HTB4 : Hid (Tb true z y1 k1 (Tst.begin z y1) Y4) := HTB3.out.go hb
    have HSH : Hid _ := shut_begin (x := z) HY1.out
    generalize Tst.begin z y1 = st1 at *
    clear hb HX3 HTB3 HC la lb lc
    have HR : Hid (Rq c s z w LB y1 k1 st1 Y4.heap.size #[.int .i64 8, .int .i64 4, .int .i64 21] (Y4.alloc (.cells #[.int .i64 8, .int .i64 4, .int .i64 21] 3))) := ⟨HX4.out.go (bel1 _ _), HTB4.out.go (bel1 _ _), heap_alloc_new _ _⟩
    go_wp2_with fail
    generalize Y4.alloc (.cells #[.int .i64 8, .int .i64 4, .int .i64 21] 3) = Y5 at *
    generalize Y4.heap.size = B5 at *
    clear HX4 HTB4
    refine wp_loop_rounds 4 ?_
    rw [rounds_succ]
    have ai : Y5.cell? ⟨B5, 0, none⟩ = some (.int .i64 8) := HR.out.at 0
    go_wp2_with fail
    refine Calls.mono (take_r3 HR.out.tb HSH.out p (by have := HP.out; omega) 8 (by decide)) ?_
    rintro e U1 ⟨v, rfl, ⟨cc5, rfl, hcc⟩, hb⟩
    have HR3 : Hid _ := HR.out.go hb
    have HC : Hid _ := hcc
    clear hcc hb HR ai
    go_wp2_with fail
    refine Calls.mono (closes_c cc5 5 8 32 _ HC.out (HR3.out.lw.eh HE.out)) ?_
    rintro e U2 ⟨rfl, hb⟩
    have HR4 : Hid _ := HR3.out.go hb
    clear hb HC HR3
    go_wp2_with fail
    refine Calls.mono (take_r1 HR4.out.tb HSH.out p (by have := HP.out; omega) 8 (by decide)) ?_
    rintro e U6 ⟨v, rfl, ⟨cc10, rfl, hcc⟩, hb⟩
    have HR8 : Hid _ := HR4.out.go hb
    have HC : Hid _ := hcc
    clear hcc hb HR4
    go_wp2_with fail
    refine Calls.mono (closes_c cc10 5 8 32 _ HC.out (HR8.out.lw.eh HE.out)) ?_
    rintro e U7 ⟨rfl, hb⟩
    have HR9 : Hid _ := HR8.out.go hb
    clear hb HC HR8
    go_wp2_with fail
    rw [rounds_succ]
    have ai : U7.cell? ⟨B5, 1, none⟩ = some (.int .i64 4) := HR9.out.at 1
    go_wp2_with fail
    refine Calls.mono (take_r3 HR9.out.tb HSH.out p (by have := HP.out; omega) 4 (by decide)) ?_
    rintro e U11 ⟨v, rfl, ⟨cc15, rfl, hcc⟩, hb⟩
    have HR13 : Hid _ := HR9.out.go hb
    have HC : Hid _ := hcc
    clear hcc hb HR9 ai
    go_wp2_with fail
    refine Calls.mono (closes_c cc15 5 4 32 _ HC.out (HR13.out.lw.eh HE.out)) ?_
    rintro e U12 ⟨rfl, hb⟩
    have HR14 : Hid _ := HR13.out.go hb
    clear hb HC HR13
    go_wp2_with fail
    refine Calls.mono (take_r1 HR14.out.tb HSH.out p (by have := HP.out; omega) 4 (by decide)) ?_
    rintro e U16 ⟨v, rfl, ⟨cc20, rfl, hcc⟩, hb⟩
    have HR18 : Hid _ := HR14.out.go hb
    have HC : Hid _ := hcc
    clear hcc hb HR14
    go_wp2_with fail
    refine Calls.mono (closes_c cc20 5 4 32 _ HC.out (HR18.out.lw.eh HE.out)) ?_
    rintro e U17 ⟨rfl, hb⟩
    have HR19 : Hid _ := HR18.out.go hb
    clear hb HC HR18
    go_wp2_with fail
    rw [rounds_succ]
    have ai : U17.cell? ⟨B5, 2, none⟩ = some (.int .i64 21) := HR19.out.at 2
    go_wp2_with fail
    refine Calls.mono (take_r3 HR19.out.tb HSH.out p (by have := HP.out; omega) 21 (by decide)) ?_
    rintro e U21 ⟨v, rfl, ⟨cc25, rfl, hcc⟩, hb⟩
    have HR23 : Hid _ := HR19.out.go hb
    have HC : Hid _ := hcc
    clear hcc hb HR19 ai
    go_wp2_with fail
    refine Calls.mono (closes_c cc25 5 21 32 _ HC.out (HR23.out.lw.eh HE.out)) ?_
    rintro e U22 ⟨rfl, hb⟩
    have HR24 : Hid _ := HR23.out.go hb
    clear hb HC HR23
    go_wp2_with fail
    refine Calls.mono (take_r1 HR24.out.tb HSH.out p (by have := HP.out; omega) 21 (by decide)) ?_
    rintro e U26 ⟨v, rfl, ⟨cc30, rfl, hcc⟩, hb⟩
    have HR28 : Hid _ := HR24.out.go hb
    have HC : Hid _ := hcc
    clear hcc hb HR24
    go_wp2_with fail
    refine Calls.mono (closes_c cc30 5 21 32 _ HC.out (HR28.out.lw.eh HE.out)) ?_
    rintro e U27 ⟨rfl, hb⟩
    have HR29 : Hid _ := HR28.out.go hb
    clear hb HC HR28
    go_wp2_with fail
    rw [rounds_succ]
    have HS2 : Hid (Rq c s z w LB y1 k1 st1 U27.heap.size #[.int .i64 5, .int .i64 17] (U27.alloc (.cells #[.int .i64 5, .int .i64 17] 3))) := ⟨HR29.out.lw.go (bel1 _ _), HR29.out.tb.go (bel1 _ _), heap_alloc_new _ _⟩
    go_wp2_with fail
    generalize U27.alloc (.cells #[.int .i64 5, .int .i64 17] 3) = Y6 at *
    generalize U27.heap.size = B6 at *
    clear HR29
    refine wp_loop_rounds 3 ?_
    rw [rounds_succ]
    have ai : Y6.cell? ⟨B6, 0, none⟩ = some (.int .i64 5) := HS2.out.at 0
    go_wp2_with fail
    refine Calls.mono (take_w2 HS2.out.tb HSH.out p (by have := HP.out; omega) 5 (by decide)) ?_
    rintro e U31 ⟨v, rfl, ⟨cc35, rfl, hcc⟩, hb⟩
    have HR33 : Hid _ := HS2.out.go hb
    have HC : Hid _ := hcc
    clear hcc hb HS2 ai
    go_wp2_with fail
    refine Calls.mono (closes_c cc35 5 5 32 _ HC.out (HR33.out.lw.eh HE.out)) ?_
    rintro e U32 ⟨rfl, hb⟩
    have HR34 : Hid _ := HR33.out.go hb
    clear hb HC HR33
    go_wp2_with fail
    refine Calls.mono (take_w3 HR34.out.tb HSH.out p (by have := HP.out; omega) 5 (by decide)) ?_
    rintro e U36 ⟨v, rfl, ⟨cc40, rfl, hcc⟩, hb⟩
    have HR38 : Hid _ := HR34.out.go hb
    have HC : Hid _ := hcc
    clear hcc hb HR34
    go_wp2_with fail
    refine Calls.mono (closes_c cc40 5 5 32 _ HC.out (HR38.out.lw.eh HE.out)) ?_
    rintro e U37 ⟨rfl, hb⟩
    have HR39 : Hid _ := HR38.out.go hb
    clear hb HC HR38
    go_wp2_with fail
    rw [rounds_succ]
    have ai : U37.cell? ⟨B6, 1, none⟩ = some (.int .i64 17) := HR39.out.at 1
    go_wp2_with fail
    refine Calls.mono (take_w2 HR39.out.tb HSH.out p (by have := HP.out; omega) 17 (by decide)) ?_
    rintro e U41 ⟨v, rfl, ⟨cc45, rfl, hcc⟩, hb⟩
    have HR43 : Hid _ := HR39.out.go hb
    have HC : Hid _ := hcc
    clear hcc hb HR39 ai
    go_wp2_with fail
    refine Calls.mono (closes_c cc45 5 17 32 _ HC.out (HR43.out.lw.eh HE.out)) ?_
    rintro e U42 ⟨rfl, hb⟩
    have HR44 : Hid _ := HR43.out.go hb
    clear hb HC HR43
    go_wp2_with fail
    refine Calls.mono (take_w3 HR44.out.tb HSH.out p (by have := HP.out; omega) 17 (by decide)) ?_
    rintro e U46 ⟨v, rfl, ⟨cc50, rfl, hcc⟩, hb⟩
    have HR48 : Hid _ := HR44.out.go hb
    have HC : Hid _ := hcc
    clear hcc hb HR44
    go_wp2_with fail
    refine Calls.mono (closes_c cc50 5 17 32 _ HC.out (HR48.out.lw.eh HE.out)) ?_
    rintro e U47 ⟨rfl, hb⟩
    have HR49 : Hid _ := HR48.out.go hb
    clear hb HC HR48
    go_wp2_with fail
    rw [rounds_succ]
    have HX6 : Hid _ := HR49.out.lw
    clear HR49
    go_upto_region 28 with fail
    have HD7 : Hid _ := HX6.out.go (bel_drew U47)
    refine wp_region_held_drew (S := fun X => Lw c s z w LB X) (by kernel_rfl) HD7.out (fun hHeld => ?_)
    generalize U47.drew = Y7 at *
    clear HX6
    refine wpAnyH_take (i := 0) (v := .agg z.v.toArray) rfl (by kernel_rfl) (by kernel_rfl) (by kernel_rfl) (fun _ _ _ h => h) (yieldsIf_load_mid rfl 23 (.tmp 7) rfl (LB) 0 rfl z.v _ (fun X hX => rng23 (Lw.lm hX)) u23 rfl i23) hHeld ?_
    refine norm_any' (fun K hK => ?_); go_simp; refine hK _ _ ?_; clear hK K
    refine wpAnyH_take (i := 1) (v := .pointer (some ⟨w.heap.size, 0, none⟩)) rfl (by kernel_rfl) (by kernel_rfl) (by kernel_rfl) (fun _ _ _ h => h) (Or.inl ⟨by rfl, by intro w hs; go_simp⟩) hHeld ?_
    refine norm_any' (fun K hK => ?_); go_simp; refine hK _ _ ?_; clear hK K
    refine wpAnyH_take (i := 2) (v := .agg c.v.toArray) rfl (by kernel_rfl) (by kernel_rfl) (by kernel_rfl) (fun _ _ _ h => h) (yieldsIf_load_mid rfl 23 (.tmp 132) rfl (w.heap.size) 0 rfl c.v _ (fun X hX => Lw.b0 hX) u23 rfl i23) hHeld ?_
    refine norm_any' (fun K hK => ?_); go_simp; refine hK _ _ ?_; clear hK K
    refine wpAnyH_ready (rs := [3]) (by kernel_rfl) (by simp) (AllReadyH.cons rfl (fun K hK => ?_) AllReadyH.nil)
    go_simp
    refine Calls.mono (small_c c _) ?_
    rintro e Y7a ⟨y7, rfl, hy7, hb7⟩
    have HY7 : Hid _ := hy7
    have HA7 : Hid _ := HD7.out.go hb7
    clear hb7 hy7 HD7
    refine hK.out _ _ HA7.out (fun hHeld => ?_)
    clear hK K
    refine norm_any' (fun K hK => ?_); go_simp; refine hK _ _ ?_; clear hK K
    refine wpAnyH_ready (rs := [4]) (by kernel_rfl) (by simp) (AllReadyH.cons rfl (fun K hK => ?_) AllReadyH.nil)
    go_simp
    refine Calls.mono (tnew_p true z y7 _ HZ.out HY7.out) ?_
    rintro e Y7b ⟨k7, rfl, htb, hsb, hnb, hlo, hb⟩
    have HX7 : Hid _ := HA7.out.go hb
    have HTB7 : Hid (Tb true z y7 k7 (Tst.begin z y7) Y7b ∧ Y7b.heap[k7.sb]? = some (.map #[] 0) ∧ Y7b.heap[k7.nb]? = some (.map #[] 0)) := ⟨htb, hsb, hnb⟩
    have HLO7 : Hid (w.heap.size < Y7a.heap.size ∧ LB < Y7a.heap.size ∧ ∀ b ∈ k7.l, Y7a.heap.size ≤ b) := ⟨(Array.getElem?_eq_some_iff.1 HA7.out.bx).1, (Array.getElem?_eq_some_iff.1 HA7.out.lm).1, hlo⟩
    clear htb hsb hnb hlo hb HA7
    refine hK.out _ _ HX7.out (fun hHeld => ?_)
    clear hK K
    refine norm_any' (fun K hK => ?_); go_simp; refine hK _ _ ?_; clear hK K
    refine wpAnyH_take (i := 5) (v := .tuple #[.pointer (some ⟨k7.T, 0, none⟩), .int .i64 0]) rfl (by kernel_rfl) (by kernel_rfl) (by kernel_rfl) (fun _ _ _ h => h) (Or.inl ⟨by rfl, by intro w hs; go_simp⟩) hHeld ?_
    refine norm_any' (fun K hK => ?_); go_simp; refine hK _ _ ?_; clear hK K
    refine wpAnyH_take (i := 6) (v := .pointer (some ⟨k7.T, 0, none⟩)) rfl (by kernel_rfl) (by kernel_rfl) (by kernel_rfl) (fun _ _ _ h => h) (Or.inl ⟨by rfl, by intro w hs; go_simp⟩) hHeld ?_
    refine norm_any' (fun K hK => ?_); go_simp; refine hK _ _ ?_; clear hK K
    refine wpAnyH_take (i := 7) (v := .int .i64 0) rfl (by kernel_rfl) (by kernel_rfl) (by kernel_rfl) (fun _ _ _ h => h) (Or.inl ⟨by rfl, by intro w hs; go_simp⟩) hHeld ?_
    refine norm_any' (fun K hK => ?_); go_simp; refine hK _ _ ?_; clear hK K
    refine wpAnyH_take (i := 8) (v := .pointer (some ⟨k7.T, 0, none⟩)) rfl (by kernel_rfl) (by kernel_rfl) (by kernel_rfl) (fun _ _ _ h => h) (Or.inl ⟨by rfl, by intro w hs; go_simp⟩) hHeld ?_
    refine norm_any' (fun K hK => ?_); go_simp; refine hK _ _ ?_; clear hK K
    refine wpAnyH_take (i := 9) (v := .int .i64 0) rfl (by kernel_rfl) (by kernel_rfl) (by kernel_rfl) (fun _ _ _ h => h) (Or.inl ⟨by rfl, by intro w hs; go_simp⟩) hHeld ?_
    refine norm_any' (fun K hK => ?_); go_simp; refine hK _ _ ?_; clear hK K
    refine wpAnyH_done (by kernel_rfl) ?_ _
    have hq := eq_nil
    have hcv := cv_one
    have HX8 : Hid _ := HX7.out.go (bel1 Y7b (.cells #[.int .u8 97] 5 (1, 2)))
    have HTK : Hid _ := take_first (n := 1) (cap := 1) (HTB7.out.1.go (bel1 Y7b (.cells #[.int .u8 97] 5 (1, 2)))) HZ.out HY7.out (heap_bel HTB7.out.2.1 (bel1 _ _)) (heap_bel HTB7.out.2.2 (bel1 _ _)) (HX8.out.ti HT.out) 0 true (by have := HZ.out.2.2.2.2.2.1; show ((0 : Nat) : Int) < z.s; omega) _ true [97] rfl (sl_97 Y7b) (Nat.le_refl _) (by omega) (by have := HZ.out.1.1; omega) (by have := HZ.out.2.2.2.1.1; show ((1 : Nat) : Int) ≤ z.u; omega)
    have e2 : sid 0 false true = 2 := by simp [sid]
    rw [e2] at HTK
    go_wp2_with fail
    generalize Y7b.alloc (.cells #[.int .u8 97] 5 (1, 2)) = Y8 at *
    generalize Y7b.heap.size = B8 at *
    refine Calls.mono HTK.out ?_
    rintro e Y9 ⟨rfl, st2, S2, cs2, F2, m2, ib2, mb2, nn2, V2, E2, hd2, win2, haf, hch⟩
    have HR9 : Hid (Rs c s z w LB y7 k7 st2 S2 cs2 F2 m2 ib2 mb2 nn2 V2 E2 hd2 win2 Y9) := ⟨HX8.out.chg hch HLO7.out.2.1 HLO7.out.1 HLO7.out.2.2, haf⟩
    clear haf hch HX8 HTK HX7 HTB7 e2
    have HR10 : Hid _ := HR9.out.go (bel1 Y9 (.cells #[.int .u8 98] 5 (1, 2)))
    go_wp2_with fail
    generalize Y9.alloc (.cells #[.int .u8 98] 5 (1, 2)) = Y10 at *
    refine Calls.mono (take_behind HR10.out.af HZ.out _ _) ?_
    rintro e Y11 ⟨v, rfl, ⟨c11, rfl, hcc⟩, hb⟩
    have HR11 : Hid _ := HR10.out.go hb
    have HC : Hid _ := hcc
    clear hcc hb HR10 HR9
    go_wp2_with fail
    refine Calls.mono (closes_c c11 6 8 33 _ HC.out (HR11.out.lw.eh HE.out)) ?_
    rintro e Y12 ⟨rfl, hb⟩
    have HR12 : Hid _ := HR11.out.go hb
    clear hb HC HR11
    go_wp2_with fail
    refine Calls.mono (take_short HR12.out.af HZ.out) ?_
    rintro e Y13 ⟨v, rfl, ⟨c13, rfl, hcc⟩, hb⟩
    have HR13 : Hid _ := HR12.out.go hb
    have HC : Hid _ := hcc
    clear hcc hb HR12
    go_wp2_with fail
    refine Calls.mono (closes_c c13 6 4 33 _ HC.out (HR13.out.lw.eh HE.out)) ?_
    rintro e Y14 ⟨rfl, hb⟩
    have HR14 : Hid _ := HR13.out.go hb
    clear hb HC HR13
    go_wp2_with fail
    refine Calls.mono (take_p1 HR14.out.af.tb) ?_
    rintro e Y15 ⟨rfl, hb⟩
    have HR15 : Hid _ := HR14.out.go hb
    clear hb HR14
    go_wp2_with fail
    refine Calls.mono (is_same 12 Y15) ?_
    rintro e Y15' ⟨rfl, hw⟩
    subst Y15'
    go_wp2_with fail
    refine Calls.mono (take_p20 HR15.out.af.tb) ?_
    rintro e Y16 ⟨rfl, hb⟩
    have HB16 : Hid _ := (HR15.out.go hb).lw.bel
    have hq2 := eq_nil2
    clear hb HR15
    go_wp2
    go_ret
    exact ⟨rfl, HB16.out⟩
  · have hp4 : (p : Int) < z.most false := by show (p : Int) < z.b; omega
    by_cases hb_ : z.r < (n : Int)
    · as_aux_lemma =>
      have HTK : Hid _ := (by
        have h := take_flow (HTB1.out.1.go HB2.out) HZ.out HY1.out (heap_bel HTB1.out.2.1 HB2.out) p false hp4 n n (some ⟨Y1b.heap.size, 0, none⟩) false (by have := HP.out; omega) (Or.inl hb_)
        rw [HES.out] at h
        exact h)
      have HX2 : Hid _ := HX1.out.go HB2.out
      have HTB2 : Hid _ := HTB1.out.1.go HB2.out
      have hla := HX1.out.lims
      go_upto_region 7 with fail
      go_wp2_with fail
      refine Calls.mono HTK.out ?_
      rintro e Y3 ⟨v, rfl, ⟨cc, rfl, hcc⟩, hb⟩
      have HC : Hid _ := hcc
      have HX3 : Hid _ := HX2.out.go hb
      have HTB3 : Hid _ := HTB2.out.go hb
      obtain ⟨la, lb, lc⟩ := HX3.out.lims
      clear hcc hb HTK HX2 HTB2 HX1 HTB1 HSL HB2 hmk hla
      go_wp2_with fail
      refine Calls.mono (closes_c cc 3 8 30 _ HC.out (HX3.out.eh HE.out)) ?_
      rintro e Y4 ⟨rfl, hb⟩
      have HX4 : Hid _ := HX3.out.go hb
      have HTB4 : Hid (Tb true z y1 k1 (Tst.begin z y1) Y4) := HTB3.out.go hb
      have HSH : Hid _ := shut_begin (x := z) HY1.out
      generalize Tst.begin z y1 = st1 at *
      clear hb HX3 HTB3 HC la lb lc
      have HR : Hid (Rq c s z w LB y1 k1 st1 Y4.heap.size #[.int .i64 8, .int .i64 4, .int .i64 21] (Y4.alloc (.cells #[.int .i64 8, .int .i64 4, .int .i64 21] 3))) := ⟨HX4.out.go (bel1 _ _), HTB4.out.go (bel1 _ _), heap_alloc_new _ _⟩
      go_wp2_with fail
      generalize Y4.alloc (.cells #[.int .i64 8, .int .i64 4, .int .i64 21] 3) = Y5 at *
      generalize Y4.heap.size = B5 at *
      clear HX4 HTB4
      refine wp_loop_rounds 4 ?_
      rw [rounds_succ]
      have ai : Y5.cell? ⟨B5, 0, none⟩ = some (.int .i64 8) := HR.out.at 0
      go_wp2_with fail
      refine Calls.mono (take_r3 HR.out.tb HSH.out p (by have := HP.out; omega) 8 (by decide)) ?_
      rintro e U51 ⟨v, rfl, ⟨cc55, rfl, hcc⟩, hb⟩
      have HR53 : Hid _ := HR.out.go hb
      have HC : Hid _ := hcc
      clear hcc hb HR ai
      go_wp2_with fail
      refine Calls.mono (closes_c cc55 5 8 32 _ HC.out (HR53.out.lw.eh HE.out)) ?_
      rintro e U52 ⟨rfl, hb⟩
      have HR54 : Hid _ := HR53.out.go hb
      clear hb HC HR53
      go_wp2_with fail
      refine Calls.mono (take_r1 HR54.out.tb HSH.out p (by have := HP.out; omega) 8 (by decide)) ?_
      rintro e U56 ⟨v, rfl, ⟨cc60, rfl, hcc⟩, hb⟩
      have HR58 : Hid _ := HR54.out.go hb
      have HC : Hid _ := hcc
      clear hcc hb HR54
      go_wp2_with fail
      refine Calls.mono (closes_c cc60 5 8 32 _ HC.out (HR58.out.lw.eh HE.out)) ?_
      rintro e U57 ⟨rfl, hb⟩
      have HR59 : Hid _ := HR58.out.go hb
      clear hb HC HR58
      go_wp2_with fail
      rw [rounds_succ]
      have ai : U57.cell? ⟨B5, 1, none⟩ = some (.int .i64 4) := HR59.out.at 1
      go_wp2_with fail
      refine Calls.mono (take_r3 HR59.out.tb HSH.out p (by have := HP.out; omega) 4 (by decide)) ?_
      rintro e U61 ⟨v, rfl, ⟨cc65, rfl, hcc⟩, hb⟩
      have HR63 : Hid _ := HR59.out.go hb
      have HC : Hid _ := hcc
      clear hcc hb HR59 ai
      go_wp2_with fail
      refine Calls.mono (closes_c cc65 5 4 32 _ HC.out (HR63.out.lw.eh HE.out)) ?_
      rintro e U62 ⟨rfl, hb⟩
      have HR64 : Hid _ := HR63.out.go hb
      clear hb HC HR63
      go_wp2_with fail
      refine Calls.mono (take_r1 HR64.out.tb HSH.out p (by have := HP.out; omega) 4 (by decide)) ?_
      rintro e U66 ⟨v, rfl, ⟨cc70, rfl, hcc⟩, hb⟩
      have HR68 : Hid _ := HR64.out.go hb
      have HC : Hid _ := hcc
      clear hcc hb HR64
      go_wp2_with fail
      refine Calls.mono (closes_c cc70 5 4 32 _ HC.out (HR68.out.lw.eh HE.out)) ?_
      rintro e U67 ⟨rfl, hb⟩
      have HR69 : Hid _ := HR68.out.go hb
      clear hb HC HR68
      go_wp2_with fail
      rw [rounds_succ]
      have ai : U67.cell? ⟨B5, 2, none⟩ = some (.int .i64 21) := HR69.out.at 2
      go_wp2_with fail
      refine Calls.mono (take_r3 HR69.out.tb HSH.out p (by have := HP.out; omega) 21 (by decide)) ?_
      rintro e U71 ⟨v, rfl, ⟨cc75, rfl, hcc⟩, hb⟩
      have HR73 : Hid _ := HR69.out.go hb
      have HC : Hid _ := hcc
      clear hcc hb HR69 ai
      go_wp2_with fail
      refine Calls.mono (closes_c cc75 5 21 32 _ HC.out (HR73.out.lw.eh HE.out)) ?_
      rintro e U72 ⟨rfl, hb⟩
      have HR74 : Hid _ := HR73.out.go hb
      clear hb HC HR73
      go_wp2_with fail
      refine Calls.mono (take_r1 HR74.out.tb HSH.out p (by have := HP.out; omega) 21 (by decide)) ?_
      rintro e U76 ⟨v, rfl, ⟨cc80, rfl, hcc⟩, hb⟩
      have HR78 : Hid _ := HR74.out.go hb
      have HC : Hid _ := hcc
      clear hcc hb HR74
      go_wp2_with fail
      refine Calls.mono (closes_c cc80 5 21 32 _ HC.out (HR78.out.lw.eh HE.out)) ?_
      rintro e U77 ⟨rfl, hb⟩
      have HR79 : Hid _ := HR78.out.go hb
      clear hb HC HR78
      go_wp2_with fail
      rw [rounds_succ]
      have HS2 : Hid (Rq c s z w LB y1 k1 st1 U77.heap.size #[.int .i64 5, .int .i64 17] (U77.alloc (.cells #[.int .i64 5, .int .i64 17] 3))) := ⟨HR79.out.lw.go (bel1 _ _), HR79.out.tb.go (bel1 _ _), heap_alloc_new _ _⟩
      go_wp2_with fail
      generalize U77.alloc (.cells #[.int .i64 5, .int .i64 17] 3) = Y6 at *
      generalize U77.heap.size = B6 at *
      clear HR79
      refine wp_loop_rounds 3 ?_
      rw [rounds_succ]
      have ai : Y6.cell? ⟨B6, 0, none⟩ = some (.int .i64 5) := HS2.out.at 0
      go_wp2_with fail
      refine Calls.mono (take_w2 HS2.out.tb HSH.out p (by have := HP.out; omega) 5 (by decide)) ?_
      rintro e U81 ⟨v, rfl, ⟨cc85, rfl, hcc⟩, hb⟩
      have HR83 : Hid _ := HS2.out.go hb
      have HC : Hid _ := hcc
      clear hcc hb HS2 ai
      go_wp2_with fail
      refine Calls.mono (closes_c cc85 5 5 32 _ HC.out (HR83.out.lw.eh HE.out)) ?_
      rintro e U82 ⟨rfl, hb⟩
      have HR84 : Hid _ := HR83.out.go hb
      clear hb HC HR83
      go_wp2_with fail
      refine Calls.mono (take_w3 HR84.out.tb HSH.out p (by have := HP.out; omega) 5 (by decide)) ?_
      rintro e U86 ⟨v, rfl, ⟨cc90, rfl, hcc⟩, hb⟩
      have HR88 : Hid _ := HR84.out.go hb
      have HC : Hid _ := hcc
      clear hcc hb HR84
      go_wp2_with fail
      refine Calls.mono (closes_c cc90 5 5 32 _ HC.out (HR88.out.lw.eh HE.out)) ?_
      rintro e U87 ⟨rfl, hb⟩
      have HR89 : Hid _ := HR88.out.go hb
      clear hb HC HR88
      go_wp2_with fail
      rw [rounds_succ]
      have ai : U87.cell? ⟨B6, 1, none⟩ = some (.int .i64 17) := HR89.out.at 1
      go_wp2_with fail
      refine Calls.mono (take_w2 HR89.out.tb HSH.out p (by have := HP.out; omega) 17 (by decide)) ?_
      rintro e U91 ⟨v, rfl, ⟨cc95, rfl, hcc⟩, hb⟩
      have HR93 : Hid _ := HR89.out.go hb
      have HC : Hid _ := hcc
      clear hcc hb HR89 ai
      go_wp2_with fail
      refine Calls.mono (closes_c cc95 5 17 32 _ HC.out (HR93.out.lw.eh HE.out)) ?_
      rintro e U92 ⟨rfl, hb⟩
      have HR94 : Hid _ := HR93.out.go hb
      clear hb HC HR93
      go_wp2_with fail
      refine Calls.mono (take_w3 HR94.out.tb HSH.out p (by have := HP.out; omega) 17 (by decide)) ?_
      rintro e U96 ⟨v, rfl, ⟨cc100, rfl, hcc⟩, hb⟩
      have HR98 : Hid _ := HR94.out.go hb
      have HC : Hid _ := hcc
      clear hcc hb HR94
      go_wp2_with fail
      refine Calls.mono (closes_c cc100 5 17 32 _ HC.out (HR98.out.lw.eh HE.out)) ?_
      rintro e U97 ⟨rfl, hb⟩
      have HR99 : Hid _ := HR98.out.go hb
      clear hb HC HR98
      go_wp2_with fail
      rw [rounds_succ]
      have HX6 : Hid _ := HR99.out.lw
      clear HR99
      go_upto_region 28 with fail
      have HD7 : Hid _ := HX6.out.go (bel_drew U97)
      refine wp_region_held_drew (S := fun X => Lw c s z w LB X) (by kernel_rfl) HD7.out (fun hHeld => ?_)
      generalize U97.drew = Y7 at *
      clear HX6
      refine wpAnyH_take (i := 0) (v := .agg z.v.toArray) rfl (by kernel_rfl) (by kernel_rfl) (by kernel_rfl) (fun _ _ _ h => h) (yieldsIf_load_mid rfl 23 (.tmp 7) rfl (LB) 0 rfl z.v _ (fun X hX => rng23 (Lw.lm hX)) u23 rfl i23) hHeld ?_
      refine norm_any' (fun K hK => ?_); go_simp; refine hK _ _ ?_; clear hK K
      refine wpAnyH_take (i := 1) (v := .pointer (some ⟨w.heap.size, 0, none⟩)) rfl (by kernel_rfl) (by kernel_rfl) (by kernel_rfl) (fun _ _ _ h => h) (Or.inl ⟨by rfl, by intro w hs; go_simp⟩) hHeld ?_
      refine norm_any' (fun K hK => ?_); go_simp; refine hK _ _ ?_; clear hK K
      refine wpAnyH_take (i := 2) (v := .agg c.v.toArray) rfl (by kernel_rfl) (by kernel_rfl) (by kernel_rfl) (fun _ _ _ h => h) (yieldsIf_load_mid rfl 23 (.tmp 132) rfl (w.heap.size) 0 rfl c.v _ (fun X hX => Lw.b0 hX) u23 rfl i23) hHeld ?_
      refine norm_any' (fun K hK => ?_); go_simp; refine hK _ _ ?_; clear hK K
      refine wpAnyH_ready (rs := [3]) (by kernel_rfl) (by simp) (AllReadyH.cons rfl (fun K hK => ?_) AllReadyH.nil)
      go_simp
      refine Calls.mono (small_c c _) ?_
      rintro e Y7a ⟨y7, rfl, hy7, hb7⟩
      have HY7 : Hid _ := hy7
      have HA7 : Hid _ := HD7.out.go hb7
      clear hb7 hy7 HD7
      refine hK.out _ _ HA7.out (fun hHeld => ?_)
      clear hK K
      refine norm_any' (fun K hK => ?_); go_simp; refine hK _ _ ?_; clear hK K
      refine wpAnyH_ready (rs := [4]) (by kernel_rfl) (by simp) (AllReadyH.cons rfl (fun K hK => ?_) AllReadyH.nil)
      go_simp
      refine Calls.mono (tnew_p true z y7 _ HZ.out HY7.out) ?_
      rintro e Y7b ⟨k7, rfl, htb, hsb, hnb, hlo, hb⟩
      have HX7 : Hid _ := HA7.out.go hb
      have HTB7 : Hid (Tb true z y7 k7 (Tst.begin z y7) Y7b ∧ Y7b.heap[k7.sb]? = some (.map #[] 0) ∧ Y7b.heap[k7.nb]? = some (.map #[] 0)) := ⟨htb, hsb, hnb⟩
      have HLO7 : Hid (w.heap.size < Y7a.heap.size ∧ LB < Y7a.heap.size ∧ ∀ b ∈ k7.l, Y7a.heap.size ≤ b) := ⟨(Array.getElem?_eq_some_iff.1 HA7.out.bx).1, (Array.getElem?_eq_some_iff.1 HA7.out.lm).1, hlo⟩
      clear htb hsb hnb hlo hb HA7
      refine hK.out _ _ HX7.out (fun hHeld => ?_)
      clear hK K
      refine norm_any' (fun K hK => ?_); go_simp; refine hK _ _ ?_; clear hK K
      refine wpAnyH_take (i := 5) (v := .tuple #[.pointer (some ⟨k7.T, 0, none⟩), .int .i64 0]) rfl (by kernel_rfl) (by kernel_rfl) (by kernel_rfl) (fun _ _ _ h => h) (Or.inl ⟨by rfl, by intro w hs; go_simp⟩) hHeld ?_
      refine norm_any' (fun K hK => ?_); go_simp; refine hK _ _ ?_; clear hK K
      refine wpAnyH_take (i := 6) (v := .pointer (some ⟨k7.T, 0, none⟩)) rfl (by kernel_rfl) (by kernel_rfl) (by kernel_rfl) (fun _ _ _ h => h) (Or.inl ⟨by rfl, by intro w hs; go_simp⟩) hHeld ?_
      refine norm_any' (fun K hK => ?_); go_simp; refine hK _ _ ?_; clear hK K
      refine wpAnyH_take (i := 7) (v := .int .i64 0) rfl (by kernel_rfl) (by kernel_rfl) (by kernel_rfl) (fun _ _ _ h => h) (Or.inl ⟨by rfl, by intro w hs; go_simp⟩) hHeld ?_
      refine norm_any' (fun K hK => ?_); go_simp; refine hK _ _ ?_; clear hK K
      refine wpAnyH_take (i := 8) (v := .pointer (some ⟨k7.T, 0, none⟩)) rfl (by kernel_rfl) (by kernel_rfl) (by kernel_rfl) (fun _ _ _ h => h) (Or.inl ⟨by rfl, by intro w hs; go_simp⟩) hHeld ?_
      refine norm_any' (fun K hK => ?_); go_simp; refine hK _ _ ?_; clear hK K
      refine wpAnyH_take (i := 9) (v := .int .i64 0) rfl (by kernel_rfl) (by kernel_rfl) (by kernel_rfl) (fun _ _ _ h => h) (Or.inl ⟨by rfl, by intro w hs; go_simp⟩) hHeld ?_
      refine norm_any' (fun K hK => ?_); go_simp; refine hK _ _ ?_; clear hK K
      refine wpAnyH_done (by kernel_rfl) ?_ _
      have hq := eq_nil
      have hcv := cv_one
      have HX8 : Hid _ := HX7.out.go (bel1 Y7b (.cells #[.int .u8 97] 5 (1, 2)))
      have HTK : Hid _ := take_first (n := 1) (cap := 1) (HTB7.out.1.go (bel1 Y7b (.cells #[.int .u8 97] 5 (1, 2)))) HZ.out HY7.out (heap_bel HTB7.out.2.1 (bel1 _ _)) (heap_bel HTB7.out.2.2 (bel1 _ _)) (HX8.out.ti HT.out) 0 true (by have := HZ.out.2.2.2.2.2.1; show ((0 : Nat) : Int) < z.s; omega) _ true [97] rfl (sl_97 Y7b) (Nat.le_refl _) (by omega) (by have := HZ.out.1.1; omega) (by have := HZ.out.2.2.2.1.1; show ((1 : Nat) : Int) ≤ z.u; omega)
      have e2 : sid 0 false true = 2 := by simp [sid]
      rw [e2] at HTK
      go_wp2_with fail
      generalize Y7b.alloc (.cells #[.int .u8 97] 5 (1, 2)) = Y8 at *
      generalize Y7b.heap.size = B8 at *
      refine Calls.mono HTK.out ?_
      rintro e Y9 ⟨rfl, st2, S2, cs2, F2, m2, ib2, mb2, nn2, V2, E2, hd2, win2, haf, hch⟩
      have HR9 : Hid (Rs c s z w LB y7 k7 st2 S2 cs2 F2 m2 ib2 mb2 nn2 V2 E2 hd2 win2 Y9) := ⟨HX8.out.chg hch HLO7.out.2.1 HLO7.out.1 HLO7.out.2.2, haf⟩
      clear haf hch HX8 HTK HX7 HTB7 e2
      have HR10 : Hid _ := HR9.out.go (bel1 Y9 (.cells #[.int .u8 98] 5 (1, 2)))
      go_wp2_with fail
      generalize Y9.alloc (.cells #[.int .u8 98] 5 (1, 2)) = Y10 at *
      refine Calls.mono (take_behind HR10.out.af HZ.out _ _) ?_
      rintro e Y11 ⟨v, rfl, ⟨c11, rfl, hcc⟩, hb⟩
      have HR11 : Hid _ := HR10.out.go hb
      have HC : Hid _ := hcc
      clear hcc hb HR10 HR9
      go_wp2_with fail
      refine Calls.mono (closes_c c11 6 8 33 _ HC.out (HR11.out.lw.eh HE.out)) ?_
      rintro e Y12 ⟨rfl, hb⟩
      have HR12 : Hid _ := HR11.out.go hb
      clear hb HC HR11
      go_wp2_with fail
      refine Calls.mono (take_short HR12.out.af HZ.out) ?_
      rintro e Y13 ⟨v, rfl, ⟨c13, rfl, hcc⟩, hb⟩
      have HR13 : Hid _ := HR12.out.go hb
      have HC : Hid _ := hcc
      clear hcc hb HR12
      go_wp2_with fail
      refine Calls.mono (closes_c c13 6 4 33 _ HC.out (HR13.out.lw.eh HE.out)) ?_
      rintro e Y14 ⟨rfl, hb⟩
      have HR14 : Hid _ := HR13.out.go hb
      clear hb HC HR13
      go_wp2_with fail
      refine Calls.mono (take_p1 HR14.out.af.tb) ?_
      rintro e Y15 ⟨rfl, hb⟩
      have HR15 : Hid _ := HR14.out.go hb
      clear hb HR14
      go_wp2_with fail
      refine Calls.mono (is_same 12 Y15) ?_
      rintro e Y15' ⟨rfl, hw⟩
      subst Y15'
      go_wp2_with fail
      refine Calls.mono (take_p20 HR15.out.af.tb) ?_
      rintro e Y16 ⟨rfl, hb⟩
      have HB16 : Hid _ := (HR15.out.go hb).lw.bel
      have hq2 := eq_nil2
      clear hb HR15
      go_wp2
      go_ret
      exact ⟨rfl, HB16.out⟩
    · by_cases hc_ : z.d < (n : Int)
      · as_aux_lemma =>
        have HTK : Hid _ := (by
          have h := take_flow (HTB1.out.1.go HB2.out) HZ.out HY1.out (heap_bel HTB1.out.2.1 HB2.out) p false hp4 n n (some ⟨Y1b.heap.size, 0, none⟩) false (by have := HP.out; omega) (Or.inr hc_)
          rw [HES.out] at h
          exact h)
        have HX2 : Hid _ := HX1.out.go HB2.out
        have HTB2 : Hid _ := HTB1.out.1.go HB2.out
        have hla := HX1.out.lims
        go_upto_region 7 with fail
        go_wp2_with fail
        refine Calls.mono HTK.out ?_
        rintro e Y3 ⟨v, rfl, ⟨cc, rfl, hcc⟩, hb⟩
        have HC : Hid _ := hcc
        have HX3 : Hid _ := HX2.out.go hb
        have HTB3 : Hid _ := HTB2.out.go hb
        obtain ⟨la, lb, lc⟩ := HX3.out.lims
        clear hcc hb HTK HX2 HTB2 HX1 HTB1 HSL HB2 hmk hla
        go_wp2_with fail
        refine Calls.mono (closes_c cc 3 8 30 _ HC.out (HX3.out.eh HE.out)) ?_
        rintro e Y4 ⟨rfl, hb⟩
        have HX4 : Hid _ := HX3.out.go hb
        have HTB4 : Hid (Tb true z y1 k1 (Tst.begin z y1) Y4) := HTB3.out.go hb
        have HSH : Hid _ := shut_begin (x := z) HY1.out
        generalize Tst.begin z y1 = st1 at *
        clear hb HX3 HTB3 HC la lb lc
        have HR : Hid (Rq c s z w LB y1 k1 st1 Y4.heap.size #[.int .i64 8, .int .i64 4, .int .i64 21] (Y4.alloc (.cells #[.int .i64 8, .int .i64 4, .int .i64 21] 3))) := ⟨HX4.out.go (bel1 _ _), HTB4.out.go (bel1 _ _), heap_alloc_new _ _⟩
        go_wp2_with fail
        generalize Y4.alloc (.cells #[.int .i64 8, .int .i64 4, .int .i64 21] 3) = Y5 at *
        generalize Y4.heap.size = B5 at *
        clear HX4 HTB4
        refine wp_loop_rounds 4 ?_
        rw [rounds_succ]
        have ai : Y5.cell? ⟨B5, 0, none⟩ = some (.int .i64 8) := HR.out.at 0
        go_wp2_with fail
        refine Calls.mono (take_r3 HR.out.tb HSH.out p (by have := HP.out; omega) 8 (by decide)) ?_
        rintro e U101 ⟨v, rfl, ⟨cc105, rfl, hcc⟩, hb⟩
        have HR103 : Hid _ := HR.out.go hb
        have HC : Hid _ := hcc
        clear hcc hb HR ai
        go_wp2_with fail
        refine Calls.mono (closes_c cc105 5 8 32 _ HC.out (HR103.out.lw.eh HE.out)) ?_
        rintro e U102 ⟨rfl, hb⟩
        have HR104 : Hid _ := HR103.out.go hb
        clear hb HC HR103
        go_wp2_with fail
        refine Calls.mono (take_r1 HR104.out.tb HSH.out p (by have := HP.out; omega) 8 (by decide)) ?_
        rintro e U106 ⟨v, rfl, ⟨cc110, rfl, hcc⟩, hb⟩
        have HR108 : Hid _ := HR104.out.go hb
        have HC : Hid _ := hcc
        clear hcc hb HR104
        go_wp2_with fail
        refine Calls.mono (closes_c cc110 5 8 32 _ HC.out (HR108.out.lw.eh HE.out)) ?_
        rintro e U107 ⟨rfl, hb⟩
        have HR109 : Hid _ := HR108.out.go hb
        clear hb HC HR108
        go_wp2_with fail
        rw [rounds_succ]
        have ai : U107.cell? ⟨B5, 1, none⟩ = some (.int .i64 4) := HR109.out.at 1
        go_wp2_with fail
        refine Calls.mono (take_r3 HR109.out.tb HSH.out p (by have := HP.out; omega) 4 (by decide)) ?_
        rintro e U111 ⟨v, rfl, ⟨cc115, rfl, hcc⟩, hb⟩
        have HR113 : Hid _ := HR109.out.go hb
        have HC : Hid _ := hcc
        clear hcc hb HR109 ai
        go_wp2_with fail
        refine Calls.mono (closes_c cc115 5 4 32 _ HC.out (HR113.out.lw.eh HE.out)) ?_
        rintro e U112 ⟨rfl, hb⟩
        have HR114 : Hid _ := HR113.out.go hb
        clear hb HC HR113
        go_wp2_with fail
        refine Calls.mono (take_r1 HR114.out.tb HSH.out p (by have := HP.out; omega) 4 (by decide)) ?_
        rintro e U116 ⟨v, rfl, ⟨cc120, rfl, hcc⟩, hb⟩
        have HR118 : Hid _ := HR114.out.go hb
        have HC : Hid _ := hcc
        clear hcc hb HR114
        go_wp2_with fail
        refine Calls.mono (closes_c cc120 5 4 32 _ HC.out (HR118.out.lw.eh HE.out)) ?_
        rintro e U117 ⟨rfl, hb⟩
        have HR119 : Hid _ := HR118.out.go hb
        clear hb HC HR118
        go_wp2_with fail
        rw [rounds_succ]
        have ai : U117.cell? ⟨B5, 2, none⟩ = some (.int .i64 21) := HR119.out.at 2
        go_wp2_with fail
        refine Calls.mono (take_r3 HR119.out.tb HSH.out p (by have := HP.out; omega) 21 (by decide)) ?_
        rintro e U121 ⟨v, rfl, ⟨cc125, rfl, hcc⟩, hb⟩
        have HR123 : Hid _ := HR119.out.go hb
        have HC : Hid _ := hcc
        clear hcc hb HR119 ai
        go_wp2_with fail
        refine Calls.mono (closes_c cc125 5 21 32 _ HC.out (HR123.out.lw.eh HE.out)) ?_
        rintro e U122 ⟨rfl, hb⟩
        have HR124 : Hid _ := HR123.out.go hb
        clear hb HC HR123
        go_wp2_with fail
        refine Calls.mono (take_r1 HR124.out.tb HSH.out p (by have := HP.out; omega) 21 (by decide)) ?_
        rintro e U126 ⟨v, rfl, ⟨cc130, rfl, hcc⟩, hb⟩
        have HR128 : Hid _ := HR124.out.go hb
        have HC : Hid _ := hcc
        clear hcc hb HR124
        go_wp2_with fail
        refine Calls.mono (closes_c cc130 5 21 32 _ HC.out (HR128.out.lw.eh HE.out)) ?_
        rintro e U127 ⟨rfl, hb⟩
        have HR129 : Hid _ := HR128.out.go hb
        clear hb HC HR128
        go_wp2_with fail
        rw [rounds_succ]
        have HS2 : Hid (Rq c s z w LB y1 k1 st1 U127.heap.size #[.int .i64 5, .int .i64 17] (U127.alloc (.cells #[.int .i64 5, .int .i64 17] 3))) := ⟨HR129.out.lw.go (bel1 _ _), HR129.out.tb.go (bel1 _ _), heap_alloc_new _ _⟩
        go_wp2_with fail
        generalize U127.alloc (.cells #[.int .i64 5, .int .i64 17] 3) = Y6 at *
        generalize U127.heap.size = B6 at *
        clear HR129
        refine wp_loop_rounds 3 ?_
        rw [rounds_succ]
        have ai : Y6.cell? ⟨B6, 0, none⟩ = some (.int .i64 5) := HS2.out.at 0
        go_wp2_with fail
        refine Calls.mono (take_w2 HS2.out.tb HSH.out p (by have := HP.out; omega) 5 (by decide)) ?_
        rintro e U131 ⟨v, rfl, ⟨cc135, rfl, hcc⟩, hb⟩
        have HR133 : Hid _ := HS2.out.go hb
        have HC : Hid _ := hcc
        clear hcc hb HS2 ai
        go_wp2_with fail
        refine Calls.mono (closes_c cc135 5 5 32 _ HC.out (HR133.out.lw.eh HE.out)) ?_
        rintro e U132 ⟨rfl, hb⟩
        have HR134 : Hid _ := HR133.out.go hb
        clear hb HC HR133
        go_wp2_with fail
        refine Calls.mono (take_w3 HR134.out.tb HSH.out p (by have := HP.out; omega) 5 (by decide)) ?_
        rintro e U136 ⟨v, rfl, ⟨cc140, rfl, hcc⟩, hb⟩
        have HR138 : Hid _ := HR134.out.go hb
        have HC : Hid _ := hcc
        clear hcc hb HR134
        go_wp2_with fail
        refine Calls.mono (closes_c cc140 5 5 32 _ HC.out (HR138.out.lw.eh HE.out)) ?_
        rintro e U137 ⟨rfl, hb⟩
        have HR139 : Hid _ := HR138.out.go hb
        clear hb HC HR138
        go_wp2_with fail
        rw [rounds_succ]
        have ai : U137.cell? ⟨B6, 1, none⟩ = some (.int .i64 17) := HR139.out.at 1
        go_wp2_with fail
        refine Calls.mono (take_w2 HR139.out.tb HSH.out p (by have := HP.out; omega) 17 (by decide)) ?_
        rintro e U141 ⟨v, rfl, ⟨cc145, rfl, hcc⟩, hb⟩
        have HR143 : Hid _ := HR139.out.go hb
        have HC : Hid _ := hcc
        clear hcc hb HR139 ai
        go_wp2_with fail
        refine Calls.mono (closes_c cc145 5 17 32 _ HC.out (HR143.out.lw.eh HE.out)) ?_
        rintro e U142 ⟨rfl, hb⟩
        have HR144 : Hid _ := HR143.out.go hb
        clear hb HC HR143
        go_wp2_with fail
        refine Calls.mono (take_w3 HR144.out.tb HSH.out p (by have := HP.out; omega) 17 (by decide)) ?_
        rintro e U146 ⟨v, rfl, ⟨cc150, rfl, hcc⟩, hb⟩
        have HR148 : Hid _ := HR144.out.go hb
        have HC : Hid _ := hcc
        clear hcc hb HR144
        go_wp2_with fail
        refine Calls.mono (closes_c cc150 5 17 32 _ HC.out (HR148.out.lw.eh HE.out)) ?_
        rintro e U147 ⟨rfl, hb⟩
        have HR149 : Hid _ := HR148.out.go hb
        clear hb HC HR148
        go_wp2_with fail
        rw [rounds_succ]
        have HX6 : Hid _ := HR149.out.lw
        clear HR149
        go_upto_region 28 with fail
        have HD7 : Hid _ := HX6.out.go (bel_drew U147)
        refine wp_region_held_drew (S := fun X => Lw c s z w LB X) (by kernel_rfl) HD7.out (fun hHeld => ?_)
        generalize U147.drew = Y7 at *
        clear HX6
        refine wpAnyH_take (i := 0) (v := .agg z.v.toArray) rfl (by kernel_rfl) (by kernel_rfl) (by kernel_rfl) (fun _ _ _ h => h) (yieldsIf_load_mid rfl 23 (.tmp 7) rfl (LB) 0 rfl z.v _ (fun X hX => rng23 (Lw.lm hX)) u23 rfl i23) hHeld ?_
        refine norm_any' (fun K hK => ?_); go_simp; refine hK _ _ ?_; clear hK K
        refine wpAnyH_take (i := 1) (v := .pointer (some ⟨w.heap.size, 0, none⟩)) rfl (by kernel_rfl) (by kernel_rfl) (by kernel_rfl) (fun _ _ _ h => h) (Or.inl ⟨by rfl, by intro w hs; go_simp⟩) hHeld ?_
        refine norm_any' (fun K hK => ?_); go_simp; refine hK _ _ ?_; clear hK K
        refine wpAnyH_take (i := 2) (v := .agg c.v.toArray) rfl (by kernel_rfl) (by kernel_rfl) (by kernel_rfl) (fun _ _ _ h => h) (yieldsIf_load_mid rfl 23 (.tmp 132) rfl (w.heap.size) 0 rfl c.v _ (fun X hX => Lw.b0 hX) u23 rfl i23) hHeld ?_
        refine norm_any' (fun K hK => ?_); go_simp; refine hK _ _ ?_; clear hK K
        refine wpAnyH_ready (rs := [3]) (by kernel_rfl) (by simp) (AllReadyH.cons rfl (fun K hK => ?_) AllReadyH.nil)
        go_simp
        refine Calls.mono (small_c c _) ?_
        rintro e Y7a ⟨y7, rfl, hy7, hb7⟩
        have HY7 : Hid _ := hy7
        have HA7 : Hid _ := HD7.out.go hb7
        clear hb7 hy7 HD7
        refine hK.out _ _ HA7.out (fun hHeld => ?_)
        clear hK K
        refine norm_any' (fun K hK => ?_); go_simp; refine hK _ _ ?_; clear hK K
        refine wpAnyH_ready (rs := [4]) (by kernel_rfl) (by simp) (AllReadyH.cons rfl (fun K hK => ?_) AllReadyH.nil)
        go_simp
        refine Calls.mono (tnew_p true z y7 _ HZ.out HY7.out) ?_
        rintro e Y7b ⟨k7, rfl, htb, hsb, hnb, hlo, hb⟩
        have HX7 : Hid _ := HA7.out.go hb
        have HTB7 : Hid (Tb true z y7 k7 (Tst.begin z y7) Y7b ∧ Y7b.heap[k7.sb]? = some (.map #[] 0) ∧ Y7b.heap[k7.nb]? = some (.map #[] 0)) := ⟨htb, hsb, hnb⟩
        have HLO7 : Hid (w.heap.size < Y7a.heap.size ∧ LB < Y7a.heap.size ∧ ∀ b ∈ k7.l, Y7a.heap.size ≤ b) := ⟨(Array.getElem?_eq_some_iff.1 HA7.out.bx).1, (Array.getElem?_eq_some_iff.1 HA7.out.lm).1, hlo⟩
        clear htb hsb hnb hlo hb HA7
        refine hK.out _ _ HX7.out (fun hHeld => ?_)
        clear hK K
        refine norm_any' (fun K hK => ?_); go_simp; refine hK _ _ ?_; clear hK K
        refine wpAnyH_take (i := 5) (v := .tuple #[.pointer (some ⟨k7.T, 0, none⟩), .int .i64 0]) rfl (by kernel_rfl) (by kernel_rfl) (by kernel_rfl) (fun _ _ _ h => h) (Or.inl ⟨by rfl, by intro w hs; go_simp⟩) hHeld ?_
        refine norm_any' (fun K hK => ?_); go_simp; refine hK _ _ ?_; clear hK K
        refine wpAnyH_take (i := 6) (v := .pointer (some ⟨k7.T, 0, none⟩)) rfl (by kernel_rfl) (by kernel_rfl) (by kernel_rfl) (fun _ _ _ h => h) (Or.inl ⟨by rfl, by intro w hs; go_simp⟩) hHeld ?_
        refine norm_any' (fun K hK => ?_); go_simp; refine hK _ _ ?_; clear hK K
        refine wpAnyH_take (i := 7) (v := .int .i64 0) rfl (by kernel_rfl) (by kernel_rfl) (by kernel_rfl) (fun _ _ _ h => h) (Or.inl ⟨by rfl, by intro w hs; go_simp⟩) hHeld ?_
        refine norm_any' (fun K hK => ?_); go_simp; refine hK _ _ ?_; clear hK K
        refine wpAnyH_take (i := 8) (v := .pointer (some ⟨k7.T, 0, none⟩)) rfl (by kernel_rfl) (by kernel_rfl) (by kernel_rfl) (fun _ _ _ h => h) (Or.inl ⟨by rfl, by intro w hs; go_simp⟩) hHeld ?_
        refine norm_any' (fun K hK => ?_); go_simp; refine hK _ _ ?_; clear hK K
        refine wpAnyH_take (i := 9) (v := .int .i64 0) rfl (by kernel_rfl) (by kernel_rfl) (by kernel_rfl) (fun _ _ _ h => h) (Or.inl ⟨by rfl, by intro w hs; go_simp⟩) hHeld ?_
        refine norm_any' (fun K hK => ?_); go_simp; refine hK _ _ ?_; clear hK K
        refine wpAnyH_done (by kernel_rfl) ?_ _
        have hq := eq_nil
        have hcv := cv_one
        have HX8 : Hid _ := HX7.out.go (bel1 Y7b (.cells #[.int .u8 97] 5 (1, 2)))
        have HTK : Hid _ := take_first (n := 1) (cap := 1) (HTB7.out.1.go (bel1 Y7b (.cells #[.int .u8 97] 5 (1, 2)))) HZ.out HY7.out (heap_bel HTB7.out.2.1 (bel1 _ _)) (heap_bel HTB7.out.2.2 (bel1 _ _)) (HX8.out.ti HT.out) 0 true (by have := HZ.out.2.2.2.2.2.1; show ((0 : Nat) : Int) < z.s; omega) _ true [97] rfl (sl_97 Y7b) (Nat.le_refl _) (by omega) (by have := HZ.out.1.1; omega) (by have := HZ.out.2.2.2.1.1; show ((1 : Nat) : Int) ≤ z.u; omega)
        have e2 : sid 0 false true = 2 := by simp [sid]
        rw [e2] at HTK
        go_wp2_with fail
        generalize Y7b.alloc (.cells #[.int .u8 97] 5 (1, 2)) = Y8 at *
        generalize Y7b.heap.size = B8 at *
        refine Calls.mono HTK.out ?_
        rintro e Y9 ⟨rfl, st2, S2, cs2, F2, m2, ib2, mb2, nn2, V2, E2, hd2, win2, haf, hch⟩
        have HR9 : Hid (Rs c s z w LB y7 k7 st2 S2 cs2 F2 m2 ib2 mb2 nn2 V2 E2 hd2 win2 Y9) := ⟨HX8.out.chg hch HLO7.out.2.1 HLO7.out.1 HLO7.out.2.2, haf⟩
        clear haf hch HX8 HTK HX7 HTB7 e2
        have HR10 : Hid _ := HR9.out.go (bel1 Y9 (.cells #[.int .u8 98] 5 (1, 2)))
        go_wp2_with fail
        generalize Y9.alloc (.cells #[.int .u8 98] 5 (1, 2)) = Y10 at *
        refine Calls.mono (take_behind HR10.out.af HZ.out _ _) ?_
        rintro e Y11 ⟨v, rfl, ⟨c11, rfl, hcc⟩, hb⟩
        have HR11 : Hid _ := HR10.out.go hb
        have HC : Hid _ := hcc
        clear hcc hb HR10 HR9
        go_wp2_with fail
        refine Calls.mono (closes_c c11 6 8 33 _ HC.out (HR11.out.lw.eh HE.out)) ?_
        rintro e Y12 ⟨rfl, hb⟩
        have HR12 : Hid _ := HR11.out.go hb
        clear hb HC HR11
        go_wp2_with fail
        refine Calls.mono (take_short HR12.out.af HZ.out) ?_
        rintro e Y13 ⟨v, rfl, ⟨c13, rfl, hcc⟩, hb⟩
        have HR13 : Hid _ := HR12.out.go hb
        have HC : Hid _ := hcc
        clear hcc hb HR12
        go_wp2_with fail
        refine Calls.mono (closes_c c13 6 4 33 _ HC.out (HR13.out.lw.eh HE.out)) ?_
        rintro e Y14 ⟨rfl, hb⟩
        have HR14 : Hid _ := HR13.out.go hb
        clear hb HC HR13
        go_wp2_with fail
        refine Calls.mono (take_p1 HR14.out.af.tb) ?_
        rintro e Y15 ⟨rfl, hb⟩
        have HR15 : Hid _ := HR14.out.go hb
        clear hb HR14
        go_wp2_with fail
        refine Calls.mono (is_same 12 Y15) ?_
        rintro e Y15' ⟨rfl, hw⟩
        subst Y15'
        go_wp2_with fail
        refine Calls.mono (take_p20 HR15.out.af.tb) ?_
        rintro e Y16 ⟨rfl, hb⟩
        have HB16 : Hid _ := (HR15.out.go hb).lw.bel
        have hq2 := eq_nil2
        clear hb HR15
        go_wp2
        go_ret
        exact ⟨rfl, HB16.out⟩
      · as_aux_lemma =>
        have HTK : Hid _ := (by
          have h := take_first (HTB1.out.1.go HB2.out) HZ.out HY1.out (heap_bel HTB1.out.2.1 HB2.out) (heap_bel HTB1.out.2.2 HB2.out) ((HX1.out.go HB2.out).ti HT.out) p false hp4 n n (some ⟨Y1b.heap.size, 0, none⟩) false (List.replicate n 0) (by simp) HSL.out (Nat.le_refl _) (by have := HP.out; omega) (by omega) (by show (n : Int) ≤ z.r; omega)
          rw [HES.out] at h
          exact h)
        have HX2 : Hid _ := HX1.out.go HB2.out
        have hq := eq_nil
        go_upto_region 7 with fail
        go_wp2_with fail
        refine Calls.mono HTK.out ?_
        rintro e Y4 ⟨rfl, st1, S1, cs1, F1, m1, ib1, mb1, nn1, V1, E1, hd1, win1, haf, hch⟩
        have HX4 : Hid _ := HX2.out.chg hch HLO1.out.2.1 HLO1.out.1 HLO1.out.2.2
        have HTB4 : Hid _ := haf.tb
        have HSH : Hid _ := haf.sh
        obtain ⟨la, lb, lc⟩ := HX4.out.lims
        clear haf hch HTK HX2 HX1 HTB1 HSL HB2 hmk
        have HR : Hid (Rq c s z w LB y1 k1 st1 Y4.heap.size #[.int .i64 8, .int .i64 4, .int .i64 21] (Y4.alloc (.cells #[.int .i64 8, .int .i64 4, .int .i64 21] 3))) := ⟨HX4.out.go (bel1 _ _), HTB4.out.go (bel1 _ _), heap_alloc_new _ _⟩
        go_wp2_with fail
        generalize Y4.alloc (.cells #[.int .i64 8, .int .i64 4, .int .i64 21] 3) = Y5 at *
        generalize Y4.heap.size = B5 at *
        clear HX4 HTB4
        refine wp_loop_rounds 4 ?_
        rw [rounds_succ]
        have ai : Y5.cell? ⟨B5, 0, none⟩ = some (.int .i64 8) := HR.out.at 0
        go_wp2_with fail
        refine Calls.mono (take_r3 HR.out.tb HSH.out p (by have := HP.out; omega) 8 (by decide)) ?_
        rintro e U151 ⟨v, rfl, ⟨cc155, rfl, hcc⟩, hb⟩
        have HR153 : Hid _ := HR.out.go hb
        have HC : Hid _ := hcc
        clear hcc hb HR ai
        go_wp2_with fail
        refine Calls.mono (closes_c cc155 5 8 32 _ HC.out (HR153.out.lw.eh HE.out)) ?_
        rintro e U152 ⟨rfl, hb⟩
        have HR154 : Hid _ := HR153.out.go hb
        clear hb HC HR153
        go_wp2_with fail
        refine Calls.mono (take_r1 HR154.out.tb HSH.out p (by have := HP.out; omega) 8 (by decide)) ?_
        rintro e U156 ⟨v, rfl, ⟨cc160, rfl, hcc⟩, hb⟩
        have HR158 : Hid _ := HR154.out.go hb
        have HC : Hid _ := hcc
        clear hcc hb HR154
        go_wp2_with fail
        refine Calls.mono (closes_c cc160 5 8 32 _ HC.out (HR158.out.lw.eh HE.out)) ?_
        rintro e U157 ⟨rfl, hb⟩
        have HR159 : Hid _ := HR158.out.go hb
        clear hb HC HR158
        go_wp2_with fail
        rw [rounds_succ]
        have ai : U157.cell? ⟨B5, 1, none⟩ = some (.int .i64 4) := HR159.out.at 1
        go_wp2_with fail
        refine Calls.mono (take_r3 HR159.out.tb HSH.out p (by have := HP.out; omega) 4 (by decide)) ?_
        rintro e U161 ⟨v, rfl, ⟨cc165, rfl, hcc⟩, hb⟩
        have HR163 : Hid _ := HR159.out.go hb
        have HC : Hid _ := hcc
        clear hcc hb HR159 ai
        go_wp2_with fail
        refine Calls.mono (closes_c cc165 5 4 32 _ HC.out (HR163.out.lw.eh HE.out)) ?_
        rintro e U162 ⟨rfl, hb⟩
        have HR164 : Hid _ := HR163.out.go hb
        clear hb HC HR163
        go_wp2_with fail
        refine Calls.mono (take_r1 HR164.out.tb HSH.out p (by have := HP.out; omega) 4 (by decide)) ?_
        rintro e U166 ⟨v, rfl, ⟨cc170, rfl, hcc⟩, hb⟩
        have HR168 : Hid _ := HR164.out.go hb
        have HC : Hid _ := hcc
        clear hcc hb HR164
        go_wp2_with fail
        refine Calls.mono (closes_c cc170 5 4 32 _ HC.out (HR168.out.lw.eh HE.out)) ?_
        rintro e U167 ⟨rfl, hb⟩
        have HR169 : Hid _ := HR168.out.go hb
        clear hb HC HR168
        go_wp2_with fail
        rw [rounds_succ]
        have ai : U167.cell? ⟨B5, 2, none⟩ = some (.int .i64 21) := HR169.out.at 2
        go_wp2_with fail
        refine Calls.mono (take_r3 HR169.out.tb HSH.out p (by have := HP.out; omega) 21 (by decide)) ?_
        rintro e U171 ⟨v, rfl, ⟨cc175, rfl, hcc⟩, hb⟩
        have HR173 : Hid _ := HR169.out.go hb
        have HC : Hid _ := hcc
        clear hcc hb HR169 ai
        go_wp2_with fail
        refine Calls.mono (closes_c cc175 5 21 32 _ HC.out (HR173.out.lw.eh HE.out)) ?_
        rintro e U172 ⟨rfl, hb⟩
        have HR174 : Hid _ := HR173.out.go hb
        clear hb HC HR173
        go_wp2_with fail
        refine Calls.mono (take_r1 HR174.out.tb HSH.out p (by have := HP.out; omega) 21 (by decide)) ?_
        rintro e U176 ⟨v, rfl, ⟨cc180, rfl, hcc⟩, hb⟩
        have HR178 : Hid _ := HR174.out.go hb
        have HC : Hid _ := hcc
        clear hcc hb HR174
        go_wp2_with fail
        refine Calls.mono (closes_c cc180 5 21 32 _ HC.out (HR178.out.lw.eh HE.out)) ?_
        rintro e U177 ⟨rfl, hb⟩
        have HR179 : Hid _ := HR178.out.go hb
        clear hb HC HR178
        go_wp2_with fail
        rw [rounds_succ]
        have HS2 : Hid (Rq c s z w LB y1 k1 st1 U177.heap.size #[.int .i64 5, .int .i64 17] (U177.alloc (.cells #[.int .i64 5, .int .i64 17] 3))) := ⟨HR179.out.lw.go (bel1 _ _), HR179.out.tb.go (bel1 _ _), heap_alloc_new _ _⟩
        go_wp2_with fail
        generalize U177.alloc (.cells #[.int .i64 5, .int .i64 17] 3) = Y6 at *
        generalize U177.heap.size = B6 at *
        clear HR179
        refine wp_loop_rounds 3 ?_
        rw [rounds_succ]
        have ai : Y6.cell? ⟨B6, 0, none⟩ = some (.int .i64 5) := HS2.out.at 0
        go_wp2_with fail
        refine Calls.mono (take_w2 HS2.out.tb HSH.out p (by have := HP.out; omega) 5 (by decide)) ?_
        rintro e U181 ⟨v, rfl, ⟨cc185, rfl, hcc⟩, hb⟩
        have HR183 : Hid _ := HS2.out.go hb
        have HC : Hid _ := hcc
        clear hcc hb HS2 ai
        go_wp2_with fail
        refine Calls.mono (closes_c cc185 5 5 32 _ HC.out (HR183.out.lw.eh HE.out)) ?_
        rintro e U182 ⟨rfl, hb⟩
        have HR184 : Hid _ := HR183.out.go hb
        clear hb HC HR183
        go_wp2_with fail
        refine Calls.mono (take_w3 HR184.out.tb HSH.out p (by have := HP.out; omega) 5 (by decide)) ?_
        rintro e U186 ⟨v, rfl, ⟨cc190, rfl, hcc⟩, hb⟩
        have HR188 : Hid _ := HR184.out.go hb
        have HC : Hid _ := hcc
        clear hcc hb HR184
        go_wp2_with fail
        refine Calls.mono (closes_c cc190 5 5 32 _ HC.out (HR188.out.lw.eh HE.out)) ?_
        rintro e U187 ⟨rfl, hb⟩
        have HR189 : Hid _ := HR188.out.go hb
        clear hb HC HR188
        go_wp2_with fail
        rw [rounds_succ]
        have ai : U187.cell? ⟨B6, 1, none⟩ = some (.int .i64 17) := HR189.out.at 1
        go_wp2_with fail
        refine Calls.mono (take_w2 HR189.out.tb HSH.out p (by have := HP.out; omega) 17 (by decide)) ?_
        rintro e U191 ⟨v, rfl, ⟨cc195, rfl, hcc⟩, hb⟩
        have HR193 : Hid _ := HR189.out.go hb
        have HC : Hid _ := hcc
        clear hcc hb HR189 ai
        go_wp2_with fail
        refine Calls.mono (closes_c cc195 5 17 32 _ HC.out (HR193.out.lw.eh HE.out)) ?_
        rintro e U192 ⟨rfl, hb⟩
        have HR194 : Hid _ := HR193.out.go hb
        clear hb HC HR193
        go_wp2_with fail
        refine Calls.mono (take_w3 HR194.out.tb HSH.out p (by have := HP.out; omega) 17 (by decide)) ?_
        rintro e U196 ⟨v, rfl, ⟨cc200, rfl, hcc⟩, hb⟩
        have HR198 : Hid _ := HR194.out.go hb
        have HC : Hid _ := hcc
        clear hcc hb HR194
        go_wp2_with fail
        refine Calls.mono (closes_c cc200 5 17 32 _ HC.out (HR198.out.lw.eh HE.out)) ?_
        rintro e U197 ⟨rfl, hb⟩
        have HR199 : Hid _ := HR198.out.go hb
        clear hb HC HR198
        go_wp2_with fail
        rw [rounds_succ]
        have HX6 : Hid _ := HR199.out.lw
        clear HR199
        go_upto_region 28 with fail
        have HD7 : Hid _ := HX6.out.go (bel_drew U197)
        refine wp_region_held_drew (S := fun X => Lw c s z w LB X) (by kernel_rfl) HD7.out (fun hHeld => ?_)
        generalize U197.drew = Y7 at *
        clear HX6
        refine wpAnyH_take (i := 0) (v := .agg z.v.toArray) rfl (by kernel_rfl) (by kernel_rfl) (by kernel_rfl) (fun _ _ _ h => h) (yieldsIf_load_mid rfl 23 (.tmp 7) rfl (LB) 0 rfl z.v _ (fun X hX => rng23 (Lw.lm hX)) u23 rfl i23) hHeld ?_
        refine norm_any' (fun K hK => ?_); go_simp; refine hK _ _ ?_; clear hK K
        refine wpAnyH_take (i := 1) (v := .pointer (some ⟨w.heap.size, 0, none⟩)) rfl (by kernel_rfl) (by kernel_rfl) (by kernel_rfl) (fun _ _ _ h => h) (Or.inl ⟨by rfl, by intro w hs; go_simp⟩) hHeld ?_
        refine norm_any' (fun K hK => ?_); go_simp; refine hK _ _ ?_; clear hK K
        refine wpAnyH_take (i := 2) (v := .agg c.v.toArray) rfl (by kernel_rfl) (by kernel_rfl) (by kernel_rfl) (fun _ _ _ h => h) (yieldsIf_load_mid rfl 23 (.tmp 132) rfl (w.heap.size) 0 rfl c.v _ (fun X hX => Lw.b0 hX) u23 rfl i23) hHeld ?_
        refine norm_any' (fun K hK => ?_); go_simp; refine hK _ _ ?_; clear hK K
        refine wpAnyH_ready (rs := [3]) (by kernel_rfl) (by simp) (AllReadyH.cons rfl (fun K hK => ?_) AllReadyH.nil)
        go_simp
        refine Calls.mono (small_c c _) ?_
        rintro e Y7a ⟨y7, rfl, hy7, hb7⟩
        have HY7 : Hid _ := hy7
        have HA7 : Hid _ := HD7.out.go hb7
        clear hb7 hy7 HD7
        refine hK.out _ _ HA7.out (fun hHeld => ?_)
        clear hK K
        refine norm_any' (fun K hK => ?_); go_simp; refine hK _ _ ?_; clear hK K
        refine wpAnyH_ready (rs := [4]) (by kernel_rfl) (by simp) (AllReadyH.cons rfl (fun K hK => ?_) AllReadyH.nil)
        go_simp
        refine Calls.mono (tnew_p true z y7 _ HZ.out HY7.out) ?_
        rintro e Y7b ⟨k7, rfl, htb, hsb, hnb, hlo, hb⟩
        have HX7 : Hid _ := HA7.out.go hb
        have HTB7 : Hid (Tb true z y7 k7 (Tst.begin z y7) Y7b ∧ Y7b.heap[k7.sb]? = some (.map #[] 0) ∧ Y7b.heap[k7.nb]? = some (.map #[] 0)) := ⟨htb, hsb, hnb⟩
        have HLO7 : Hid (w.heap.size < Y7a.heap.size ∧ LB < Y7a.heap.size ∧ ∀ b ∈ k7.l, Y7a.heap.size ≤ b) := ⟨(Array.getElem?_eq_some_iff.1 HA7.out.bx).1, (Array.getElem?_eq_some_iff.1 HA7.out.lm).1, hlo⟩
        clear htb hsb hnb hlo hb HA7
        refine hK.out _ _ HX7.out (fun hHeld => ?_)
        clear hK K
        refine norm_any' (fun K hK => ?_); go_simp; refine hK _ _ ?_; clear hK K
        refine wpAnyH_take (i := 5) (v := .tuple #[.pointer (some ⟨k7.T, 0, none⟩), .int .i64 0]) rfl (by kernel_rfl) (by kernel_rfl) (by kernel_rfl) (fun _ _ _ h => h) (Or.inl ⟨by rfl, by intro w hs; go_simp⟩) hHeld ?_
        refine norm_any' (fun K hK => ?_); go_simp; refine hK _ _ ?_; clear hK K
        refine wpAnyH_take (i := 6) (v := .pointer (some ⟨k7.T, 0, none⟩)) rfl (by kernel_rfl) (by kernel_rfl) (by kernel_rfl) (fun _ _ _ h => h) (Or.inl ⟨by rfl, by intro w hs; go_simp⟩) hHeld ?_
        refine norm_any' (fun K hK => ?_); go_simp; refine hK _ _ ?_; clear hK K
        refine wpAnyH_take (i := 7) (v := .int .i64 0) rfl (by kernel_rfl) (by kernel_rfl) (by kernel_rfl) (fun _ _ _ h => h) (Or.inl ⟨by rfl, by intro w hs; go_simp⟩) hHeld ?_
        refine norm_any' (fun K hK => ?_); go_simp; refine hK _ _ ?_; clear hK K
        refine wpAnyH_take (i := 8) (v := .pointer (some ⟨k7.T, 0, none⟩)) rfl (by kernel_rfl) (by kernel_rfl) (by kernel_rfl) (fun _ _ _ h => h) (Or.inl ⟨by rfl, by intro w hs; go_simp⟩) hHeld ?_
        refine norm_any' (fun K hK => ?_); go_simp; refine hK _ _ ?_; clear hK K
        refine wpAnyH_take (i := 9) (v := .int .i64 0) rfl (by kernel_rfl) (by kernel_rfl) (by kernel_rfl) (fun _ _ _ h => h) (Or.inl ⟨by rfl, by intro w hs; go_simp⟩) hHeld ?_
        refine norm_any' (fun K hK => ?_); go_simp; refine hK _ _ ?_; clear hK K
        refine wpAnyH_done (by kernel_rfl) ?_ _
        have hq := eq_nil
        have hcv := cv_one
        have HX8 : Hid _ := HX7.out.go (bel1 Y7b (.cells #[.int .u8 97] 5 (1, 2)))
        have HTK : Hid _ := take_first (n := 1) (cap := 1) (HTB7.out.1.go (bel1 Y7b (.cells #[.int .u8 97] 5 (1, 2)))) HZ.out HY7.out (heap_bel HTB7.out.2.1 (bel1 _ _)) (heap_bel HTB7.out.2.2 (bel1 _ _)) (HX8.out.ti HT.out) 0 true (by have := HZ.out.2.2.2.2.2.1; show ((0 : Nat) : Int) < z.s; omega) _ true [97] rfl (sl_97 Y7b) (Nat.le_refl _) (by omega) (by have := HZ.out.1.1; omega) (by have := HZ.out.2.2.2.1.1; show ((1 : Nat) : Int) ≤ z.u; omega)
        have e2 : sid 0 false true = 2 := by simp [sid]
        rw [e2] at HTK
        go_wp2_with fail
        generalize Y7b.alloc (.cells #[.int .u8 97] 5 (1, 2)) = Y8 at *
        generalize Y7b.heap.size = B8 at *
        refine Calls.mono HTK.out ?_
        rintro e Y9 ⟨rfl, st2, S2, cs2, F2, m2, ib2, mb2, nn2, V2, E2, hd2, win2, haf, hch⟩
        have HR9 : Hid (Rs c s z w LB y7 k7 st2 S2 cs2 F2 m2 ib2 mb2 nn2 V2 E2 hd2 win2 Y9) := ⟨HX8.out.chg hch HLO7.out.2.1 HLO7.out.1 HLO7.out.2.2, haf⟩
        clear haf hch HX8 HTK HX7 HTB7 e2
        have HR10 : Hid _ := HR9.out.go (bel1 Y9 (.cells #[.int .u8 98] 5 (1, 2)))
        go_wp2_with fail
        generalize Y9.alloc (.cells #[.int .u8 98] 5 (1, 2)) = Y10 at *
        refine Calls.mono (take_behind HR10.out.af HZ.out _ _) ?_
        rintro e Y11 ⟨v, rfl, ⟨c11, rfl, hcc⟩, hb⟩
        have HR11 : Hid _ := HR10.out.go hb
        have HC : Hid _ := hcc
        clear hcc hb HR10 HR9
        go_wp2_with fail
        refine Calls.mono (closes_c c11 6 8 33 _ HC.out (HR11.out.lw.eh HE.out)) ?_
        rintro e Y12 ⟨rfl, hb⟩
        have HR12 : Hid _ := HR11.out.go hb
        clear hb HC HR11
        go_wp2_with fail
        refine Calls.mono (take_short HR12.out.af HZ.out) ?_
        rintro e Y13 ⟨v, rfl, ⟨c13, rfl, hcc⟩, hb⟩
        have HR13 : Hid _ := HR12.out.go hb
        have HC : Hid _ := hcc
        clear hcc hb HR12
        go_wp2_with fail
        refine Calls.mono (closes_c c13 6 4 33 _ HC.out (HR13.out.lw.eh HE.out)) ?_
        rintro e Y14 ⟨rfl, hb⟩
        have HR14 : Hid _ := HR13.out.go hb
        clear hb HC HR13
        go_wp2_with fail
        refine Calls.mono (take_p1 HR14.out.af.tb) ?_
        rintro e Y15 ⟨rfl, hb⟩
        have HR15 : Hid _ := HR14.out.go hb
        clear hb HR14
        go_wp2_with fail
        refine Calls.mono (is_same 12 Y15) ?_
        rintro e Y15' ⟨rfl, hw⟩
        subst Y15'
        go_wp2_with fail
        refine Calls.mono (take_p20 HR15.out.af.tb) ?_
        rintro e Y16 ⟨rfl, hb⟩
        have HB16 : Hid _ := (HR15.out.go hb).lw.bel
        have hq2 := eq_nil2
        clear hb HR15
        go_wp2
        go_ret
        exact ⟨rfl, HB16.out⟩
end Go.Proofs.YtijndpjdmiljkaaGreatDoor
