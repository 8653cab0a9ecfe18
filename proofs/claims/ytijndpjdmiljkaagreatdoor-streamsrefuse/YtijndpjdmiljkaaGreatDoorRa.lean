/- streams: the law's small limits. -/
import Derived.Test.YtijndpjdmiljkaaGreatDoorSa
namespace Go.Proofs.YtijndpjdmiljkaaGreatDoor
open Go.RowKit
set_option linter.unusedVariables false

/-- Small limits. -/
def Lm.tiny (z : Lm) : Prop := (1 ≤ z.d ∧ z.d ≤ 256) ∧ (1 ≤ z.l ∧ z.l ≤ 64) ∧ (1 ≤ z.r ∧ z.r ≤ 64) ∧ (1 ≤ z.u ∧ z.u ≤ 64) ∧ (1 ≤ z.b ∧ z.b ≤ 4) ∧ (1 ≤ z.s ∧ z.s ≤ 4)
theorem Lm.tiny.own {z : Lm} (h : z.tiny) : z.le ownM = true := by
  obtain ⟨h1, h2, h3, h4, h5, h6⟩ := h
  have h (n m : Int) (h0 : 1 ≤ n) (h1 : n ≤ m) : isin n m = true := by simp only [isin, Bool.and_eq_true, decide_eq_true_eq]; omega
  simp only [Lm.le, Bool.and_eq_true]
  exact ⟨⟨⟨⟨⟨h _ _ h1.1 (Int.le_trans h1.2 (by decide)), h _ _ h2.1 (Int.le_trans h2.2 (by decide))⟩, h _ _ h3.1 (Int.le_trans h3.2 (by decide))⟩, h _ _ h4.1 (Int.le_trans h4.2 (by decide))⟩, h _ _ h5.1 (Int.le_trans h5.2 (by decide))⟩, h _ _ h6.1 (Int.le_trans h6.2 (by decide))⟩
theorem Lm.tiny.peer {z : Lm} (h : z.tiny) : z.le peerM = true := by
  obtain ⟨h1, h2, h3, h4, h5, h6⟩ := h
  have h (n m : Int) (h0 : 1 ≤ n) (h1 : n ≤ m) : isin n m = true := by simp only [isin, Bool.and_eq_true, decide_eq_true_eq]; omega
  simp only [Lm.le, Bool.and_eq_true]
  exact ⟨⟨⟨⟨⟨h _ _ h1.1 (Int.le_trans h1.2 (by decide)), h _ _ h2.1 (Int.le_trans h2.2 (by decide))⟩, h _ _ h3.1 (Int.le_trans h3.2 (by decide))⟩, h _ _ h4.1 (Int.le_trans h4.2 (by decide))⟩, h _ _ h5.1 (Int.le_trans h5.2 (by decide))⟩, h _ _ h6.1 (Int.le_trans h6.2 (by decide))⟩
set_option maxRecDepth 100000 in
theorem small_c (x : Lm) (w : World) : Calls Tryz.prog 23 #[.agg x.v.toArray] w fun e w' => ∃ z : Lm, e = .returned (.agg z.v.toArray) ∧ z.tiny ∧ Below w.heap.size w w' := by
  have d0 : 0 ≤ bits .and .i64 x.d 255 ∧ bits .and .i64 x.d 255 ≤ 255 := mask_i64 x.d 255 (by decide)
  obtain ⟨d1, d2⟩ : ∃ a, bits .and .i64 x.d 255 = a := ⟨_, rfl⟩
  rw [d2] at d0
  have d3 : IntKind.i64.wrap (1 + d1) = 1 + d1 := wrp _ (by omega) (by omega)
  have l0 : 0 ≤ bits .and .i64 x.l 63 ∧ bits .and .i64 x.l 63 ≤ 63 := mask_i64 x.l 63 (by decide)
  obtain ⟨l1, l2⟩ : ∃ a, bits .and .i64 x.l 63 = a := ⟨_, rfl⟩
  rw [l2] at l0
  have l3 : IntKind.i64.wrap (1 + l1) = 1 + l1 := wrp _ (by omega) (by omega)
  have r0 : 0 ≤ bits .and .i64 x.r 63 ∧ bits .and .i64 x.r 63 ≤ 63 := mask_i64 x.r 63 (by decide)
  obtain ⟨r1, r2⟩ : ∃ a, bits .and .i64 x.r 63 = a := ⟨_, rfl⟩
  rw [r2] at r0
  have r3 : IntKind.i64.wrap (1 + r1) = 1 + r1 := wrp _ (by omega) (by omega)
  have u0 : 0 ≤ bits .and .i64 x.u 63 ∧ bits .and .i64 x.u 63 ≤ 63 := mask_i64 x.u 63 (by decide)
  obtain ⟨u1, u2⟩ : ∃ a, bits .and .i64 x.u 63 = a := ⟨_, rfl⟩
  rw [u2] at u0
  have u3 : IntKind.i64.wrap (1 + u1) = 1 + u1 := wrp _ (by omega) (by omega)
  have b0 : 0 ≤ bits .and .i64 x.b 3 ∧ bits .and .i64 x.b 3 ≤ 3 := mask_i64 x.b 3 (by decide)
  obtain ⟨b1, b2⟩ : ∃ a, bits .and .i64 x.b 3 = a := ⟨_, rfl⟩
  rw [b2] at b0
  have b3 : IntKind.i64.wrap (1 + b1) = 1 + b1 := wrp _ (by omega) (by omega)
  have s0 : 0 ≤ bits .and .i64 x.s 3 ∧ bits .and .i64 x.s 3 ≤ 3 := mask_i64 x.s 3 (by decide)
  obtain ⟨s1, s2⟩ : ∃ a, bits .and .i64 x.s 3 = a := ⟨_, rfl⟩
  rw [s2] at s0
  have s3 : IntKind.i64.wrap (1 + s1) = 1 + s1 := wrp _ (by omega) (by omega)
  obtain ⟨W, hW, HB, ha, hb⟩ := two_lims x ⟨0, 0, 0, 0, 0, 0⟩ w
  have HT : Hid (Lm.tiny ⟨1 + d1, 1 + l1, 1 + r1, 1 + u1, 1 + b1, 1 + s1⟩) := by
    show Lm.tiny _
    simp only [Lm.tiny]
    omega
  clear d0 l0 r0 u0 b0 s0
  obtain ⟨a0, a1, a2, a3, a4, a5⟩ := lim_cells ha
  have HR : Hid _ := hb
  have HB' : Hid _ := HB
  have HZ : Hid (((w.alloc (.cells x.v.toArray 23)).alloc (.cells (Lm.v ⟨0, 0, 0, 0, 0, 0⟩).toArray 23)) = W) := hW
  clear ha hb HB hW
  go_enter Tryz.func23, Tryz.ntmps23
  go_upto_region 1 with fail
  have hz : (w.alloc (.cells x.v.toArray 23)).alloc (.cells #[.int .i64 0, .int .i64 0, .int .i64 0, .int .i64 0, .int .i64 0, .int .i64 0] 23) = W := HZ.out
  rw [hz]
  clear hz
  go_wp2_with (refine wpList_store_row rfl 23 (.tmp 2) (.tmp 27) rfl (w.heap.size + 1) (Lm.v ⟨1 + d1, 1 + l1, 1 + r1, 1 + u1, 1 + b1, 1 + s1⟩).toArray rfl rfl 23 _ HR.out i23 rfl (by kernel_rfl) ?_)
  have HS := setRow_heap _ (w.heap.size + 1) _ (Lm.v ⟨1 + d1, 1 + l1, 1 + r1, 1 + u1, 1 + b1, 1 + s1⟩).toArray 23 (0, 0) HR.out
  exact bodyPost_ret (v := .agg (Lm.v ⟨1 + d1, 1 + l1, 1 + r1, 1 + u1, 1 + b1, 1 + s1⟩).toArray) (results_cell_row (fn := Tryz.f23) (p := 2) rfl _ _ (w.heap.size + 1) 23 _ (0, 0) _ rfl HS u23 rfl i23) rfl ⟨_, rfl, HT.out, bel_set HB'.out (Nat.le_succ _) _⟩
end Go.Proofs.YtijndpjdmiljkaaGreatDoor
