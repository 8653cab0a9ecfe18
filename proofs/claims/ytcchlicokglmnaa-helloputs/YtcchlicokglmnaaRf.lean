/- The reference's short, and what it leaves alone. -/
import Derived.Test.YtcchlicokglmnaaRe
namespace Go.Proofs.Ytcchlicokglmnaa
open Go.ChangeShapes Go.WideShapes Go.ChangeAt Go.RowKit Go.Lib
set_option linter.unusedVariables false

section
variable {n : Nat} {w : World} {o : Option Addr} {c : Nat} {l : List UInt8}
/-- What short leaves, told block by block. -/
def Rx (n : Nat) (l : List UInt8) (v : Value) (w : World) (e : Ending) (w' : World) : Prop := Rp n l w e w' ∧ ∀ k, k < w.heap.size → some k ≠ v.ownBlock → w'.heap[k]? = w.heap[k]?
set_option maxRecDepth 10000 in
theorem rshort_x (h : By n w (.slice o l.length c) l) (hn : n ≤ w.heap.size) (S : ByteArray) (hl : l.length + S.size ≤ 900000) : Calls Try.prog 33 #[.slice o l.length c, .string S] w (Rx n (l ++ [UInt8.ofNat S.size] ++ S.data.toList) (.slice o l.length c) w) := by
  obtain ⟨i0, hi, hz0, hz1, hz2⟩ := info_parts info5
  have hw : IntKind.u8.wrap (S.size : Int) = ((UInt8.ofNat S.size).toNat : Int) := by rw [IntKind.wrap_u8, UInt8.toNat_ofNat']; omega
  obtain ⟨x, hx⟩ : ∃ x, x = IntKind.u8.wrap (S.size : Int) := ⟨_, rfl⟩
  have hb := bl1 w (.cells #[.int .u8 x] 5)
  have hs1 := sl1 w x _ (hx.trans hw)
  obtain ⟨v1, X1, r1, b1, g1, _, ob1⟩ := run_append_own_at (P := Try.prog) (w.alloc (.cells #[.int .u8 x] 5)) n 25 25 5 i0 (.int .u8 0) 1 1 Try.underlying25 hi hz0 hz1 hz2 rfl (by decide) _ _ _ (h.below hb) ⟨w.heap.size, 0, none⟩ 1 1 (bc [UInt8.ofNat S.size]) (by simp [bc]) (Sl_cells hs1) (bc_one _) (by unfold maxLen; omega) (by omega) (Nat.le_trans hn hb.size)
  have hown1 := b1
  obtain ⟨o1, c1, rfl⟩ := own_val b1
  obtain ⟨v2, X2, r2, b2, g2, _⟩ := run_append_own_string (P := Try.prog) X1 n 25 9 25 5 i0 Try.underlying25 u9 hi hz0 hz1 hz2 _ _ _ b1 S (by unfold maxLen; omega) (by omega) (Nat.le_trans hn (Nat.le_trans hb.size g1.size))
  obtain ⟨o2, c2, rfl⟩ := own_val b2
  have e2 : (l ++ [UInt8.ofNat S.size] ++ S.data.toList).length = l.length + 1 + S.size := by simp only [List.length_append]; rfl
  have HF : Hid (Rx n (l ++ [UInt8.ofNat S.size] ++ S.data.toList) (.slice o l.length c) w (.returned (.slice o2 (l.length + 1 + S.size) c2)) X2) := by
    refine ⟨⟨o2, c2, by rw [e2], ?_, ((Gq.of_below hb).trans (Gq.of_grown (h.below hb) g1)).trans (Gq.of_grown hown1 g2)⟩, fun k hk hne => ?_⟩
    · unfold By
      rw [e2, bc_append, bc_append]
      exact b2
    · have s0 : k < (w.alloc (.cells #[.int .u8 x] 5)).heap.size := by simp; omega
      have a1 := g1.block k s0 hne
      have a2 := g2.block k (Nat.lt_of_lt_of_le s0 g1.size) (by
        rcases ob1 with e | e
        · rw [e]; exact hne
        · rw [e]; intro h'; injection h' with h'; simp at h'; omega)
      rw [a2, a1, hb.block k hk]
  have R1 : Hid _ := r1
  have R2 : Hid _ := r2
  have hx' := hx.symm
  clear h r1 r2 b1 b2 g1 g2 hb hw hx ob1 hown1 hs1 e2
  generalize l ++ [UInt8.ofNat S.size] ++ S.data.toList = L2 at *
  go_enter Try.func33, Try.ntmps33
  go_wp2_with (refine appr rfl _ _ 25 25 rfl _ _ rfl rfl R1.out (Hid.out ?_))
  refine mkHid ?_
  go_wp2_with (refine appr rfl _ _ 25 9 rfl _ _ rfl rfl R2.out (Hid.out ?_))
  refine mkHid ?_
  go_wp2_with fail
  go_ret
  exact HF.out
theorem sl4 (W : World) (x : Int) (h0 : 0 ≤ x) (h1 : x ≤ 4294967295) : Sl (W.alloc (.cells #[.int .u8 (x / 16777216), .int .u8 (x / 65536 % 256), .int .u8 (x / 256 % 256), .int .u8 (x % 256)] 5)) (some ⟨W.heap.size, 0, none⟩) (be 4 (uN x)) := by
  obtain ⟨k, rfl⟩ := Int.eq_ofNat_of_zero_le h0
  have e : uN ((k : Nat) : Int) = k := uN_nat k (by omega)
  rw [e]
  refine Sl_own (heap_alloc_new W _) ?_
  simp only [be, bc, List.length_cons, List.length_nil, List.map_cons, List.map_nil, UInt8.toNat_ofNat']
  simp
  omega
end
end Go.Proofs.Ytcchlicokglmnaa
