/- vault: name, numbered. -/
import Derived.Test.YthdenbclfogojaaGreatDoorMc
namespace Go.Proofs.YthdenbclfogojaaGreatDoor
open Go.RowKit
set_option linter.unusedVariables false

theorem put_both {n : Nat} : putL (putL z16 0 (mixN (2 * n)) 8) 8 (mixN (2 * n + 1)) 8 = nameL n := by
  have e1 : putL z16 0 (mixN (2 * n)) 8 = be8 (mixN (2 * n)) ++ z16.drop 8 := by
    unfold putL
    rw [List.take_of_length_le (by rw [be8_len]; omega : (be8 (mixN (2 * n))).length ≤ 8)]
    simp
  unfold putL at *
  rw [e1, List.take_of_length_le (by rw [be8_len]; omega : (be8 (mixN (2 * n + 1))).length ≤ 8), List.take_left' (be8_len _), List.drop_eq_nil_of_le (by simp [be8_len, z16]), List.append_nil]
  rfl
theorem m2 (n : Nat) (h : n < 4611686018427387904) : IntKind.u64.wrap (n : Int) = (n : Int) ∧ IntKind.u64.wrap (2 * (n : Int)) = ((2 * n : Nat) : Int) ∧ IntKind.u64.wrap (((2 * n : Nat) : Int) + 1) = ((2 * n + 1 : Nat) : Int) := by
  rw [wrap_u64, wrap_u64, wrap_u64]; omega
set_option maxRecDepth 100000 in
set_option maxHeartbeats 1000000 in
theorem name_c (n : Nat) (hn : n < 4611686018427387904) (w : World) : Calls Tryz.prog 32 #[.int .i64 (n : Int)] w fun e w' => e = .returned (hv (nameL n)) ∧ Below w.heap.size w w' := by
  obtain ⟨b1, b3⟩ := box1 w z16
  obtain ⟨e1, e2, e3⟩ := m2 n hn
  have HM1 : Aside (∀ X, Calls Tryz.prog 51 #[.int .u64 ((2 * n : Nat) : Int)] X fun e w' => e = .returned (.int .u64 (mixN (2 * n) : Nat)) ∧ w' = X) := mix_c (2 * n)
  have HM2 : Aside (∀ X, Calls Tryz.prog 51 #[.int .u64 ((2 * n + 1 : Nat) : Int)] X fun e w' => e = .returned (.int .u64 (mixN (2 * n + 1) : Nat)) ∧ w' = X) := mix_c (2 * n + 1)
  obtain ⟨q1, hq1⟩ : ∃ q1 : Int, ((2 * n : Nat) : Int) = q1 := ⟨_, rfl⟩
  obtain ⟨q2, hq2⟩ : ∃ q2 : Int, ((2 * n + 1 : Nat) : Int) = q2 := ⟨_, rfl⟩
  rw [hq1] at e2 e3 HM1
  rw [hq2] at e3 HM2
  have HP : Aside _ := put_both (n := n)
  have l1 := mixN_lt (2 * n)
  have l2 := mixN_lt (2 * n + 1)
  obtain ⟨ni, hni⟩ : ∃ ni : Int, (n : Int) = ni := ⟨_, rfl⟩
  rw [hni] at e1 e2 ⊢
  clear hni hq1 hq2 hn
  generalize mixN (2 * n) = x1 at *
  generalize mixN (2 * n + 1) = x2 at *
  obtain ⟨H1, hH1⟩ : ∃ H1, putL z16 0 x1 8 = H1 := ⟨_, rfl⟩
  have lH : H1.length = 16 := by rw [← hH1]; exact putL_len rfl (by omega) (by omega)
  rw [hH1] at HP
  have HX1 : Aside (∀ X, X.heap[w.heap.size]? = some (.cells (hl z16).toArray 29 (0, 0)) → Calls Tryz.prog 50 #[.slice (some ⟨w.heap.size, 0, none⟩) 8 16, .int .u64 (x1 : Int)] X fun e w' => e = .returned (.tuple #[]) ∧ w'.heap[w.heap.size]? = some (.cells (hl H1).toArray 29 (0, 0)) ∧ Chg (fun j => j = w.heap.size) X w') := by
    intro X hX
    rw [← hH1]
    exact put0_c w.heap.size 16 x1 z16 rfl l1 X hX
  have HX2 : Aside (∀ X, X.heap[w.heap.size]? = some (.cells (hl H1).toArray 29 (0, 0)) → Calls Tryz.prog 50 #[.slice (some ⟨w.heap.size, 8, none⟩) 8 8, .int .u64 (x2 : Int)] X fun e w' => e = .returned (.tuple #[]) ∧ w'.heap[w.heap.size]? = some (.cells (hl (putL H1 8 x2 8)).toArray 29 (0, 0)) ∧ Chg (fun j => j = w.heap.size) X w') := by
    intro X hX
    exact put8_c w.heap.size 8 x2 H1 lH l2 X hX
  have HB1 : Aside _ := b1
  have HB3 : Aside _ := b3
  clear b1 b3 hH1 l1 l2
  generalize (x1 : Int) = y1 at *
  generalize (x2 : Int) = y2 at *
  go_enter Tryz.func32, Tryz.ntmps32
  go_wp2_with fail
  rw [hz28]
  generalize w.alloc (.cells (hl z16).toArray 29) = W1 at *
  go_region_held3 (fun _ => True) (trivial) (first
    | (go_at_call 51; refine Calls.mono (HM1.out _) ?_; rintro e W2 ⟨rfl, rfl⟩)
    | (go_at_call 50; refine Calls.mono (HX1.out _ HB1.out) ?_; rintro e W2 ⟨rfl, h2, h3⟩; have HR2 : Aside _ := h2; have HC2 : Aside _ := h3; clear h2 h3))
  go_wp2_with fail
  go_region_held3 (fun _ => True) (trivial) (first
    | (go_at_call 51; refine Calls.mono (HM2.out _) ?_; rintro e W3 ⟨rfl, rfl⟩)
    | (go_at_call 50; refine Calls.mono (HX2.out _ HR2.out) ?_; rintro e W3 ⟨rfl, h2, h3⟩; have HR3 : Aside _ := h2; have HC3 : Aside _ := h3; clear h2 h3))
  have h3 := HR3.out
  rw [HP.out] at h3
  have HC : Aside (Below w.heap.size w W3) := by
    have d1 : Chg (fun j => j = w.heap.size) W1 W2 := HC2.out
    have d2 : Chg (fun j => j = w.heap.size) W2 W3 := HC3.out
    exact Chg.below HB3.out HB3.out.size (d1.trans d2) (fun j hj => Nat.le_of_eq hj.symm)
  have HE : Aside _ := bel_set HC.out (Nat.le_refl _) (hl (nameL n)).toArray
  have HR : Aside _ := setRow_heap W3 w.heap.size _ (hl (nameL n)).toArray 29 (0, 0) h3
  clear HM1 HM2 HX1 HX2 HB1 HB3 HR2 HC2 HR3 HC3 HC
  go_wp2_with (first | refine ld28 rfl (.tmp 2) rfl w.heap.size rfl (nameL n) h3 (nameL_len n) ?_ | refine st28 rfl (.tmp 2) (.tmp 16) rfl w.heap.size (nameL n) rfl rfl (nameL n) h3 (nameL_len n) (nameL_len n) ?_)
  refine bodyPost_ret (v := hv (nameL n)) (res_1 (fn := Tryz.f32) (p := 2) rfl _ _ w.heap.size (nameL n) rfl HR.out (nameL_len n)) rfl ?_
  exact ⟨rfl, HE.out⟩

theorem slice_cells {w : World} {b : Nat} {H : List UInt8} (hb : w.heap[b]? = some (.cells (hl H).toArray 29 (0, 0))) (o : Nat) (L : List UInt8) (h : ∀ j (hj : j < L.length), H[o + j]? = some L[j]) : ∀ j (hj : j < L.length), w.cell? ⟨b, o + j, none⟩ = some (.int .u8 (L[j].toNat : Int)) := by
  intro j hj
  simp [World.cell?, hb, hl, h j hj]
theorem take_drop_at {H : List UInt8} (o n : Nat) : ∀ j (hj : j < ((H.drop o).take n).length), H[o + j]? = some ((H.drop o).take n)[j] := by
  intro j hj
  simp at hj
  simp
set_option maxRecDepth 100000 in
set_option maxHeartbeats 1000000 in
/-- numbered: which number, if any. -/
theorem numbered_c (H : List UInt8) (hs : H.length = 16) (w : World) : Calls Tryz.prog 59 #[hv H] w fun e w' => (∃ k : Nat, ∃ b : Bool, e = .returned (.tuple #[.int .i64 (k : Int), .bool b]) ∧ (b = true → numL H = some k ∧ k < 9223372036854775808) ∧ (b = false → numL H = none)) ∧ Below w.heap.size w w' := by
  obtain ⟨b1, b3⟩ := box1 w H
  have hd : (w.alloc (.cells (hl H).toArray 29)).drew.heap[w.heap.size]? = some (.cells (hl H).toArray 29 (0, 0)) := b1
  have HL1 : Aside _ := read_c w.heap.size 0 16 ((H.drop 0).take 8) (by simp [hs]) _ (slice_cells b1 0 _ (take_drop_at 0 8))
  have HL2 : Aside (∀ X, X.heap[w.heap.size]? = some (.cells (hl H).toArray 29 (0, 0)) → Calls Tryz.prog 87 #[.slice (some ⟨w.heap.size, 8, none⟩) 8 8] X fun e w' => e = .returned (.int .u64 (val ((H.drop 8).take 8) : Nat)) ∧ w' = X) := fun X hX => read_c w.heap.size 8 8 ((H.drop 8).take 8) (by simp [hs]) X (slice_cells hX 8 _ (take_drop_at 8 8))
  have lt1 : val ((H.drop 0).take 8) < M64 := val_lt (by simp [hs])
  have lt2 : val ((H.drop 8).take 8) < M64 := val_lt (by simp [hs])
  have HNUM : Aside (numL H = if mixN ((unmixN (val ((H.drop 0).take 8)) + 1) % M64) = val ((H.drop 8).take 8) ∧ unmixN (val ((H.drop 0).take 8)) % 2 = 0 then some (unmixN (val ((H.drop 0).take 8)) / 2) else none) := by
    show _ = _
    rw [List.drop_zero, List.take_of_length_le (by simp [hs] : (H.drop 8).length ≤ 8)]
    rfl
  have HU : Aside _ := unmix_c (val ((H.drop 0).take 8)) lt1
  have hx := unmixN_lt (val ((H.drop 0).take 8))
  generalize unmixN (val ((H.drop 0).take 8)) = x at *
  generalize val ((H.drop 0).take 8) = v1 at *
  generalize val ((H.drop 8).take 8) = v2 at *
  have HM : Aside _ := mix_c ((x + 1) % M64)
  have hm := mixN_lt ((x + 1) % M64)
  have e1 : IntKind.u64.wrap ((x : Int) + 1) = (((x + 1) % M64 : Nat) : Int) := by rw [wrap_u64]; unfold M64; omega
  generalize (x + 1) % M64 = x' at *
  generalize mixN x' = m at *
  have HFIN : Aside (∀ W : World, Below w.heap.size w W → (¬ (m = v2 ∧ x % 2 = 0) → (∃ k : Nat, ∃ b : Bool, Ending.returned (.tuple #[.int .i64 0, .bool false]) = .returned (.tuple #[.int .i64 (k : Int), .bool b]) ∧ (b = true → numL H = some k ∧ k < 9223372036854775808) ∧ (b = false → numL H = none)) ∧ Below w.heap.size w W) ∧ ((m = v2 ∧ x % 2 = 0) → (∃ k : Nat, ∃ b : Bool, Ending.returned (.tuple #[.int .i64 ((x / 2 : Nat) : Int), .bool true]) = .returned (.tuple #[.int .i64 (k : Int), .bool b]) ∧ (b = true → numL H = some k ∧ k < 9223372036854775808) ∧ (b = false → numL H = none)) ∧ Below w.heap.size w W)) := by
    intro W hW
    refine ⟨fun h => ⟨⟨0, false, rfl, fun h => (by cases h), fun _ => by rw [HNUM.out, if_neg h]⟩, hW⟩, fun h => ⟨⟨x / 2, true, rfl, fun _ => ⟨by rw [HNUM.out, if_pos h], by unfold M64 at hx; omega⟩, fun h => by cases h⟩, hW⟩⟩
  have HB1 : Aside _ := b1
  have HB3 : Aside _ := b3
  clear b1 b3 HNUM hd
  obtain ⟨xi, hxi⟩ : ∃ xi : Int, (x : Int) = xi := ⟨_, rfl⟩
  obtain ⟨mi, hmi⟩ : ∃ mi : Int, (m : Int) = mi := ⟨_, rfl⟩
  obtain ⟨vi, hvi⟩ : ∃ vi : Int, (v2 : Int) = vi := ⟨_, rfl⟩
  obtain ⟨x'i, hx'i⟩ : ∃ xi : Int, (x' : Int) = xi := ⟨_, rfl⟩
  have HMi : Aside (mi = vi ↔ m = v2) := by show _ ↔ _; omega
  have HXi : Aside (xi.tmod 2 = 0 ↔ x % 2 = 0) := by show _ ↔ _; rw [← hxi, Int.tmod_eq_emod_of_nonneg (by omega)]; omega
  have HX2 : Aside (xi.tdiv 2 = ((x / 2 : Nat) : Int)) := by show _ = _; rw [← hxi, Int.tdiv_eq_ediv_of_nonneg (by omega)]; omega
  have g0 : 0 ≤ xi := by omega
  have g1 : xi < 18446744073709551616 := by unfold M64 at hx; omega
  rw [hxi] at e1 HU
  rw [hx'i] at e1 HM
  rw [hmi] at HM
  rw [hvi] at HL2
  generalize (v1 : Int) = v1i at *
  clear hxi hmi hvi hx'i lt1 lt2 hx hm
  go_enter Tryz.func59, Tryz.ntmps59
  go_wp2_with fail
  refine Calls.mono HL1.out ?_
  rintro e W2 ⟨rfl, hw2⟩
  subst W2
  go_wp2_with fail
  refine Calls.mono (HU.out _) ?_
  rintro e W2 ⟨rfl, hw2⟩
  subst W2
  clear HL1 HU
  generalize w.alloc (.cells (hl H).toArray 29) = W1 at *
  by_cases hmv : mi = vi
  · subst hmv
    go_wp2_with fail
    go_region_held3 (fun w' => w'.heap[w.heap.size]? = some (.cells (hl H).toArray 29 (0, 0))) (first | exact HB1.out | assumption) (first
      | (go_at_call 51; refine Calls.mono (HM.out _) ?_; rintro e W3 ⟨rfl, rfl⟩)
      | (go_at_call 87; refine Calls.mono (HL2.out _ (by assumption)) ?_; rintro e W3 ⟨rfl, rfl⟩))
    by_cases hx2 : xi.tmod 2 = 0
    · have HF : Aside _ := (HFIN.out _ (HB3.out.trans ((bel_drew W1).mono HB3.out.size))).2 ⟨HMi.out.1 trivial, HXi.out.1 hx2⟩
      obtain ⟨q, hq⟩ : ∃ q : Int, ((x / 2 : Nat) : Int) = q := ⟨_, rfl⟩
      have hxe : xi.tdiv 2 = q := HX2.out.trans hq
      have hqw : IntKind.i64.wrap q = q := by rw [IntKind.wrap_i64]; have := HX2.out; rw [Int.tdiv_eq_ediv_of_nonneg g0] at this; omega
      have hqb : 0 ≤ q ∧ q ≤ 9223372036854775807 := by have := HX2.out; rw [Int.tdiv_eq_ediv_of_nonneg g0] at this; omega
      have hqu : IntKind.u64.wrap q = q := by rw [wrap_u64]; omega
      obtain ⟨hqb0, hqb1⟩ := hqb
      rw [hq] at HF
      clear hq HX2
      clear HFIN HMi HXi HM HL2
      have d1 : (xi.tmod 2 != 0) = false := by simpa using hx2
      have d2 : (xi.tmod 2 == 0) = true := by simpa using hx2
      go_wp2
      go_ret2
      exact HF.out
    · have HF : Aside _ := (HFIN.out _ (HB3.out.trans ((bel_drew W1).mono HB3.out.size))).1 (fun h => hx2 (HXi.out.2 h.2))
      clear HFIN HMi HXi HM HL2 HX2
      have d1 : (xi.tmod 2 != 0) = true := by simpa using hx2
      have d2 : (xi.tmod 2 == 0) = false := by simpa using hx2
      go_wp2
      go_ret2
      exact HF.out
  · have HF : Aside _ := (HFIN.out _ (HB3.out.trans ((bel_drew W1).mono HB3.out.size))).1 (fun h => hmv (HMi.out.2 h.1))
    have d1 : decide (mi = vi) = false := by simpa using hmv
    have d2 : (mi == vi) = false := by simpa using hmv
    clear HFIN HMi HXi HX2
    go_wp2_with fail
    refine wp_region_held_drew (S := fun w' => w'.heap[w.heap.size]? = some (.cells (hl H).toArray 29 (0, 0))) (by kernel_rfl) HB1.out (fun hHeld => ?_)
    refine wpAnyH_take (i := 0) (v := .int .u64 xi) rfl (by kernel_rfl) (by kernel_rfl) (by kernel_rfl) (fun _ _ _ h => h) (Or.inl ⟨by rfl, by intro w _; go_simp⟩) hHeld ?_
    refine norm_any' (fun K hK => ?_)
    go_simp
    refine hK _ _ ?_
    clear hK K
    refine wpAnyH_take (i := 1) (v := .int .u64 x'i) rfl (by kernel_rfl) (by kernel_rfl) (by kernel_rfl) (fun _ _ _ h => h) (Or.inl ⟨by rfl, by intro w _; go_simp⟩) hHeld ?_
    refine norm_any' (fun K hK => ?_)
    go_simp
    refine hK _ _ ?_
    clear hK K
    refine wpAnyH_take (i := 3) (v := .slice (some ⟨w.heap.size, 8, none⟩) 8 8) rfl (by kernel_rfl) (by kernel_rfl) (by kernel_rfl) (fun _ _ _ h => h) (Or.inl ⟨by rfl, by intro w _; go_simp⟩) hHeld ?_
    refine norm_any' (fun K hK => ?_)
    go_simp
    refine hK _ _ ?_
    clear hK K
    refine wpAnyH_ready (rs := [2]) (by kernel_rfl) (by simp) (AllReadyH.cons rfl (fun K hK => ?_) AllReadyH.nil)
    go_simp
    refine Calls.mono (HM.out _) ?_
    rintro e W3 ⟨rfl, hw3⟩
    subst W3
    refine hK.out _ _ HB1.out (fun hHeld => ?_)
    clear hK K
    refine norm_any' (fun K hK => ?_)
    go_simp
    refine hK _ _ ?_
    clear hK K
    refine wpAnyH_ready (rs := [4]) (by kernel_rfl) (by simp) (AllReadyH.cons rfl (fun K hK => ?_) AllReadyH.nil)
    go_simp
    refine Calls.mono (HL2.out _ HB1.out) ?_
    rintro e W3 ⟨rfl, hw3⟩
    subst W3
    refine hK.out _ _ HB1.out (fun hHeld => ?_)
    clear hK K
    refine norm_any' (fun K hK => ?_)
    go_simp
    refine hK _ _ ?_
    clear hK K
    refine wpAnyH_take (i := 5) (v := .bool true) rfl (by kernel_rfl) (by kernel_rfl) (by kernel_rfl) (fun _ _ _ h => h) (Or.inl ⟨by rfl, by intro w _; go_simp⟩) hHeld ?_
    refine norm_any' (fun K hK => ?_)
    go_simp
    refine hK _ _ ?_
    clear hK K
    refine wpAnyH_take (i := 6) (v := .bool true) rfl (by kernel_rfl) (by kernel_rfl) (by kernel_rfl) (fun _ _ _ h => h) (Or.inl ⟨by rfl, by intro w _; go_simp⟩) hHeld ?_
    refine norm_any' (fun K hK => ?_)
    go_simp
    refine hK _ _ ?_
    clear hK K
    refine wpAnyH_take (i := 7) (v := undef) rfl (by kernel_rfl) (by kernel_rfl) (by kernel_rfl) (fun _ _ _ h => h) (Or.inr ⟨by rfl, rfl⟩) hHeld ?_
    refine norm_any' (fun K hK => ?_)
    go_simp
    refine hK _ _ ?_
    clear hK K
    refine wpAnyH_take (i := 8) (v := undef) rfl (by kernel_rfl) (by kernel_rfl) (by kernel_rfl) (fun _ _ _ h => h) (Or.inr ⟨by rfl, rfl⟩) hHeld ?_
    refine norm_any' (fun K hK => ?_)
    go_simp
    refine hK _ _ ?_
    clear hK K
    refine wpAnyH_take (i := 9) (v := undef) rfl (by kernel_rfl) (by kernel_rfl) (by kernel_rfl) (fun _ _ _ h => h) (Or.inr ⟨by rfl, rfl⟩) hHeld ?_
    refine norm_any' (fun K hK => ?_)
    go_simp
    refine hK _ _ ?_
    clear hK K
    refine wpAnyH_take (i := 10) (v := .bool true) rfl (by kernel_rfl) (by kernel_rfl) (by kernel_rfl) (fun _ _ _ h => h) (Or.inl ⟨by rfl, by intro w _; go_simp⟩) hHeld ?_
    refine norm_any' (fun K hK => ?_)
    go_simp
    refine hK _ _ ?_
    clear hK K
    refine wpAnyH_done (by kernel_rfl) ?_ _
    go_wp2
    go_ret2
    exact HF.out
end Go.Proofs.YthdenbclfogojaaGreatDoor
