/- FramePads: the law's walk. -/
import Derived.Test.YtfejhlfcabbkcaaDoorRk
namespace Go.Proofs.YtfejhlfcabbkcaaDoor
open Go.ChangeShapes Go.WideShapes Go.ChangeAt Go.RowKit
set_option linter.unusedVariables false
set_option maxRecDepth 100000

theorem and10 (n : Int) : bits .and .i64 n 1023 = n % 1024 := by
  have h127 : (BitVec.ofInt 64 1023).toNat = 2 ^ 10 - 1 := by decide
  have key : (BitVec.ofInt 64 n &&& BitVec.ofInt 64 1023).toNat = (n % ((2 ^ 64 : Nat) : Int)).toNat % 2 ^ 10 := by
    rw [BitVec.toNat_and, BitVec.toNat_ofInt, h127, Nat.and_two_pow_sub_one_eq_mod]
  show IntKind.i64.wrap ((BitVec.ofInt 64 n &&& BitVec.ofInt 64 1023).toNat : Nat) = n % 1024
  rw [key, IntKind.wrap_i64]
  omega
/-- Bytes of one's own, not none. -/
theorem own_sl {B n : Nat} {w : World} {v : Value} {l : List UInt8} (h : w.ownsRow B 5 1 v n (bc l)) (hl : l.length = n) (hn : 0 < n) : ∃ g cap, v = .slice (some ⟨g, 0, none⟩) n cap ∧ Sl w (some ⟨g, 0, none⟩) l ∧ B ≤ g ∧ g < w.heap.size ∧ n ≤ cap := by
  obtain ⟨_, ⟨_, h0⟩ | ⟨g, cap, cur, rfl, k1, k2, k3, k4, k5, k6⟩⟩ := h
  · omega
  · exact ⟨g, cap, rfl, Sl_own k2 (by rw [hl]; rw [Nat.mul_one] at k6; exact k6), k1, lt_block k2, k3⟩
/-- Which of the five. -/
theorem five (kind : Int) (h0 : -9223372036854775808 ≤ kind) (h1 : kind ≤ 9223372036854775807) : ∃ (m5 : Int) (i : Nat), IntKind.i64.wrap (kind.tmod 5 + 5) = m5 ∧ m5.tmod 5 = (i : Int) ∧ i < 5 := by
  have hm : -4 ≤ kind.tmod 5 ∧ kind.tmod 5 ≤ 4 := by
    by_cases h : 0 ≤ kind
    · rw [Int.tmod_eq_emod_of_nonneg h]; omega
    · have e : kind = -(-kind) := by omega
      rw [e, Int.neg_tmod, Int.tmod_eq_emod_of_nonneg (by omega)]
      omega
  refine ⟨kind.tmod 5 + 5, ((kind.tmod 5 + 5) % 5).toNat, wrp' _ (by omega) (by omega), ?_, by omega⟩
  rw [Int.tmod_eq_emod_of_nonneg (by omega)]
  omega
/-- The cells of frames as they lie. -/
theorem Fw.cell {w : World} {o : Option Addr} {c : Nat} {fs : List Fr} (h : Fw w o c fs) (hs : ∀ f ∈ fs, f.std) (i : Nat) (hi : i < fs.length) (j : Nat) (hj : j < 42) (v : Value) (hv : fs[i].cells[j]? = some v) : ∃ g off, o = some ⟨g, off, none⟩ ∧ w.cell? ⟨g, off + (i * 42 + j), none⟩ = some v := by
  have key : ∀ (fs : List Fr), (∀ f ∈ fs, f.std) → ∀ i (hi : i < fs.length), fs[i].cells[j]? = some v → (fcs fs)[i * 42 + j]? = some v := by
    intro fs
    induction fs with
    | nil => intro _ i hi; simp at hi
    | cons f t ih =>
      intro hs i hi hv
      have hf := (hs f (by simp)).one.2
      show (f.cells ++ fcs t)[i * 42 + j]? = _
      cases i with
      | zero =>
        rw [List.getElem?_append_left (by omega)]
        simpa using hv
      | succ i =>
        rw [List.getElem?_append_right (by omega), show (i + 1) * 42 + j - f.cells.length = i * 42 + j by omega]
        exact ih (fun f hf => hs f (by simp [hf])) i (by simpa using hi) (by simpa using hv)
  obtain ⟨g, off, e, hc, _⟩ := Rw.cell h (key fs hs i hi hv)
  exact ⟨g, off, e, hc⟩
set_option maxHeartbeats 4000000 in
theorem pads_walk (n kind : Int) (w : World) (ht : Tb w) (k0 : -9223372036854775808 ≤ kind) (k1 : kind ≤ 9223372036854775807) : Calls Tryd.prog 3 #[.int .i64 n, .int .i64 kind] w fun e w' => e = .returned (.bool true) ∧ Below w.heap.size w w' := by
  obtain ⟨i0, hi, hz0, hz1, hz2⟩ := info_parts info5
  have e1 := and10 n
  obtain ⟨N, hN⟩ : ∃ N : Nat, 1 + n % 1024 = (N : Int) := ⟨(1 + n % 1024).toNat, by omega⟩
  have hN0 : 1 ≤ N := by omega
  have hN1 : N ≤ 1024 := by omega
  have e2 : IntKind.i64.wrap (1 + n % 1024) = (N : Int) := by rw [wrp' _ (by omega) (by omega)]; exact hN
  obtain ⟨m5, ix, f2, f3, hix⟩ := five kind k0 k1
  have HT : Aside _ := ht
  have HA : Aside (∀ W1, W1.heap[w.heap.size]? = some (.cells (bc (List.replicate N 0)).toArray 5 (0, 0)) → Below w.heap.size w W1 → Calls Tryd.prog 4 #[.slice (some ⟨w.heap.size, 0, none⟩) N N] W1 fun e w' => ∃ o c', e = .returned (.tuple #[.slice o 1 c', .nilIface]) ∧ Fw w' o c' [pad N] ∧ Below W1.heap.size W1 w') := by
    intro W1 hb hB
    have hlb : Lb W1 (some ⟨w.heap.size, 0, none⟩) N (List.replicate N 0) := ⟨Sl_block hb, Tb_below HT.out hB (Tb_pos HT.out), by simp; omega, fun a ha => by injection ha with ha; subst ha; exact lt_block hb, by simp⟩
    have hr := rds_pad hlb 0 (by simp; omega) (fun j hj _ => by simp)
    rw [List.length_replicate, Nat.sub_zero] at hr
    have := all_c W1 (some ⟨w.heap.size, 0, none⟩) N (List.replicate N 0) [pad N] ⟨by simp; omega, pad_std N, N, hr, by simp [Rdl]⟩ (by simp) (by simp) (by simp; omega)
    rw [List.length_replicate] at this
    exact this
  clear ht k0 k1 hN
  go_enter Tryd.func3, Tryd.ntmps3
  go_wp2_with (at_make; refine wpList_make_full _ rfl _ _ 27 rfl w.heap.size 5 i0 (.int .u8 0) 1 Tryd.underlying27 hi hz0 hz1 .i64 .i64 _ _ N rfl rfl (by omega) (by omega) (by rw [hz2]; omega) (by unfold maxLen; omega) (Nat.le_refl _) ?_; intro w1 hown hgrow; have HB1 : Aside _ := (Below.refl w.heap.size w).grown hgrow (Nat.le_refl _) (by intro k hk; cases hk); have ha := HA.out w1 (lay_made hown) HB1.out; clear hown hgrow)
  refine ha.mono ?_
  rintro e W2 ⟨o, c', rfl, hF, hb2⟩
  obtain ⟨g, off, rfl, q0⟩ := hF.cell (fun f hf => by simp at hf; subst hf; exact pad_std N) 0 (by simp) 0 (by decide) (.int .i64 0) rfl
  obtain ⟨g', off', hgg, q41⟩ := hF.cell (fun f hf => by simp at hf; subst hf; exact pad_std N) 0 (by simp) 41 (by decide) (.int .i64 N) rfl
  injection hgg with hgg
  injection hgg with hg1 hg2
  subst hg1 hg2
  have HB2 : Aside (Below w.heap.size w W2) := HB1.out.trans (hb2.mono HB1.out.size)
  simp only [Nat.zero_mul, Nat.zero_add, Nat.add_zero] at q0 q41
  clear ha HA hF hb2 HB1
  obtain ⟨G, hG⟩ : ∃ G, W2.heap.size = G := ⟨_, rfl⟩
  obtain ⟨W3, hW3⟩ : ∃ W3, W2.alloc (.cells #[.int .i64 1, .int .i64 16, .int .i64 26, .int .i64 30, .int .i64 25] 3) = W3 := ⟨_, rfl⟩
  have hr3 : W3.heap[G]? = some (.cells #[.int .i64 1, .int .i64 16, .int .i64 26, .int .i64 30, .int .i64 25] 3 (0, 0)) := by rw [← hW3, ← hG]; exact heap_alloc_new W2 _
  have HB3 : Aside (Below w.heap.size w W3) := by show Below _ _ _; rw [← hW3]; exact HB2.out.trans ((bel1 W2 _).mono HB2.out.size)
  obtain ⟨k, hk, ck⟩ : ∃ k : Nat, (k = 1 ∨ k = 16 ∨ k = 26 ∨ k = 30 ∨ k = 25) ∧ W3.cell? ⟨G, ix, none⟩ = some (.int .i64 k) := by
    have hx : ix = 0 ∨ ix = 1 ∨ ix = 2 ∨ ix = 3 ∨ ix = 4 := by omega
    rcases hx with rfl | rfl | rfl | rfl | rfl
    · exact ⟨1, by omega, by simp [World.cell?, hr3]⟩
    · exact ⟨16, by omega, by simp [World.cell?, hr3]⟩
    · exact ⟨26, by omega, by simp [World.cell?, hr3]⟩
    · exact ⟨30, by omega, by simp [World.cell?, hr3]⟩
    · exact ⟨25, by omega, by simp [World.cell?, hr3]⟩
  have hpt := put_five k N hk hN0 hN1 W3 (Tb_below HT.out HB3.out (Tb_pos HT.out))
  have HK : Aside _ := hk
  have ix5 : (ix : Int) < 5 := by omega
  obtain ⟨T, hT⟩ : ∃ T, UInt8.ofNat k :: tail5 k N = T := ⟨_, rfl⟩
  rw [hT] at hpt
  have hTl : 1 ≤ T.length ∧ T.length ≤ 20 := by
    rw [← hT]
    simp only [List.length_cons]
    have : (tail5 k N).length ≤ 8 := by
      unfold tail5
      split
      · exact encv_le _
      · split <;> simp
    omega
  have HA2 : Aside (∀ (Y : World) (g3 cp : Nat), Below w.heap.size w Y → Sl Y (some ⟨g3, 0, none⟩) (T ++ List.replicate N 0) → g3 < Y.heap.size → T.length + N ≤ cp → Calls Tryd.prog 4 #[.slice (some ⟨g3, 0, none⟩) (T.length + N) cp] Y fun e w' => ∃ g off c' lm, e = .returned (.tuple #[.slice (some ⟨g, off, none⟩) 2 c', .nilIface]) ∧ w'.cell? ⟨g, off, none⟩ = some (.int .i64 k) ∧ w'.cell? ⟨g, off + 6, none⟩ = some (.int .i64 lm) ∧ (k = 16 → lm = N) ∧ w'.cell? ⟨g, off + 42 + 41, none⟩ = some (.int .i64 N) ∧ Below Y.heap.size Y w') := by
    intro Y g3 cp hB hs hg hc
    have hln : (T ++ List.replicate N 0).length = T.length + N := by simp
    have hlb : Lb Y (some ⟨g3, 0, none⟩) cp (T ++ List.replicate N 0) := ⟨hs, Tb_below HT.out hB (Tb_pos HT.out), by omega, fun a ha => by injection ha with ha; subst ha; exact hg, by omega⟩
    obtain ⟨f, fk, fl, hR⟩ := rdl_two k N hk hN0 hN1 (T ++ List.replicate N 0) (by rw [hT]) hlb
    have hstd : ∀ x ∈ [f, pad N], x.std := by
      intro x hx
      simp at hx
      rcases hx with rfl | rfl
      · exact hR.2.1
      · exact pad_std N
    have := all_c Y (some ⟨g3, 0, none⟩) cp (T ++ List.replicate N 0) [f, pad N] hR (by simp) (by simp) (by omega)
    rw [hln] at this
    refine this.mono ?_
    rintro e w' ⟨o, c', rfl, hF, hb⟩
    obtain ⟨g, off, rfl, q0⟩ := hF.cell hstd 0 (by simp) 0 (by decide) (.int .i64 f.k) rfl
    obtain ⟨_, _, hgg, q6⟩ := hF.cell hstd 0 (by simp) 6 (by decide) (.int .i64 f.lim) rfl
    injection hgg with hgg
    injection hgg with hg1 hg2
    subst hg1 hg2
    obtain ⟨_, _, hgg, q41⟩ := hF.cell hstd 1 (by simp) 41 (by decide) (.int .i64 N) rfl
    injection hgg with hgg
    injection hgg with hg1 hg2
    subst hg1 hg2
    rw [fk] at q0
    exact ⟨g, off, c', f.lim, rfl, by simpa using q0, by simpa using q6, fl, by rw [Nat.add_assoc]; exact q41, hb⟩
  have HTL : Aside _ := hTl
  have HNN : Aside (N ≠ 0 ∧ N ≤ 1024) := ⟨by omega, hN1⟩
  clear hr3 HB2 hT hk
  go_wp2_with fail
  refine hpt.mono ?_
  rintro e W4 ⟨o4, c4, rfl, hby, hb4⟩
  obtain ⟨g4, cp4, hv4, hs4, hg4, hg4', hc4⟩ := own_sl hby rfl (by omega)
  injection hv4 with hv1 hv2 hv3
  subst hv1 hv3
  have HB4 : Aside (Below w.heap.size w W4) := HB3.out.trans (hb4.mono HB3.out.size)
  clear hpt hW3 q0 q41 ck hG HB3 hby
  obtain ⟨G4, hG4⟩ : ∃ G4, W4.heap.size = G4 := ⟨_, rfl⟩
  obtain ⟨X0, hX0⟩ : ∃ X0, W4.alloc (.cells #[] 5) = X0 := ⟨_, rfl⟩
  have hx0 : X0.heap[G4]? = some (.cells #[] 5 (0, 0)) := by rw [← hX0, ← hG4]; exact heap_alloc_new W4 _
  have hbX : Below W4.heap.size W4 X0 := by rw [← hX0]; exact bel1 W4 _
  have HSL : Aside (Sl X0 (some ⟨g4, 0, none⟩) T) := Sl_below hs4 hbX
  have HBX : Aside (Below w.heap.size w X0) := HB4.out.trans (hbX.mono HB4.out.size)
  have HG4 : Aside (w.heap.size ≤ G4) := by show _ ≤ G4; rw [← hG4]; exact HB4.out.size
  have HOW : Aside (X0.ownsRow w.heap.size 5 1 (.slice (some ⟨G4, 0, none⟩) 0 0) 0 []) := ⟨rfl, .inr ⟨G4, 0, #[], rfl, HG4.out, hx0, Nat.le_refl _, Nat.zero_le _, rfl, rfl⟩⟩
  clear hs4 hg4 hg4' hc4 hb4 hx0 hbX
  obtain ⟨TL, hTL⟩ : ∃ TL, T.length = TL := ⟨_, rfl⟩
  have HTE : Aside _ := hTL
  rw [hTL] at HTL HA2 ⊢
  clear hTL
  go_wp2_with (first
    | (at_builtin; refine wpList_append_bytes rfl (.tmp 57) (.tmp 58) rfl w.heap.size i0 Tryd.underlying27 hi hz0 hz1 hz2 (.slice (some ⟨G4, 0, none⟩) 0 0) 0 [] rfl HOW.out (some ⟨g4, 0, none⟩) TL c4 T rfl HTE.out (fun h => by cases h) HSL.out (by have := HTL.out; omega) HBX.out.size ?_; intro v1 w1 hown hgrow; rw [Nat.zero_add, List.nil_append] at hown; have HB5 : Aside (Below w.heap.size w w1) := HBX.out.grown hgrow HBX.out.size (by intro q hq; simp [Value.ownBlock] at hq; subst hq; exact HG4.out); obtain ⟨g5, cp5, rfl, hs5, hg5, hg5', hc5⟩ := own_sl hown HTE.out (by have := HTL.out; omega); have HO5 : Aside _ := hown; have HG5 : Aside _ := hg5; clear hown hgrow hs5 hg5 hg5' hc5)
    | (at_builtin; refine wpList_append_zeros rfl (.tmp 59) (.tmp 60) rfl w.heap.size i0 Tryd.underlying27 Tryd.underlying3 hi hz0 hz1 hz2 (.slice (some ⟨g5, 0, none⟩) TL cp5) TL (bc T) rfl HO5.out (fun h => by cases h) N HNN.out.1 rfl (by have := HNN.out.2; omega) (by have := HNN.out.2; have := HTL.out; omega) HB5.out.size ?_; intro v2 w2 hown hgrow; rw [bc_zeros, ← bc_append] at hown; have HB6 : Aside (Below w.heap.size w w2) := HB5.out.grown hgrow HB5.out.size (by intro q hq; simp [Value.ownBlock] at hq; subst hq; exact HG5.out); obtain ⟨g6, cp6, rfl, hs6, hg6, hg6', hc6⟩ := own_sl hown (by have := HTE.out; simp; omega) (by have := HTL.out; omega); have hal := HA2.out w2 g6 cp6 HB6.out hs6 hg6' hc6; clear hown hgrow hs6 hg6 hg6' hc6))
  refine hal.mono ?_
  rintro e W7 ⟨g7, o7, c7, lm, rfl, r0, r6, hlm, r41, hb7⟩
  have HB7 : Aside (Below w.heap.size w W7) := HB6.out.trans (hb7.mono HB6.out.size)
  clear hal hb7
  by_cases h16 : k = 16
  · have elm := hlm h16
    subst h16 elm
    clear hlm
    go_wp2
    go_ret
    exact ⟨rfl, HB7.out⟩
  · have h16' : ((k : Int) == 16) = false := by simp; omega
    have h16'' : ¬ (k : Int) = 16 := by omega
    clear hlm
    go_wp2
    go_ret
    exact ⟨rfl, HB7.out⟩
end Go.Proofs.YtfejhlfcabbkcaaDoor
