/- LedgerThree: the law's walk. -/
import Derived.Test.YtkjcapmhjhnckaaTh
import Derived.Deep.CutRange
import Derived.Deep.DeepCutAuto
import Derived.Deep.CutBlock
namespace Go.Proofs.Ytkjcapmhjhnckaa
open Go.RowKit Go.Maps Go.Shelf
set_option linter.unusedVariables false
set_option maxRecDepth 100000

theorem and31 (n : Int) : ∃ m : Nat, bits BinOp.and IntKind.i64 n 31 = (m : Int) ∧ m < 32 := by
  have h : bits BinOp.and IntKind.i64 n 31 = IntKind.i64.wrap ((BitVec.ofInt 64 n &&& BitVec.ofInt 64 31).toNat : Int) := rfl
  rw [h, BitVec.toNat_and]
  have h2 : (BitVec.ofInt 64 n).toNat &&& (BitVec.ofInt 64 31).toNat ≤ 31 := Nat.le_trans Nat.and_le_right (by decide)
  generalize (BitVec.ofInt 64 n).toNat &&& (BitVec.ofInt 64 31).toNat = m at h2
  exact ⟨m, wrp _ (by omega) (by omega), by omega⟩
theorem tmod_abs (a : Int) (n : Nat) (h : 0 < n) : -(n : Int) < a.tmod n ∧ a.tmod n < n := by
  have h1 := Int.lt_tmod_of_pos a (b := (n : Int)) (by omega)
  have h2 := Int.tmod_lt_of_pos a (b := (n : Int)) (by omega)
  exact ⟨h1, h2⟩
theorem tmod_fact (A : Int) (n : Nat) (h0 : 0 ≤ A) (hn : 0 < n) : ∃ m : Nat, A.tmod (n : Int) = (m : Int) ∧ m < n := by
  obtain ⟨a, rfl⟩ := Int.eq_ofNat_of_zero_le h0
  exact ⟨a % n, rfl, Nat.mod_lt _ hn⟩
def ThR (w : World) (r : Ending) (w' : World) : Prop := r = .returned (.bool true) ∧ Below w.heap.size w w'
/-- The ledger behind i packets. -/
structure TI (w : World) (A : Ad) (i : Nat) (X : World) : Prop where
  lg : Lg X A (sq i)
  bel : Below w.heap.size w X
  new : ∀ k, A.own k → w.heap.size ≤ k
  m : A.m ≤ i
theorem TI.sent {w X Y : World} {A : Ad} {i : Nat} (h : TI w A i X) (hi : i < 32) {e : Ending} (hr : SnR X A (sq i) ⟨(i : Int), 100, 7, true⟩ e Y) : e = .returned (.int .i64 0) ∧ ∃ A', A'.b = A.b ∧ TI w A' (i + 1) Y := by
  have h0 := sq_sent i hi
  obtain ⟨rfl, _, hy⟩ := hr
  obtain ⟨A', hm, hl, hs⟩ := hy h0
  obtain ⟨h1, h2⟩ := hs.toBelow h.bel.size h.new
  exact ⟨by rw [h0], A', hs.b, hl, h.bel.trans h1, h2, by rw [hm]; have := h.m; omega⟩
/-- What the acknowledgement tells, and leaves. -/
structure TJ (w : World) (B n k : Nat) (o1 : Option Addr) (c1 : Nat) (o2 : Option Addr) (c2 : Nat) (Y : World) : Prop where
  lg : ∃ (A : Ad) (L : Ls), A.b = B ∧ Lg Y A L ∧ L.ok n ∧ L.c = (n : Int) - 1 - ((k - 2 : Nat) : Int) ∧ L.z = 7 * L.c ∧ L.d = 100 ∧ L.due 50 = if 0 < k then (150, true) else (0, false)
  bel : Below w.heap.size w Y
  a : ∃ g off, o1 = some ⟨g, off, none⟩ ∧ Y.cell? ⟨g, off, none⟩ = some (.int .i64 (k : Int))
  l : ∀ j, j < k - 2 → ∃ g off, o2 = some ⟨g, off, none⟩ ∧ Y.cell? ⟨g, off + j * 4, none⟩ = some (.int .i64 (j : Int))
theorem TI.acked {w X : World} {A : Ad} {n k : Nat} (h : TI w A n X) (hn : n ≤ 32) (hk : k < n) :
    Calls Try.prog 12 #[.pointer (some ⟨A.b, 0, none⟩), .slice (some ⟨X.heap.size, 0, none⟩) 1 1, .int .i64 100, .int .i64 50] (X.alloc (.cells #[.int .i64 (k : Int), .int .i64 (k : Int)] 50)) fun e Y => ∃ (o1 : Option Addr) (c1 : Nat) (o2 : Option Addr) (c2 : Nat), e = .returned (.tuple #[.agg (rv o1 1 c1 o2 (k - 2) c2 0 0), .int .i64 0]) ∧ TJ w A.b n k o1 c1 o2 c2 Y := by
  have hb := bel1 X (.cells #[.int .i64 (k : Int), .int .i64 (k : Int)] 50)
  have hx := heap_alloc_new X (.cells #[.int .i64 (k : Int), .int .i64 (k : Int)] 50)
  have hS : ∀ Y, Chg A.own (X.alloc (.cells #[.int .i64 (k : Int), .int .i64 (k : Int)] 50)) Y → Sr Y (some ⟨X.heap.size, 0, none⟩) (sqk k) := by
    intro Y hY i hi
    have hi0 : i = 0 := by simp [sqk] at hi; omega
    subst hi0
    have := hY.blk hx (fun hA => by have := h.lg.lt hA; omega)
    exact ⟨_, 0, rfl, by simp [World.cell?, this, sqk], by simp [World.cell?, this, sqk]⟩
  have hc := chk_all n (by omega) k hk
  simp only [chk, Bool.and_eq_true, decide_eq_true_eq] at hc
  obtain ⟨⟨⟨⟨⟨⟨⟨⟨k1, k2⟩, k3⟩, k4⟩, k5⟩, k6⟩, k7⟩, k8⟩, k9⟩ := hc
  have hok := arr_pass_ok (sq_ok hn) (sqk k) 100 50 (by omega) (by omega)
  refine (acked_c (h.lg.bel hb) (sq_ok hn) (by omega) _ 1 (sqk k) hS (by simp [sqk]) 100 50).mono fun e Y hr => ?_
  obtain ⟨A', o1, c1, o2, c2, rfl, hm, hl, hs, p1, p2, _, _⟩ := hr.2 k1
  have hs' := (Stp.of_below (A := A) hb).trans hs
  obtain ⟨b1, b2⟩ := hs'.toBelow h.bel.size h.new
  have l1 : ((sq n).acked (sqk k)).length = 1 := by have := congrArg List.length k2; simpa using this
  have l2 : (((sq n).arr (sqk k)).lost 100 50).length = k - 2 := by have := congrArg List.length k4; simpa using this
  rw [l1, l2, k3, k5]
  refine ⟨o1, c1, o2, c2, rfl, ⟨A', _, hs.b, hl, hok, k6, k7, k8, k9⟩, h.bel.trans b1, ?_, fun j hj => ?_⟩
  · obtain ⟨g, off, e, q, _⟩ := p1.cells (i := 0) (by omega)
    refine ⟨g, off, e, ?_⟩
    have e2 : ((sq n).acked (sqk k))[0].n = (k : Int) := by
      have h3 : (((sq n).acked (sqk k)).map (fun p => p.n))[0]? = some (k : Int) := by rw [k2]; rfl
      rw [List.getElem?_map, List.getElem?_eq_getElem (by omega)] at h3
      simpa using h3
    rw [e2] at q
    simpa using q
  · obtain ⟨g, off, e, q, _⟩ := p2.cells (i := j) (by omega)
    refine ⟨g, off, e, ?_⟩
    have e2 : (((sq n).arr (sqk k)).lost 100 50)[j].n = (j : Int) := by
      have h3 : ((((sq n).arr (sqk k)).lost 100 50).map (fun p => p.n))[j]? = some (j : Int) := by rw [k4, List.getElem?_map, List.getElem?_range hj]; rfl
      rw [List.getElem?_map, List.getElem?_eq_getElem (by omega)] at h3
      simpa using h3
    rw [e2] at q
    exact q
theorem TJ.below {w Y Z : World} {B n k : Nat} {o1 : Option Addr} {c1 : Nat} {o2 : Option Addr} {c2 : Nat} (h : TJ w B n k o1 c1 o2 c2 Y) (hb : Below Y.heap.size Y Z) : TJ w B n k o1 c1 o2 c2 Z := by
  obtain ⟨⟨A, L, h1, h2, h3⟩, h4, ⟨g, off, e, h5⟩, h6⟩ := h
  refine ⟨⟨A, L, h1, h2.bel hb, h3⟩, h4.trans (hb.mono h4.size), ⟨g, off, e, cell_bel h5 hb⟩, fun j hj => ?_⟩
  obtain ⟨g, off, e, h7⟩ := h6 j hj
  exact ⟨g, off, e, cell_bel h7 hb⟩
set_option maxHeartbeats 2000000 in
theorem three_walk (n0 which : Int) (w : World) : Calls Try.prog 6 #[.int .i64 n0, .int .i64 which] w (ThR w) := by
  have hnew := new_c w
  obtain ⟨m, hm, hm32⟩ := and31 n0
  obtain ⟨N, hN⟩ : ∃ N, m + 1 = N := ⟨_, rfl⟩
  have iN : IntKind.i64.wrap (1 + (m : Int)) = (N : Int) := by rw [wrp _ (by omega) (by omega)]; omega
  have hN0 : 0 < N := by omega
  have hN1 : N ≤ 32 := by omega
  obtain ⟨q, hq⟩ : ∃ q, which.tmod (N : Int) = q := ⟨_, rfl⟩
  have hqb := tmod_abs which N hN0
  rw [hq] at hqb
  obtain ⟨k, hk, hkN⟩ := tmod_fact (q + N) N (by omega) hN0
  have r1 : IntKind.i64.wrap q = q := wrp _ (by omega) (by omega)
  have r2 : IntKind.i64.wrap (q + N) = q + N := wrp _ (by omega) (by omega)
  have r3 : IntKind.i64.wrap (k : Int) = k := wrp _ (by omega) (by omega)
  have hNi : ¬ (N : Int) = 0 := by omega
  have HR : Aside (∀ w', Below w.heap.size w w' → ThR w (.returned (.bool true)) w') := fun w' h => ⟨rfl, h⟩
  generalize ThR w = RR at *
  clear hN hm32
  go_enter Try.func6, Try.ntmps6
  go_wp2_with fail
  refine hnew.mono ?_
  rintro e W1 ⟨A, rfl, hl1, hb1, ho1, hm1⟩
  have HT0 : Aside (∃ A', A'.b = A.b ∧ TI w A' 0 W1) := ⟨A, rfl, hl1, hb1, ho1, by omega⟩
  clear hl1 hb1 ho1 hm1 hnew
  generalize A.b = B at *
  clear A
  go_wp2_with fail
  go_loopg [6] N (fun kx s6 wr => ∃ i : Nat, s6 = .int .i64 (i : Int) ∧ i ≤ N ∧ N - i ≤ kx ∧ Aside (∃ A, A.b = B ∧ TI w A i wr))
  case atStart => exact ⟨0, rfl, by omega, by omega, HT0.out⟩
  case round =>
    clear HT0
    obtain ⟨i, rfl, hi, hg, HI⟩ := hrel
    obtain ⟨A, hAB, hI⟩ := HI.out
    by_cases hlt : i < N
    · have hsn := sent_c hI.lg (sq_ok (by omega)) (by omega) (by have := hI.m; omega) ⟨(i : Int), 100, 7, true⟩
      have HST : Aside (∀ e W2, SnR wr A (sq i) ⟨(i : Int), 100, 7, true⟩ e W2 → e = .returned (.int .i64 0) ∧ ∃ A', A'.b = A.b ∧ TI w A' (i + 1) W2) := fun e W2 hr => hI.sent (by omega) hr
      have i0 : (i : Int) < N := by omega
      have iw : IntKind.i64.wrap ((i : Int) + 1) = (i : Int) + 1 := wrp _ (by omega) (by omega)
      subst hAB
      clear hI HI
      go_wp2_with fail
      refine hsn.mono ?_
      intro e W2 hr
      obtain ⟨rfl, hq2⟩ := HST.out e W2 hr
      have HQ : Aside _ := hq2
      clear hq2 hr hsn HST
      go_wp2
      go_roundg (N - (i + 1))
      case measure => omega
      case rel => exact ⟨i + 1, rfl, by omega, Nat.le_refl _, HQ.out⟩
    · obtain rfl : i = N := by omega
      have i0 : ¬ (i : Int) < i := by omega
      have hac := hI.acked hN1 hkN
      subst hAB
      clear hI HI
      go_wp2_with fail
      refine hac.mono ?_
      rintro e Y ⟨o1, c1, o2, c2, rfl, hJ⟩
      clear hac
      have hJ6 := hJ.below (bel1 Y (.cells #[.slice o1 1 c1, .slice o2 (k - 2) c2, .int .i64 0, .int .i64 0] 40))
      have h8 := heap_alloc_new Y (.cells #[.slice o1 1 c1, .slice o2 (k - 2) c2, .int .i64 0, .int .i64 0] 40)
      unfold rv
      obtain ⟨n2, hn2⟩ : ∃ n2, k - 2 = n2 := ⟨_, rfl⟩
      have HN2 : Aside _ := hn2
      have hmx : max (0 : Int) ((k : Int) - 2) = (n2 : Int) := by omega
      have hn2b : n2 ≤ 32 := by omega
      rw [hn2] at hJ6 h8 ⊢
      have HJ6 : Aside _ := hJ6
      have H8 : Aside _ := h8
      clear hJ hJ6 hn2 h8
      go_upto_region 12 with fail
      generalize Y.alloc (.cells #[.slice o1 1 c1, .slice o2 n2 c2, .int .i64 0, .int .i64 0] 40) = W6 at *
      generalize Y.heap.size = B8 at *
      obtain ⟨ga, oa, rfl, ca⟩ := HJ6.out.a
      have d0 : W6.cell? ⟨B8, 0, none⟩ = some (.slice (some ⟨ga, oa, none⟩) 1 c1) := by simp [World.cell?, H8.out]
      have d1 : W6.cell? ⟨B8, 1, none⟩ = some (.slice o2 n2 c2) := by simp [World.cell?, H8.out]
      have d2 : W6.cell? ⟨B8, 2, none⟩ = some (.int .i64 0) := by simp [World.cell?, H8.out]
      have d3 : W6.cell? ⟨B8, 3, none⟩ = some (.int .i64 0) := by simp [World.cell?, H8.out]
      have s2 : IntKind.i64.wrap ((k : Int) - 2) = (k : Int) - 2 := wrp _ (by omega) (by omega)
      have s3 : IntKind.i64.wrap (n2 : Int) = n2 := wrp _ (by omega) (by omega)
      have hcase : (¬ (0 : Int) < (k : Int) - 2 ∧ (n2 : Int) = 0) ∨ ((0 : Int) < (k : Int) - 2 ∧ (k : Int) - 2 = n2) := by omega
      have HMX : Aside _ := hmx
      clear hmx
      obtain ⟨A5, L5, hA5, hl5, ho5, hc5, hz5, hd5, hu5⟩ := HJ6.out.lg
      have hfl := flight_c hl5
      rw [hA5, hz5, hd5] at hfl
      have HDU : Aside (∀ X, Below W6.heap.size W6 X → Calls Try.prog 22 #[.pointer (some ⟨A.b, 0, none⟩), .int .i64 50] X fun r w' => r = .returned (.tuple #[.int .i64 (if 0 < k then (150, true) else (0, false) : Int × Bool).1, .bool (if 0 < k then (150, true) else (0, false) : Int × Bool).2]) ∧ Below X.heap.size X w') := fun X hX => by
        have := due_c (hl5.bel hX) ho5 50
        rw [hA5, hu5] at this
        exact this
      obtain ⟨C, hC⟩ : ∃ C, L5.c = C := ⟨_, rfl⟩
      rw [hC] at hc5 hfl
      have HC5 : Aside (C = (i : Int) - 1 - (n2 : Int)) := by show C = _; rw [hc5, HN2.out]
      have HFL : Aside _ := hfl
      clear hc5 hz5 hd5 hu5 hl5 ho5 hA5 hfl hC L5 A5
      rcases hcase with ⟨t1, t2⟩ | ⟨t1, t2⟩
      all_goals
        go_upto_if 83 with fail
        have T1 : Aside _ := t1
        have T2 : Aside _ := t2
        clear t1 t2 s2 s3 d0 d2 d3 ca
        go_wp2_with fail
        go_loopg [10] n2 (fun kx s10 wr => ∃ j : Nat, s10 = .int .i64 (j : Int) ∧ j ≤ n2 ∧ n2 - j ≤ kx ∧ Aside (wr = W6))
        case atStart => exact ⟨0, rfl, by omega, by omega, rfl⟩
        case round =>
          obtain ⟨j, rfl, hj, hgj, HW⟩ := hrel
          have hwe := HW.out
          subst hwe
          clear HW
          by_cases hjt : j < n2
          · obtain ⟨gl, ol, ho2, cl⟩ := HJ6.out.l j (by rw [HN2.out]; exact hjt)
            subst ho2
            have j0 : (j : Int) < n2 := by omega
            have jw : IntKind.i64.wrap ((j : Int) + 1) = (j : Int) + 1 := wrp _ (by omega) (by omega)
            go_wp2
            go_roundg (n2 - (j + 1))
            case measure => omega
            case rel => exact ⟨j + 1, rfl, by omega, Nat.le_refl _, rfl⟩
          · obtain rfl : j = n2 := by omega
            have j0 : ¬ (j : Int) < j := by omega
            have hfl := HFL.out
            clear HFL
            go_wp2_with fail
            refine Calls.mono hfl ?_
            rintro e X6 ⟨rfl, hb6⟩
            have hdu := HDU.out X6 hb6
            clear hfl HDU d1
            go_wp2_with fail
            have HB6 : Aside _ := hb6
            clear hb6
            have u1 : IntKind.i64.wrap ((i : Int) - 1) = (i : Int) - 1 := wrp _ (by omega) (by omega)
            have hCe := HC5.out
            have u3 : IntKind.i64.wrap (7 * C) = 7 * C := wrp _ (by omega) (by omega)
            have s2 : IntKind.i64.wrap ((k : Int) - 2) = (k : Int) - 2 := wrp _ (by omega) (by omega)
            have s3 : IntKind.i64.wrap (j : Int) = j := wrp _ (by omega) (by omega)
            have t1 := T1.out
            have t2 := T2.out
            have u2 : IntKind.i64.wrap ((i : Int) - 1 - (j : Int)) = C := by rw [hCe]; exact wrp _ (by omega) (by omega)
            have u4 : (j : Int) = 0 → (i : Int) - 1 = C := by intro h; omega
            have HEND : Aside (∀ X7, Below X6.heap.size X6 X7 → RR (.returned (.bool true)) X7) := fun X7 h7 => HR.out X7 ((HJ6.out.bel.trans (HB6.out.mono HJ6.out.bel.size)).trans (h7.mono (HJ6.out.bel.trans (HB6.out.mono HJ6.out.bel.size)).size))
            clear hCe
            by_cases h0 : 0 < k
            · have v1 : (0 : Int) < k := by omega
              rw [if_pos h0] at hdu
              refine Calls.mono hdu ?_
              rintro e X7 ⟨rfl, hb7⟩
              have HE : Aside _ := HEND.out X7 hb7
              clear hdu hb7
              by_cases hj0 : (j : Int) = 0
              · first
                  | (exfalso; omega)
                  | (obtain rfl : C = (i : Int) - 1 := (u4 hj0).symm
                     have t3 : ¬ (0 : Int) < (k : Int) - 2 := t1
                     clear t1 T1
                     clear u4 u2 T2
                     go_wp2
                     exact HE.out)
              · first
                  | (exfalso; omega)
                  | (clear u4
                     go_wp2
                     exact HE.out)
            · have v1 : ¬ (0 : Int) < k := by omega
              rw [if_neg h0] at hdu
              refine Calls.mono hdu ?_
              rintro e X7 ⟨rfl, hb7⟩
              have HE : Aside _ := HEND.out X7 hb7
              clear hdu hb7
              by_cases hj0 : (j : Int) = 0
              · first
                  | (exfalso; omega)
                  | (obtain rfl : C = (i : Int) - 1 := (u4 hj0).symm
                     have t3 : ¬ (0 : Int) < (k : Int) - 2 := t1
                     clear t1 T1
                     clear u4 u2 T2
                     go_wp2
                     exact HE.out)
              · first
                  | (exfalso; omega)
                  | (clear u4
                     go_wp2
                     exact HE.out)
end Go.Proofs.Ytkjcapmhjhnckaa
