/- What the putter's acks answers. -/
import Derived.Test.YtaeapgkfmofjlaaDoorSp
namespace Go.Proofs.YtaeapgkfmofjlaaDoor
open Go.ChangeShapes Go.WideShapes Go.ChangeAt Go.RowKit
set_option linter.unusedVariables false
set_option maxRecDepth 100000

/-- The numbers that stand for span i, and for all. -/
def per (A : List (Int × Int)) (i : Nat) : List Int := if i = 0 then [(A.getD 0 (0, 0)).2 - (A.getD 0 (0, 0)).1] else [(A.getD (i - 1) (0, 0)).1 - (A.getD i (0, 0)).2 - 2, (A.getD i (0, 0)).2 - (A.getD i (0, 0)).1]
def pers (A : List (Int × Int)) (i : Nat) : List Int := (List.range i).flatMap (per A)
def ackL (A : List (Int × Int)) (del : Int) : List Int := [(A.getD 0 (0, 0)).2, del, (A.length : Int) - 1] ++ pers A A.length
theorem bel1 (w : World) (o : Obj) : Below w.heap.size w (w.alloc o) := (Below.refl _ w).alloc (Nat.le_refl _) o
theorem pers_succ (A : List (Int × Int)) (i : Nat) : pers A (i + 1) = pers A i ++ per A i := by simp [pers, List.range_succ]
theorem per_le (A : List (Int × Int)) (i : Nat) : (per A i).length ≤ 2 := by unfold per; split <;> simp
theorem pers_le (A : List (Int × Int)) : ∀ i, (pers A i).length ≤ 2 * i
  | 0 => by simp [pers]
  | i + 1 => by
    rw [pers_succ, List.length_append]
    have := pers_le A i
    have := per_le A i
    omega
theorem encs_append (a b : List Int) : encs (a ++ b) = encs a ++ encs b := by simp [encs]
theorem bads_append (a b : List Int) : bads (a ++ b) = (bads a || bads b) := by simp [bads]
theorem encs_one (a : Int) : encs [a] = encv a := by simp [encs]
theorem bads_one (a : Int) : bads [a] = badv a := by simp [bads]
section
variable {w w' : World} {p B F : Nat} {X : List UInt8} {r : Bool} {f : Fr} {d : Da}
theorem WD.number (h : WD w p B F X r f d) (n : Int) (hX : X.length ≤ 4000000) : Calls Tryd.prog 38 #[.pointer (some ⟨p, 0, none⟩), .int .i64 n] w fun e w' => e = .returned (.tuple #[]) ∧ Hid (WD w' p B F (X ++ encs [n]) (r || bads [n]) f d) ∧ Hid (Gr p B w w') := by
  obtain ⟨v, hv⟩ := h.s.pu
  rw [encs_one, bads_one]
  exact (pnumber p B v X r n w h.s.tb hv h.s.bs (by omega)).mono (by rintro e w' ⟨rfl, hp, hg⟩; exact ⟨rfl, h.on hg (h.s.on hg hp), hg⟩)
theorem WD.refuse (h : WD w p B F X r f d) : WD (w.setCell ⟨p, 1, none⟩ (.bool true)) p B F X true f d := by
  obtain ⟨v, hv⟩ := h.s.pu
  exact h.on (Gr.set p B 1 w _) (h.s.on (Gr.set p B 1 w _) ⟨v, hv.set1 true⟩)
theorem WD.bel (h : WD w p B F X r f d) (hb : Below w.heap.size w w') : WD w' p B F X r f d := by
  obtain ⟨v, hv⟩ := h.s.pu
  exact h.on (Gr.of_below hb) (h.s.on (Gr.of_below hb) ⟨v, hv.below hb⟩)
end
set_option maxHeartbeats 1000000 in
theorem packs_no (p B F : Nat) (X : List UInt8) (r : Bool) (f : Fr) (d : Da) (w : World) (h : WD w p B F X r f d) (hs : spB d.A = false) :
    Calls Tryd.prog 88 #[.pointer (some ⟨p, 0, none⟩), .pointer (some ⟨F, 0, none⟩)] w fun e w' => e = .returned (.tuple #[]) ∧ Hid (WD w' p B F X true f d) ∧ Hid (Gr p B w w') := by
  have c9 : w.cell? ⟨F, 9, none⟩ = some (.slice d.oA d.A.length d.cA) := (h.s.fm.at 9 _ rfl).trans (by rw [h.f.vA])
  have h1 := spans_c d.oA d.A d.cA w h.f.sA h.f.lA
  rw [hs] at h1
  have HW := mkHid h
  clear h hs
  go_enter Tryd.func88, Tryd.ntmps88
  go_wp2_with fail
  refine h1.mono ?_
  rintro e w1 ⟨rfl, hb⟩
  have HW1 := mkHid (HW.out.bel hb)
  have HG1 := mkHid (Gr.of_below (p := p) (B := B) hb)
  obtain ⟨v, hv⟩ := HW1.out.s.pu
  have c1 := hv.c1
  have f1 := hv.fr 1
  clear hb hv h1 c9
  go_wp2
  refine bodyPost_ret (results_none rfl _ _ _) rfl ?_
  exact ⟨rfl, HW1.out.refuse, HG1.out.trans (Gr.set p B 1 w1 _)⟩
set_option maxHeartbeats 2000000 in
theorem packs_yes (p B F : Nat) (X : List UInt8) (r : Bool) (f : Fr) (d : Da) (w : World) (h : WD w p B F X r f d) (hX : X.length ≤ 4000) (hs : spB d.A = true) :
    Calls Tryd.prog 88 #[.pointer (some ⟨p, 0, none⟩), .pointer (some ⟨F, 0, none⟩)] w fun e w' => e = .returned (.tuple #[]) ∧ Hid (WD w' p B F (X ++ encs (ackL d.A f.del)) (r || bads (ackL d.A f.del)) f d) ∧ Hid (Gr p B w w') := by
  have h1 := spans_c d.oA d.A d.cA w h.f.sA h.f.lA
  rw [hs] at h1
  simp only [spB, Bool.and_eq_true, decide_eq_true_eq] at hs
  obtain ⟨⟨s1, s2⟩, s3⟩ := hs
  obtain ⟨ba, off, ha, hc⟩ := h.f.sA.at0 (by omega)
  have hbA := h.f.bA _ ha
  have HK : Aside (okS 4611686018427387903 d.A = true) := s3
  have HC : Aside (∀ W, Gr p B w W → ∀ j (hj : j < d.A.length), W.cell? ⟨ba, off + j * 2, none⟩ = some (.int .i64 (d.A[j]).1) ∧ W.cell? ⟨ba, off + j * 2 + 1, none⟩ = some (.int .i64 (d.A[j]).2)) := fun W hg j hj => by
    obtain ⟨c1, c2⟩ := hc j hj
    have e := hg.block ba (World.block_lt_of_cell? _ _ c1) hbA.2 (.inl hbA.1)
    exact ⟨(World.cell?_of_block (a := ⟨ba, off + j * 2, none⟩) e).trans c1, (World.cell?_of_block (a := ⟨ba, off + j * 2 + 1, none⟩) e).trans c2⟩
  have HF : Aside (∀ W r' X', WD W p B F X' r' f d → W.cell? ⟨F, 9, none⟩ = some (.slice (some ⟨ba, off, none⟩) d.A.length d.cA) ∧ W.cell? ⟨F, 10, none⟩ = some (.int .i64 f.del)) := fun W r' X' hw => ⟨(hw.s.fm.at 9 _ rfl).trans (by rw [hw.f.vA, ha]), hw.s.fm.at 10 _ rfl⟩
  rw [ha] at h1
  have HW := mkHid h
  have HX := mkHid hX
  have c9 := (HF.out w r X h).1
  have HL : Aside (∀ L : List Int, L.length ≤ 515 → (X ++ encs L).length ≤ 4000000) := fun L hL => by
    have := encs_le L
    rw [List.length_append]
    omega
  have HAL : Aside (ackL d.A f.del = [(d.A.getD 0 (0, 0)).2, f.del, (d.A.length : Int) - 1] ++ pers d.A d.A.length) := rfl
  have HA0 : Aside (∀ i (hi : i < d.A.length), d.A.getD i (0, 0) = d.A[i]) := fun i hi => by simp [List.getD_eq_getElem?_getD, List.getElem?_eq_getElem hi]
  obtain ⟨q0, q1⟩ := HC.out w (Gr.refl _ _ _) 0 (by omega)
  rw [← HA0.out 0 (by omega)] at q0 q1
  simp only [Nat.zero_mul, Nat.add_zero] at q0 q1
  have HQ1 : Aside (∀ W, Gr p B w W → W.cell? ⟨ba, off + 1, none⟩ = some (.int .i64 (d.A.getD 0 (0, 0)).2)) := fun W hg => by
    have := (HC.out W hg 0 (by omega)).2
    rw [← HA0.out 0 (by omega)] at this
    simpa using this
  obtain ⟨n, hn⟩ : ∃ n, d.A.length = n := ⟨_, rfl⟩
  have HN : Aside (d.A.length = n) := hn
  rw [hn] at h1 c9 HAL s1 s2
  have HF' : Aside (∀ W r' X', WD W p B F X' r' f d → W.cell? ⟨F, 9, none⟩ = some (.slice (some ⟨ba, off, none⟩) n d.cA) ∧ W.cell? ⟨F, 10, none⟩ = some (.int .i64 f.del)) := fun W r' X' hw => by rw [← hn]; exact HF.out W r' X' hw
  have hn1 : IntKind.i64.wrap ((n : Int) - 1) = (n : Int) - 1 := wrp _ (by omega) (by omega)
  clear h hX ha hc hbA hn s3 HF
  go_enter Tryd.func88, Tryd.ntmps88
  go_wp2_with fail
  refine h1.mono ?_
  rintro e w1 ⟨rfl, hb⟩
  have HW1 := mkHid (HW.out.bel hb)
  have HG1 := mkHid (Gr.of_below (p := p) (B := B) hb)
  clear hb h1 c9 q0 q1
  have c9 := (HF'.out w1 r X HW1.out).1
  have q1 := HQ1.out w1 HG1.out
  have hc := WD.number HW1.out (d.A.getD 0 (0, 0)).2 (by have := HX.out; omega)
  generalize (d.A.getD 0 (0, 0)).2 = b0 at *
  go_wp2_with fail
  refine hc.mono ?_
  rintro e w2 ⟨rfl, HW2, HG2⟩
  have HG2' := mkHid (HG1.out.trans HG2.out)
  clear hc c9 q1 HW1 HG1 HG2
  have c10 := (HF'.out w2 _ _ HW2.out).2
  have hc := WD.number HW2.out f.del (HL.out [b0] (by simp))
  go_wp2_with fail
  refine hc.mono ?_
  rintro e w3 ⟨rfl, HW3, HG3⟩
  have HG3' := mkHid (HG2'.out.trans HG3.out)
  clear hc c10 HW2 HG2' HG3
  have c9 := (HF'.out w3 _ _ HW3.out).1
  have hc := WD.number HW3.out ((n : Int) - 1) (by rw [List.append_assoc, ← encs_append]; exact HL.out _ (by simp))
  go_wp2_with fail
  refine hc.mono ?_
  rintro e w4 ⟨rfl, HW4, HG4⟩
  have HG4' := mkHid (HG3'.out.trans HG4.out)
  have HE1 : X ++ encs [b0] ++ encs [f.del] ++ encs [(n : Int) - 1] = X ++ encs ([b0, f.del, (n : Int) - 1] ++ pers d.A 0) := by rw [List.append_assoc, List.append_assoc, ← encs_append, ← encs_append]; simp [pers]
  have HE2 : (r || bads [b0] || bads [f.del] || bads [(n : Int) - 1]) = (r || bads ([b0, f.del, (n : Int) - 1] ++ pers d.A 0)) := by rw [Bool.or_assoc, Bool.or_assoc, ← bads_append, ← bads_append]; simp [pers]
  rw [HE1, HE2] at HW4
  clear hc c9 HW3 HG3' HG4 HE1 HE2
  have c9 := (HF'.out w4 _ _ HW4.out).1
  go_wp2
  go_loopg [43] (n + 1) (fun kx s43 wr => ∃ (i : Nat), s43 = .int .i64 (i : Int) ∧ i ≤ n ∧ n + 1 - i ≤ kx ∧ Hid (WD wr p B F (X ++ encs ([b0, f.del, (n : Int) - 1] ++ pers d.A i)) (r || bads ([b0, f.del, (n : Int) - 1] ++ pers d.A i)) f d) ∧ Hid (Gr p B w wr))
  case atStart => exact ⟨0, rfl, by omega, by omega, HW4, HG4'⟩
  case round =>
    obtain ⟨i, rfl, hi, hk, HR, HRG⟩ := hrel
    clear HW4 HG4' c9
    by_cases hlt : i < n
    rotate_left
    · obtain rfl : i = n := by omega
      clear hlt
      go_wp2
      go_end0
      exact ⟨rfl, by rw [HAL.out]; exact HR.out, HRG.out⟩
    · have hlA : i < d.A.length := by have := HN.out; omega
      obtain ⟨q0, q1⟩ := HC.out wr HRG.out i hlA
      obtain ⟨k1, k2, k3, k4⟩ := okS_at HK.out i hlA
      rw [← HA0.out i hlA] at q0 q1 k1 k2 k3
      obtain ⟨a, ha⟩ : ∃ a, (d.A.getD i (0, 0)).1 = a := ⟨_, rfl⟩
      obtain ⟨b, hb⟩ : ∃ b, (d.A.getD i (0, 0)).2 = b := ⟨_, rfl⟩
      rw [ha] at q0 k1 k2
      rw [hb] at q1 k2 k3
      have c3 : (i : Int) < (n : Int) := by omega
      have n7 : IntKind.i64.wrap ((i : Int) + 1) = (i : Int) + 1 := wrp _ (by omega) (by omega)
      have n8 : IntKind.i64.wrap (b - a) = b - a := wrp _ (by omega) (by omega)
      obtain ⟨K, hK⟩ : ∃ K, wr.heap.size = K := ⟨_, rfl⟩
      obtain ⟨W0, hW0⟩ : ∃ W0, wr.alloc (.cells #[.int .i64 a, .int .i64 b] 47) = W0 := ⟨_, rfl⟩
      have hb0 : Below wr.heap.size wr W0 := by rw [← hW0]; exact bel1 wr _
      have HW0 := mkHid (HR.out.bel hb0)
      have HG0 := mkHid (HRG.out.trans (Gr.of_below (p := p) (B := B) hb0))
      have hk0 : W0.heap[K]? = some (.cells #[.int .i64 a, .int .i64 b] 47 (0, 0)) := by rw [← hW0, ← hK]; exact heap_alloc_new wr _
      have hKp : K ≠ p := by have := HR.out.s.pu; obtain ⟨v, hv⟩ := this; have := lt_block hv.row; omega
      have HKC : Aside (∀ W, Gr p B W0 W → W.cell? ⟨K, 0, none⟩ = some (.int .i64 a) ∧ W.cell? ⟨K, 1, none⟩ = some (.int .i64 b)) := fun W hg => by
        have e := (hg.block K (lt_block hk0) hKp (.inr (fun cs fr h9 => by rw [hk0] at h9; injection h9 with h9; injection h9 with _ h9 _; cases h9))).trans hk0
        constructor <;> simp [World.cell?, e]
      clear hb0 hk0 HR
      by_cases h0 : i = 0
      · subst h0
        have HP : Aside (per d.A 0 = [b - a]) := by show per d.A 0 = _; unfold per; rw [if_pos rfl, ha, hb]
        have hc := WD.number HW0.out (b - a) (HL.out _ (by have := pers_le d.A 0; simp only [List.length_append, List.length_cons, List.length_nil]; omega))
        obtain ⟨y0, y1⟩ := HKC.out W0 (Gr.refl _ _ _)
        simp only [Nat.zero_mul, Nat.add_zero] at q0 q1
        clear k3 k4 ha hb hlA hlt
        go_wp2_with fail
        refine hc.mono ?_
        rintro e w5 ⟨rfl, HW5, HG5⟩
        rw [List.append_assoc, ← encs_append, Bool.or_assoc, ← bads_append, List.append_assoc, ← HP.out, ← pers_succ] at HW5
        have HG5' := mkHid (HG0.out.trans HG5.out)
        clear hc
        go_wp2
        go_roundg (n + 1 - (0 + 1))
        case measure => omega
        case rel => exact ⟨0 + 1, rfl, by omega, Nat.le_refl _, HW5, HG5'⟩
      · obtain ⟨j, rfl⟩ : ∃ j, i = j + 1 := ⟨i - 1, by omega⟩
        have hjA : j < d.A.length := by omega
        obtain ⟨a', ha'⟩ : ∃ a', (d.A.getD j (0, 0)).1 = a' := ⟨_, rfl⟩
        have HJ : Aside (∀ W, Gr p B w W → W.cell? ⟨ba, off + j * 2, none⟩ = some (.int .i64 a')) := fun W hg => by
          have := (HC.out W hg j hjA).1
          rw [← HA0.out j hjA, ha'] at this
          exact this
        obtain ⟨j1, j2, j3, j4⟩ := okS_at HK.out j hjA
        have j5 := j4 hlA
        rw [← HA0.out j hjA] at j1 j5 j2 j3
        rw [← HA0.out (j + 1) hlA] at j5
        rw [ha'] at j1 j5 j2
        rw [hb] at j5
        have HP : Aside (per d.A (j + 1) = [a' - b - 2, b - a]) := by show per d.A (j + 1) = _; unfold per; rw [if_neg (by omega), ha, hb, Nat.add_sub_cancel, ha']
        have m1 : IntKind.i64.wrap (((j + 1 : Nat) : Int) - 1) = (j : Int) := by rw [wrp _ (by omega) (by omega)]; omega
        have m2 : IntKind.i64.wrap (a' - b) = a' - b := wrp _ (by omega) (by omega)
        have m3 : IntKind.i64.wrap (a' - b - 2) = a' - b - 2 := wrp _ (by omega) (by omega)
        have p0 : (0 : Int) < ((j + 1 : Nat) : Int) := by omega
        have HWd := mkHid HW0.out.drew
        have HGd := mkHid HG0.out.drew
        have hc := WD.number HWd.out (a' - b - 2) (HL.out _ (by have := pers_le d.A (j + 1); simp only [List.length_append, List.length_cons, List.length_nil]; omega))
        have HS : Aside (∀ W r' X', WD W p B F X' r' f d → Gr p B W0 W → W.cell? ⟨F, 9, none⟩ = some (.slice (some ⟨ba, off, none⟩) n d.cA) ∧ W.cell? ⟨ba, off + j * 2, none⟩ = some (.int .i64 a') ∧ W.cell? ⟨K, 1, none⟩ = some (.int .i64 b)) := fun W r' X' hw hg => ⟨(HF'.out W r' X' hw).1, HJ.out W (HG0.out.trans hg), (HKC.out W hg).2⟩
        have HGr := mkHid ((Gr.refl p B W0).drew)
        have c4 : (j : Int) < (n : Int) := by omega
        have c5 : (0 : Int) ≤ (j : Int) := by omega
        have c6 : (j : Int) ≤ (n : Int) := by omega
        have m4 : IntKind.i64.wrap (j : Int) = (j : Int) := wrp _ (by omega) (by omega)
        have m5 : ((j + 1 : Nat) : Int) - 1 = (j : Int) := by omega
        clear k3 k4 ha hb hlA hlt ha' j1 j2 j3 j4 j5 hjA h0
        go_wp2_with fail
        go_region_held3 (fun W => W.cell? ⟨F, 9, none⟩ = some (.slice (some ⟨ba, off, none⟩) n d.cA) ∧ W.cell? ⟨ba, off + j * 2, none⟩ = some (.int .i64 a') ∧ W.cell? ⟨K, 1, none⟩ = some (.int .i64 b)) (first | exact HS.out _ _ _ HW5.out (HGr.out.trans HG5.out) | exact HS.out _ _ _ HWd.out HGr.out) (first | (go_at_call 38; refine Calls.mono hc ?_; rintro e w5 ⟨rfl, HW5, HG5⟩))
        have HG5' := mkHid (HGr.out.trans HG5.out)
        have HG5'' := mkHid (HG0.out.trans HG5'.out)
        obtain ⟨y0, y1⟩ := HKC.out w5 HG5'.out
        have hc2 := WD.number HW5.out (b - a) (by rw [List.append_assoc, ← encs_append]; exact HL.out _ (by have := pers_le d.A (j + 1); simp only [List.length_append, List.length_cons, List.length_nil]; omega))
        clear hc HWd HW0
        go_wp2_with fail
        refine hc2.mono ?_
        rintro e w6 ⟨rfl, HW6, HG6⟩
        have HE1 : X ++ encs ([b0, f.del, (n : Int) - 1] ++ pers d.A (j + 1)) ++ encs [a' - b - 2] ++ encs [b - a] = X ++ encs ([b0, f.del, (n : Int) - 1] ++ pers d.A (j + 1 + 1)) := by
          rw [pers_succ d.A (j + 1), HP.out]
          simp only [encs, List.flatMap_append, List.flatMap_cons, List.flatMap_nil, List.append_assoc, List.append_nil]
        have HE2 : (r || bads ([b0, f.del, (n : Int) - 1] ++ pers d.A (j + 1)) || bads [a' - b - 2] || bads [b - a]) = (r || bads ([b0, f.del, (n : Int) - 1] ++ pers d.A (j + 1 + 1))) := by
          rw [pers_succ d.A (j + 1), HP.out]
          simp only [bads, List.any_append, List.any_cons, List.any_nil, Bool.or_assoc, Bool.or_false]
        rw [HE1, HE2] at HW6
        clear HE1 HE2
        have HG6' := mkHid (HG5''.out.trans HG6.out)
        clear hc2
        go_wp2
        go_roundg (n + 1 - (j + 1 + 1))
        case measure => omega
        case rel => exact ⟨j + 1 + 1, rfl, by omega, Nat.le_refl _, HW6, HG6'⟩
end Go.Proofs.YtaeapgkfmofjlaaDoor
