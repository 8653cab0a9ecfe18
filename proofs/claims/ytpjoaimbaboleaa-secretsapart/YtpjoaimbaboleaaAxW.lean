/- SecretsApart, the walk. -/
import Derived.Test.YtpjoaimbaboleaaAx
namespace Go.Proofs.Ytpjoaimbaboleaa
open Go.RowKit Go.Shelf Go.Lib
set_option linter.unusedVariables false

theorem hm29 : Try.prog.eqGuardType Try.prog.depth 29 = false := by kernel_rfl
theorem hu29 : Try.prog.underlying 29 = some (.array 16 5) := hu28
theorem eq_str (la lb : List UInt8) {q : Bool} (h : decide (la = lb) = q) : ((⟨la.toArray⟩ : ByteArray).toList == (⟨lb.toArray⟩ : ByteArray).toList) = q := by
  have e : (⟨la.toArray⟩ : ByteArray).toList = (⟨lb.toArray⟩ : ByteArray).toList ↔ la = lb := ⟨fun h => ba_list (ba_inj h), fun h => by rw [h]⟩
  rw [← h, Bool.eq_iff_iff]
  simp only [beq_iff_eq, decide_eq_true_eq]
  exact e
theorem fresh_kc {W0 w : World} {V : Nat} {L : List Tm} (h : Ag W0 w V L) (hle : L.length ≤ 1000000) : Calls Try.prog 10 #[.pointer (some ⟨V, 0, none⟩)] w fun e w' => e = .returned (hv (nameL L.length)) ∧ Ag W0 w' V (L ++ [fr]) ∧ Kc w w' := by
  obtain ⟨G, c, M, hv⟩ := h.va
  refine (fresh_c hv hle).mono ?_
  rintro e w' ⟨rfl, G', c', h1, h2, h3⟩
  exact ⟨rfl, ⟨h.bel.trans (h2.bel hv), G', c', M, h1⟩, Kc.of_vc h2 hv⟩
theorem arr_at {w : World} {C i : Nat} {Hs : List (List UInt8)} {H : List UInt8} (h16 : H16 Hs) (h : w.heap[C]? = some (.cells (hrow Hs).toArray 29 (0, 0))) (hi : Hs[i]? = some H) : w.rangeAt C (i * 16) (hl H) := by
  intro j v hv
  have hj : j < 16 := by have := (List.getElem?_eq_some_iff.1 hv).1; rw [hl_len, h16 H (List.mem_of_getElem? hi)] at this; exact this
  have e : (hrow Hs)[i * 16 + j]? = some v := (hrow_at h16 hi hj).trans hv
  unfold World.cell?
  simp only [h]
  simpa using e
theorem arr3 (j : Nat) (hj : j < 3) : ([nameL 1, nameL 2, nameL 3] : List (List UInt8))[j]? = some (nameL (j + 1)) := by
  rcases (show j = 0 ∨ j = 1 ∨ j = 2 by omega) with rfl | rfl | rfl <;> rfl
theorem arr16 : H16 [nameL 1, nameL 2, nameL 3] := fun H hH => by
  simp only [List.mem_cons, List.not_mem_nil, or_false] at hH
  rcases hH with rfl | rfl | rfl <;> exact nameL_len _
/-- What lies there while the secrets of traffic are made. -/
structure Aw (W0 : World) (V m0 B14 C : Nat) (LA : List Tm) (kn m : Nat) (os : Option Addr) (c : Nat) (w : World) : Prop where
  ag : Ag W0 w V (Lm LA kn m)
  b14 : w.heap[B14]? = some (.cells (hl (nameL kn)).toArray 29 (0, 0))
  arr : w.heap[C]? = some (.cells (hrow [nameL 1, nameL 2, nameL 3]).toArray 29 (0, 0))
  row : w.ownsRow m0 29 16 (.slice os (Hm LA.length m).length c) (Hm LA.length m).length (hrow (Hm LA.length m))
  l0 : W0.heap.size ≤ m0
  l1 : B14 < m0
  l2 : C + 1 = m0
section
variable {W0 w w' : World} {V m0 B14 C : Nat} {LA : List Tm} {kn m : Nat} {os : Option Addr} {c : Nat}
theorem Aw.kc (h : Aw W0 V m0 B14 C LA kn m os c w) (hk : Kc w w') {m' : Nat} (ha : Ag W0 w' V (Lm LA kn m')) : w'.heap[B14]? = some (.cells (hl (nameL kn)).toArray 29 (0, 0)) ∧ w'.heap[C]? = some (.cells (hrow [nameL 1, nameL 2, nameL 3]).toArray 29 (0, 0)) ∧ w'.ownsRow m0 29 16 (.slice os (Hm LA.length m).length c) (Hm LA.length m).length (hrow (Hm LA.length m)) :=
  ⟨hk _ _ _ _ h.b14 (by decide) (by decide), hk _ _ _ _ h.arr (by decide) (by decide), own_stay h.row fun g cs hg => hk _ _ _ _ hg (by decide) (by decide)⟩
theorem Aw.go (h : Aw W0 V m0 B14 C LA kn m os c w) (hb : Below w.heap.size w w') : Aw W0 V m0 B14 C LA kn m os c w' := by
  obtain ⟨h1, h2, h3⟩ := h.kc (Kc.of_bel hb) (h.ag.go hb)
  exact ⟨h.ag.go hb, h1, h2, h3, h.l0, h.l1, h.l2⟩
theorem Aw.l3 (h : Aw W0 V m0 B14 C LA kn m os c w) : m0 ≤ w.heap.size := by have := (Array.getElem?_eq_some_iff.1 h.arr).1; have := h.l2; omega
/-- The row does not meet a box. -/
def Ne' (os : Option Addr) (B : Nat) : Prop := ∀ x, os = some x → x.block ≠ B
theorem Aw.ne (h : Aw W0 V m0 B14 C LA kn m os c w) : Ne' os w.heap.size := by
  intro x hx
  subst hx
  obtain ⟨_, h1 | ⟨g, cap, cur, e, _, h2, _⟩⟩ := h.row
  · cases h1.1
  · injection e with e _ _
    injection e with e
    subst e
    exact Nat.ne_of_lt (Array.getElem?_eq_some_iff.1 h2).1
/-- One more. -/
theorem Aw.push (h : Aw W0 V m0 B14 C LA kn m os c w) {w2 : World} (hk : Kc w w2) (ha : Ag W0 w2 V (Lm LA kn (m + 1))) {b : Nat} (hb : w2.heap[b]? = some (.cells (hl (nameL (LA.length + m))).toArray 29 (0, 0))) (hm : m ≤ 1000) :
    ∃ g c' w', (Builtin.append_ #[31, 31] 31 #[.slice os m c, .slice (some ⟨b, 0, none⟩) 1 1]).run Try.prog w2 = .ok (.slice (some ⟨g, 0, none⟩) (m + 1) c') w' ∧ Aw W0 V m0 B14 C LA kn (m + 1) (some ⟨g, 0, none⟩) c' w' ∧ (∀ k, k < w2.heap.size → Ne' os k → w'.heap[k]? = w2.heap[k]?) ∧ ∀ k, k < w2.heap.size → Ne' os k → Ne' (some ⟨g, 0, none⟩) k := by
  obtain ⟨h1, h2, h3⟩ := h.kc hk ha
  have l3 : m0 ≤ w2.heap.size := by have := (Array.getElem?_eq_some_iff.1 h2).1; have := h.l2; omega
  obtain ⟨g, c', w', r1, r2, r3, r4, r5, r6⟩ := hr_app h3 (nameL_len _) hb l3 (by rw [Hm_len]; omega)
  rw [Hm_len] at r1 r2
  rw [Hm_succ] at r2
  have hB := r4.block B14 h.l1
  have hC := r4.block C (by have := h.l2; omega)
  refine ⟨g, c', w', r1, ⟨ha.kp (r4.mono h.l0) r3 (by decide) (by decide), hB.trans h1, hC.trans h2, by rw [Hm_len]; exact r2, h.l0, h.l1, h.l2⟩, fun k hk hx => r5 k hk hx, fun k hk hx x hx' => ?_⟩
  obtain rfl := Option.some.inj hx'
  rcases r6 with ⟨y, hy, e⟩ | e
  · rw [← e]; exact hx y hy
  · show g ≠ k; omega
end
set_option maxRecDepth 100000 in
set_option maxHeartbeats 16000000 in
theorem apart_walk (oa ob : Option Addr) (ca cb : Nat) (la lb : List UInt8) (w : World) (hA : Sl w oa la) (hB : Sl w ob lb) (hla : la.length ≤ 140737488351232) (hlb : lb.length ≤ 140737488351232) : Calls Try.prog 6 #[.slice oa la.length ca, .slice ob lb.length cb] w fun e w' => e = .returned (.bool true) ∧ Below w.heap.size w w' := by
  have HSA : Aside (Sl w oa la) := hA
  have HSB : Aside (Sl w ob lb) := hB
  have HLA : Aside (la.length ≤ 140737488351300) := by show _ ≤ _; omega
  have HLB : Aside (lb.length ≤ 140737488351300) := by show _ ≤ _; omega
  clear hA hB hla hlb
  obtain ⟨zi, LB, hd4, hzi, hz4, hL4, hL5, hof⟩ := dv_a4 la lb
  have HD4 : Aside _ := hd4
  have HZI : Aside (zi = 2 ↔ la = lb) := hzi
  have HOF : Aside (∀ t ∈ LB, t.kd = 2 → t.of' ≤ 2) := hof
  clear hd4 hzi hof
  have mixed : Try.prog.follows Departure.mixedOrders = true := by kernel_rfl
  go_enter Try.func6, Try.ntmps6
  go_wp2_with fail
  refine Calls.mono (new_c w) ?_
  rintro e W1 ⟨V, G, c, M, rfl, hva, hb1⟩
  have HA : Aside (Ag w W1 V [rt]) := ⟨hb1, G, c, M, hva⟩
  clear hva hb1
  go_wp2_with fail
  refine Calls.mono (a15 HA.out (by simp)) ?_
  rintro e W2 hq
  rw [dv_a1] at hq
  obtain ⟨rfl, hq1, hq2⟩ := hq
  have HA' : Aside (Ag w W2 V [rt, tS]) := hq1
  clear HA hq1 hq2
  go_wp2_with (refine st28 rfl (.tmp 6) (.tmp 29) rfl W2.heap.size (nameL 1) rfl rfl z16 (heap_alloc_new W2 _) (nameL_len _) rfl (Hid.out ?_))
  rw [hz28]
  have HBn := (nbox W2 z16 (nameL 1)).2
  have X6 : Aside _ := (nbox W2 z16 (nameL 1)).1
  have HA : Aside (Ag w ((W2.alloc (.cells (hl z16).toArray 29)).setRow W2.heap.size (hl (nameL 1)).toArray) V [rt, tS]) := HA'.out.go HBn
  clear HA' HBn
  generalize (W2.alloc (.cells (hl z16).toArray 29)).setRow W2.heap.size (hl (nameL 1)).toArray = W2b at *
  generalize W2.heap.size = D6 at *
  refine mkHid ?_
  go_wp2_with (first | (refine ld28 rfl (.tmp 6) rfl D6 rfl (nameL 1) X6.out (nameL_len _) ?_))
  refine Calls.mono (a16 HA.out (by simp) (nameL 1) (nameL_len _) oa ca la (HSA.out.bel HA.out.bel) HLA.out) ?_
  rintro e W3 hq
  rw [dv_a2] at hq
  obtain ⟨rfl, hq1, hq2⟩ := hq
  have HA' : Aside (Ag w W3 V [rt, tS, tM 1 la]) := hq1
  have X6' : Aside _ := hq2 _ _ _ _ X6.out (by decide) (by decide)
  clear HA hq1 hq2 X6
  go_wp2_with (refine st28 rfl (.tmp 8) (.tmp 36) rfl W3.heap.size (nameL 2) rfl rfl z16 (heap_alloc_new W3 _) (nameL_len _) rfl (Hid.out ?_))
  rw [hz28]
  have HBn := (nbox W3 z16 (nameL 2)).2
  have X8 : Aside _ := (nbox W3 z16 (nameL 2)).1
  have HA : Aside (Ag w ((W3.alloc (.cells (hl z16).toArray 29)).setRow W3.heap.size (hl (nameL 2)).toArray) V [rt, tS, tM 1 la]) := HA'.out.go HBn
  have X6 : Aside _ := heap_bel X6'.out HBn
  clear HA' HBn X6'
  generalize (W3.alloc (.cells (hl z16).toArray 29)).setRow W3.heap.size (hl (nameL 2)).toArray = W3b at *
  generalize W3.heap.size = D8 at *
  refine mkHid ?_
  go_wp2_with (first | (refine ld28 rfl (.tmp 6) rfl D6 rfl (nameL 1) X6.out (nameL_len _) ?_) | (refine ld28 rfl (.tmp 8) rfl D8 rfl (nameL 2) X8.out (nameL_len _) ?_))
  refine Calls.mono (a16 HA.out (by simp) (nameL 2) (nameL_len _) ob cb lb (HSB.out.bel HA.out.bel) HLB.out) ?_
  rintro e W4 hq
  rw [dv_a3] at hq
  obtain ⟨rfl, hq1, hq2⟩ := hq
  have HA' : Aside (Ag w W4 V [rt, tS, tM 1 la, tM 2 lb]) := hq1
  have X6' : Aside _ := hq2 _ _ _ _ X6.out (by decide) (by decide)
  have X8' : Aside _ := hq2 _ _ _ _ X8.out (by decide) (by decide)
  clear HA hq1 hq2 X6 X8
  go_wp2_with (refine st28 rfl (.tmp 10) (.tmp 43) rfl W4.heap.size (nameL 3) rfl rfl z16 (heap_alloc_new W4 _) (nameL_len _) rfl (Hid.out ?_))
  rw [hz28]
  have HBn := (nbox W4 z16 (nameL 3)).2
  have X10 : Aside _ := (nbox W4 z16 (nameL 3)).1
  have HA : Aside (Ag w ((W4.alloc (.cells (hl z16).toArray 29)).setRow W4.heap.size (hl (nameL 3)).toArray) V [rt, tS, tM 1 la, tM 2 lb]) := HA'.out.go HBn
  have X6 : Aside _ := heap_bel X6'.out HBn
  have X8 : Aside _ := heap_bel X8'.out HBn
  clear HA' HBn X6' X8'
  generalize (W4.alloc (.cells (hl z16).toArray 29)).setRow W4.heap.size (hl (nameL 3)).toArray = W4b at *
  generalize W4.heap.size = D10 at *
  refine mkHid ?_
  go_wp2_with (first | (refine ld28 rfl (.tmp 6) rfl D6 rfl (nameL 1) X6.out (nameL_len _) ?_) | (refine ld28 rfl (.tmp 8) rfl D8 rfl (nameL 2) X8.out (nameL_len _) ?_) | (refine ld28 rfl (.tmp 10) rfl D10 rfl (nameL 3) X10.out (nameL_len _) ?_))
  refine Calls.mono (a16 HA.out (by simp) (nameL 1) (nameL_len _) ob cb lb (HSB.out.bel HA.out.bel) HLB.out) ?_
  rintro e W5 hq
  rw [HD4.out] at hq
  obtain ⟨rfl, hq1, hq2⟩ := hq
  have HA' : Aside (Ag w W5 V LB) := hq1
  have X6' : Aside _ := hq2 _ _ _ _ X6.out (by decide) (by decide)
  have X8' : Aside _ := hq2 _ _ _ _ X8.out (by decide) (by decide)
  have X10' : Aside _ := hq2 _ _ _ _ X10.out (by decide) (by decide)
  clear HA hq1 hq2 X6 X8 X10
  go_wp2_with (refine st28 rfl (.tmp 12) (.tmp 50) rfl W5.heap.size (nameL zi) rfl rfl z16 (heap_alloc_new W5 _) (nameL_len _) rfl (Hid.out ?_))
  rw [hz28]
  have HBn := (nbox W5 z16 (nameL zi)).2
  have X12 : Aside _ := (nbox W5 z16 (nameL zi)).1
  have HA : Aside (Ag w ((W5.alloc (.cells (hl z16).toArray 29)).setRow W5.heap.size (hl (nameL zi)).toArray) V LB) := HA'.out.go HBn
  have X6 : Aside _ := heap_bel X6'.out HBn
  have X8 : Aside _ := heap_bel X8'.out HBn
  have X10 : Aside _ := heap_bel X10'.out HBn
  clear HA' HBn X6' X8' X10'
  generalize (W5.alloc (.cells (hl z16).toArray 29)).setRow W5.heap.size (hl (nameL zi)).toArray = W5b at *
  generalize W5.heap.size = D12 at *
  refine mkHid ?_
  go_wp2_with fail
  refine Calls.mono (fresh_kc HA.out (by omega)) ?_
  rintro e W6 ⟨rfl, hq1, hq2⟩
  have HA' : Aside (Ag w W6 V (LB ++ [fr])) := hq1
  have X6' : Aside _ := hq2 _ _ _ _ X6.out (by decide) (by decide)
  have X8' : Aside _ := hq2 _ _ _ _ X8.out (by decide) (by decide)
  have X10' : Aside _ := hq2 _ _ _ _ X10.out (by decide) (by decide)
  have X12' : Aside _ := hq2 _ _ _ _ X12.out (by decide) (by decide)
  clear HA hq1 hq2 X6 X8 X10 X12
  go_wp2_with (refine st28 rfl (.tmp 14) (.tmp 53) rfl W6.heap.size (nameL LB.length) rfl rfl z16 (heap_alloc_new W6 _) (nameL_len _) rfl (Hid.out ?_))
  rw [hz28]
  have HBn := (nbox W6 z16 (nameL LB.length)).2
  have X14 : Aside _ := (nbox W6 z16 (nameL LB.length)).1
  have HA : Aside (Ag w ((W6.alloc (.cells (hl z16).toArray 29)).setRow W6.heap.size (hl (nameL LB.length)).toArray) V (LB ++ [fr])) := HA'.out.go HBn
  have X6 : Aside _ := heap_bel X6'.out HBn
  have X8 : Aside _ := heap_bel X8'.out HBn
  have X10 : Aside _ := heap_bel X10'.out HBn
  have X12 : Aside _ := heap_bel X12'.out HBn
  clear HA' HBn X6' X8' X10' X12'
  generalize (W6.alloc (.cells (hl z16).toArray 29)).setRow W6.heap.size (hl (nameL LB.length)).toArray = W7 at *
  generalize W6.heap.size = D14 at *
  refine mkHid ?_
  go_wp2_with fail
  have n21 : (nameL 2 == nameL 1) = false := by simpa using fun e => absurd (name_inj (by omega) (by omega) e) (by decide)
  have n32 : (nameL 3 == nameL 2) = false := by simpa using fun e => absurd (name_inj (by omega) (by omega) e) (by decide)
  obtain ⟨q, hq⟩ : ∃ q, (nameL 2 == nameL zi) = q := ⟨_, rfl⟩
  have hqs : decide (la = lb) = q := by
    rw [← hq]
    by_cases h : la = lb
    · have := HZI.out.2 h; subst this; simp [h]
    · have hz : zi ≠ 2 := fun e => h (HZI.out.1 e)
      have : nameL 2 ≠ nameL zi := fun e => hz (name_inj (by omega) (by omega) e).symm
      simp [h, this]
  have E21 : Aside (∀ X, (binOp .eql 29 (hv (nameL 2)) (hv (nameL 1))).run Try.prog X = .ok (.bool false) X) := fun X => by rw [eql28 _ _ (nameL_len _) (nameL_len _), n21]
  have E32 : Aside (∀ X, (binOp .eql 29 (hv (nameL 3)) (hv (nameL 2))).run Try.prog X = .ok (.bool false) X) := fun X => by rw [eql28 _ _ (nameL_len _) (nameL_len _), n32]
  have E2z : Aside (∀ X, (binOp .eql 29 (hv (nameL 2)) (hv (nameL zi))).run Try.prog X = .ok (.bool q) X) := fun X => by rw [eql28 _ _ (nameL_len _) (nameL_len _), hq]
  have ESS : Aside (((⟨la.toArray⟩ : ByteArray).toList == (⟨lb.toArray⟩ : ByteArray).toList) = q) := eq_str la lb hqs
  have EQQ : Aside (∀ X, (binOp .neq 4 (.bool q) (.bool q)).run Try.prog X = .ok (.bool false) X) := fun X => by cases q <;> kernel_rfl
  have HSS : Aside (∀ X, Below w.heap.size w X → (convert 33 9 (.slice oa la.length ca)).run Try.prog X = .ok (.string ⟨la.toArray⟩) X ∧ (convert 33 9 (.slice ob lb.length cb)).run Try.prog X = .ok (.string ⟨lb.toArray⟩) X) := fun X hX => ⟨conv_bytes (HSA.out.bel hX) ca, conv_bytes (HSB.out.bel hX) cb⟩
  have m1 : (Try.prog.info? 29).map (·.size) = some (hl (nameL 1)).length := hi28.trans (by simp [nameL_len])
  have m2 : (Try.prog.info? 29).map (·.size) = some (hl (nameL 2)).length := hi28.trans (by simp [nameL_len])
  have m3 : (Try.prog.info? 29).map (·.size) = some (hl (nameL 3)).length := hi28.trans (by simp [nameL_len])
  have mz : (Try.prog.info? 29).map (·.size) = some (hl (nameL zi)).length := hi28.trans (by simp [nameL_len])
  have HR9 : Aside ((W7.drew).rangeAt D6 0 (hl (nameL 1)) ∧ (W7.drew).rangeAt D8 0 (hl (nameL 2)) ∧ (W7.drew).rangeAt D10 0 (hl (nameL 3)) ∧ (W7.drew).rangeAt D12 0 (hl (nameL zi)) ∧ (convert 33 9 (.slice oa la.length ca)).run Try.prog W7.drew = .ok (.string ⟨la.toArray⟩) W7.drew ∧ (convert 33 9 (.slice ob lb.length cb)).run Try.prog W7.drew = .ok (.string ⟨lb.toArray⟩) W7.drew) := by
    have hd : Below w.heap.size w W7.drew := HA.out.bel.trans ((bel_drew W7).mono HA.out.bel.size)
    exact ⟨range_of' (w := W7.drew) X6.out, range_of' (w := W7.drew) X8.out, range_of' (w := W7.drew) X10.out, range_of' (w := W7.drew) X12.out, (HSS.out _ hd).1, (HSS.out _ hd).2⟩
  clear n21 n32 hq hqs
  generalize (⟨la.toArray⟩ : ByteArray) = SA at *
  generalize (⟨lb.toArray⟩ : ByteArray) = SB at *
  obtain ⟨N1, hN1⟩ : ∃ N, nameL 1 = N := ⟨_, rfl⟩
  obtain ⟨N2, hN2⟩ : ∃ N, nameL 2 = N := ⟨_, rfl⟩
  obtain ⟨N3, hN3⟩ : ∃ N, nameL 3 = N := ⟨_, rfl⟩
  obtain ⟨NZ, hNZ⟩ : ∃ N, nameL zi = N := ⟨_, rfl⟩
  rw [hN1] at HR9 E21 m1
  rw [hN2] at HR9 E21 E32 E2z m2
  rw [hN3] at HR9 E32 m3
  rw [hNZ] at HR9 E2z mz
  refine wp_region_held_drew (S := fun X => X.rangeAt D6 0 (hl N1) ∧ X.rangeAt D8 0 (hl N2) ∧ X.rangeAt D10 0 (hl N3) ∧ X.rangeAt D12 0 (hl NZ) ∧ (convert 33 9 (.slice oa la.length ca)).run Try.prog X = .ok (.string SA) X ∧ (convert 33 9 (.slice ob lb.length cb)).run Try.prog X = .ok (.string SB) X) (by kernel_rfl) HR9.out (fun hHeld => ?_)
  refine wpAnyH_take (i := 0) (v := .int .i64 0) rfl (by kernel_rfl) (by kernel_rfl) (by kernel_rfl) (fun _ _ _ h => h) (Or.inl ⟨by rfl, by intro w hs; go_simp⟩) hHeld ?_
  refine norm_any' (fun K hK => ?_)
  go_simp
  refine hK _ _ ?_
  clear hK K
  refine wpAnyH_take (i := 1) (v := .bool false) rfl (by kernel_rfl) (by kernel_rfl) (by kernel_rfl) (fun _ _ _ h => h) (Or.inl ⟨by rfl, by intro w hs; go_simp⟩) hHeld ?_
  refine norm_any' (fun K hK => ?_)
  go_simp
  refine hK _ _ ?_
  clear hK K
  refine wpAnyH_take (i := 2) (v := .bool false) rfl (by kernel_rfl) (by kernel_rfl) (by kernel_rfl) (fun _ _ _ h => h) (Or.inl ⟨by rfl, by intro w hs; go_simp⟩) hHeld ?_
  refine norm_any' (fun K hK => ?_)
  go_simp
  refine hK _ _ ?_
  clear hK K
  refine wpAnyH_take (i := 3) (v := .int .i64 0) rfl (by kernel_rfl) (by kernel_rfl) (by kernel_rfl) (fun _ _ _ h => h) (Or.inl ⟨by rfl, by intro w hs; go_simp⟩) hHeld ?_
  refine norm_any' (fun K hK => ?_)
  go_simp
  refine hK _ _ ?_
  clear hK K
  refine wpAnyH_take (i := 4) (v := .bool false) rfl (by kernel_rfl) (by kernel_rfl) (by kernel_rfl) (fun _ _ _ h => h) (Or.inl ⟨by rfl, by intro w hs; go_simp⟩) hHeld ?_
  refine norm_any' (fun K hK => ?_)
  go_simp
  refine hK _ _ ?_
  clear hK K
  refine wpAnyH_take (i := 5) (v := .bool false) rfl (by kernel_rfl) (by kernel_rfl) (by kernel_rfl) (fun _ _ _ h => h) (Or.inl ⟨by rfl, by intro w hs; go_simp⟩) hHeld ?_
  refine norm_any' (fun K hK => ?_)
  go_simp
  refine hK _ _ ?_
  clear hK K
  refine wpAnyH_take (i := 6) (v := .bool false) rfl (by kernel_rfl) (by kernel_rfl) (by kernel_rfl) (fun _ _ _ h => h) (Or.inl ⟨by rfl, by intro w hs; go_simp⟩) hHeld ?_
  refine norm_any' (fun K hK => ?_)
  go_simp
  refine hK _ _ ?_
  clear hK K
  refine wpAnyH_take (i := 7) (v := .int .i64 0) rfl (by kernel_rfl) (by kernel_rfl) (by kernel_rfl) (fun _ _ _ h => h) (Or.inl ⟨by rfl, by intro w hs; go_simp⟩) hHeld ?_
  refine norm_any' (fun K hK => ?_)
  go_simp
  refine hK _ _ ?_
  clear hK K
  refine wpAnyH_take (i := 8) (v := .bool false) rfl (by kernel_rfl) (by kernel_rfl) (by kernel_rfl) (fun _ _ _ h => h) (Or.inl ⟨by rfl, by intro w hs; go_simp⟩) hHeld ?_
  refine norm_any' (fun K hK => ?_)
  go_simp
  refine hK _ _ ?_
  clear hK K
  refine wpAnyH_take (i := 9) (v := .bool false) rfl (by kernel_rfl) (by kernel_rfl) (by kernel_rfl) (fun _ _ _ h => h) (Or.inl ⟨by rfl, by intro w hs; go_simp⟩) hHeld ?_
  refine norm_any' (fun K hK => ?_)
  go_simp
  refine hK _ _ ?_
  clear hK K
  refine wpAnyH_take (i := 10) (v := .bool false) rfl (by kernel_rfl) (by kernel_rfl) (by kernel_rfl) (fun _ _ _ h => h) (Or.inl ⟨by rfl, by intro w hs; go_simp⟩) hHeld ?_
  refine norm_any' (fun K hK => ?_)
  go_simp
  refine hK _ _ ?_
  clear hK K
  refine wpAnyH_take (i := 11) (v := .int .i64 0) rfl (by kernel_rfl) (by kernel_rfl) (by kernel_rfl) (fun _ _ _ h => h) (Or.inl ⟨by rfl, by intro w hs; go_simp⟩) hHeld ?_
  refine norm_any' (fun K hK => ?_)
  go_simp
  refine hK _ _ ?_
  clear hK K
  refine wpAnyH_take (i := 12) (v := .bool false) rfl (by kernel_rfl) (by kernel_rfl) (by kernel_rfl) (fun _ _ _ h => h) (Or.inl ⟨by rfl, by intro w hs; go_simp⟩) hHeld ?_
  refine norm_any' (fun K hK => ?_)
  go_simp
  refine hK _ _ ?_
  clear hK K
  refine wpAnyH_take (i := 13) (v := .bool false) rfl (by kernel_rfl) (by kernel_rfl) (by kernel_rfl) (fun _ _ _ h => h) (Or.inl ⟨by rfl, by intro w hs; go_simp⟩) hHeld ?_
  refine norm_any' (fun K hK => ?_)
  go_simp
  refine hK _ _ ?_
  clear hK K
  refine wpAnyH_take (i := 14) (v := .bool false) rfl (by kernel_rfl) (by kernel_rfl) (by kernel_rfl) (fun _ _ _ h => h) (Or.inl ⟨by rfl, by intro w hs; go_simp⟩) hHeld ?_
  refine norm_any' (fun K hK => ?_)
  go_simp
  refine hK _ _ ?_
  clear hK K
  refine wpAnyH_take (i := 15) (v := hv N2) rfl (by kernel_rfl) (by kernel_rfl) (by kernel_rfl) (fun _ _ _ h => h) (yieldsIf_load_mid (by rfl) 29 _ rfl D8 0 rfl (hl N2) _ (fun X h => h.2.1) hu28 rfl m2) hHeld ?_
  refine norm_any' (fun K hK => ?_)
  go_simp
  refine hK _ _ ?_
  clear hK K
  refine wpAnyH_take (i := 16) (v := hv N1) rfl (by kernel_rfl) (by kernel_rfl) (by kernel_rfl) (fun _ _ _ h => h) (yieldsIf_load_mid (by rfl) 29 _ rfl D6 0 rfl (hl N1) _ (fun X h => h.1) hu28 rfl m1) hHeld ?_
  refine norm_any' (fun K hK => ?_)
  go_simp
  refine hK _ _ ?_
  clear hK K
  refine wpAnyH_take (i := 17) (v := .bool false) rfl (by kernel_rfl) (by kernel_rfl) (by kernel_rfl) (fun _ _ _ h => h) (yl_bin (by rfl) .eql 29 29 _ _ rfl (hl N2).toArray (hl N1).toArray rfl rfl hm29 _ E21.out) hHeld ?_
  refine norm_any' (fun K hK => ?_)
  go_simp
  refine hK _ _ ?_
  clear hK K
  refine wpAnyH_take (i := 18) (v := .bool false) rfl (by kernel_rfl) (by kernel_rfl) (by kernel_rfl) (fun _ _ _ h => h) (Or.inl ⟨by rfl, by intro w hs; go_simp⟩) hHeld ?_
  refine norm_any' (fun K hK => ?_)
  go_simp
  refine hK _ _ ?_
  clear hK K
  refine wpAnyH_take (i := 19) (v := .bool false) rfl (by kernel_rfl) (by kernel_rfl) (by kernel_rfl) (fun _ _ _ h => h) (Or.inl ⟨by rfl, by intro w hs; go_simp⟩) hHeld ?_
  refine norm_any' (fun K hK => ?_)
  go_simp
  refine hK _ _ ?_
  clear hK K
  refine wpAnyH_take (i := 20) (v := hv N3) rfl (by kernel_rfl) (by kernel_rfl) (by kernel_rfl) (fun _ _ _ h => h) (yieldsIf_load_mid (by rfl) 29 _ rfl D10 0 rfl (hl N3) _ (fun X h => h.2.2.1) hu28 rfl m3) hHeld ?_
  refine norm_any' (fun K hK => ?_)
  go_simp
  refine hK _ _ ?_
  clear hK K
  refine wpAnyH_take (i := 21) (v := hv N2) rfl (by kernel_rfl) (by kernel_rfl) (by kernel_rfl) (fun _ _ _ h => h) (yieldsIf_load_mid (by rfl) 29 _ rfl D8 0 rfl (hl N2) _ (fun X h => h.2.1) hu28 rfl m2) hHeld ?_
  refine norm_any' (fun K hK => ?_)
  go_simp
  refine hK _ _ ?_
  clear hK K
  refine wpAnyH_take (i := 22) (v := .bool false) rfl (by kernel_rfl) (by kernel_rfl) (by kernel_rfl) (fun _ _ _ h => h) (yl_bin (by rfl) .eql 29 29 _ _ rfl (hl N3).toArray (hl N2).toArray rfl rfl hm29 _ E32.out) hHeld ?_
  refine norm_any' (fun K hK => ?_)
  go_simp
  refine hK _ _ ?_
  clear hK K
  refine wpAnyH_take (i := 23) (v := .bool false) rfl (by kernel_rfl) (by kernel_rfl) (by kernel_rfl) (fun _ _ _ h => h) (Or.inl ⟨by rfl, by intro w hs; go_simp⟩) hHeld ?_
  refine norm_any' (fun K hK => ?_)
  go_simp
  refine hK _ _ ?_
  clear hK K
  refine wpAnyH_take (i := 24) (v := .bool false) rfl (by kernel_rfl) (by kernel_rfl) (by kernel_rfl) (fun _ _ _ h => h) (Or.inl ⟨by rfl, by intro w hs; go_simp⟩) hHeld ?_
  refine norm_any' (fun K hK => ?_)
  go_simp
  refine hK _ _ ?_
  clear hK K
  refine wpAnyH_take (i := 25) (v := hv N2) rfl (by kernel_rfl) (by kernel_rfl) (by kernel_rfl) (fun _ _ _ h => h) (yieldsIf_load_mid (by rfl) 29 _ rfl D8 0 rfl (hl N2) _ (fun X h => h.2.1) hu28 rfl m2) hHeld ?_
  refine norm_any' (fun K hK => ?_)
  go_simp
  refine hK _ _ ?_
  clear hK K
  refine wpAnyH_take (i := 26) (v := hv NZ) rfl (by kernel_rfl) (by kernel_rfl) (by kernel_rfl) (fun _ _ _ h => h) (yieldsIf_load_mid (by rfl) 29 _ rfl D12 0 rfl (hl NZ) _ (fun X h => h.2.2.2.1) hu28 rfl mz) hHeld ?_
  refine norm_any' (fun K hK => ?_)
  go_simp
  refine hK _ _ ?_
  clear hK K
  refine wpAnyH_take (i := 27) (v := .bool q) rfl (by kernel_rfl) (by kernel_rfl) (by kernel_rfl) (fun _ _ _ h => h) (yl_bin (by rfl) .eql 29 29 _ _ rfl (hl N2).toArray (hl NZ).toArray rfl rfl hm29 _ E2z.out) hHeld ?_
  refine norm_any' (fun K hK => ?_)
  go_simp
  refine hK _ _ ?_
  clear hK K
  refine wpAnyH_take (i := 28) (v := .slice oa la.length ca) rfl (by kernel_rfl) (by kernel_rfl) (by kernel_rfl) (fun _ _ _ h => h) (Or.inl ⟨by rfl, by intro w hs; go_simp⟩) hHeld ?_
  refine norm_any' (fun K hK => ?_)
  go_simp
  refine hK _ _ ?_
  clear hK K
  refine wpAnyH_take (i := 29) (v := .string SA) rfl (by kernel_rfl) (by kernel_rfl) (by kernel_rfl) (fun _ _ _ h => h) (Or.inl ⟨by rfl, by intro w hs; obtain ⟨_, _, _, _, q1, q2⟩ := hs; go_simp⟩) hHeld ?_
  refine norm_any' (fun K hK => ?_)
  go_simp
  refine hK _ _ ?_
  clear hK K
  refine wpAnyH_take (i := 30) (v := .slice ob lb.length cb) rfl (by kernel_rfl) (by kernel_rfl) (by kernel_rfl) (fun _ _ _ h => h) (Or.inl ⟨by rfl, by intro w hs; go_simp⟩) hHeld ?_
  refine norm_any' (fun K hK => ?_)
  go_simp
  refine hK _ _ ?_
  clear hK K
  refine wpAnyH_take (i := 31) (v := .string SB) rfl (by kernel_rfl) (by kernel_rfl) (by kernel_rfl) (fun _ _ _ h => h) (Or.inl ⟨by rfl, by intro w hs; obtain ⟨_, _, _, _, q1, q2⟩ := hs; go_simp⟩) hHeld ?_
  refine norm_any' (fun K hK => ?_)
  go_simp
  refine hK _ _ ?_
  clear hK K
  refine wpAnyH_take (i := 32) (v := .bool q) rfl (by kernel_rfl) (by kernel_rfl) (by kernel_rfl) (fun _ _ _ h => h) (Or.inl ⟨by rfl, by intro w hs; have q1 := ESS.out; go_simp⟩) hHeld ?_
  refine norm_any' (fun K hK => ?_)
  go_simp
  refine hK _ _ ?_
  clear hK K
  refine wpAnyH_take (i := 33) (v := .bool false) rfl (by kernel_rfl) (by kernel_rfl) (by kernel_rfl) (fun _ _ _ h => h) (Or.inl ⟨by rfl, by intro w hs; have q1 := EQQ.out w; go_simp⟩) hHeld ?_
  refine norm_any' (fun K hK => ?_)
  go_simp
  refine hK _ _ ?_
  clear hK K
  refine wpAnyH_take (i := 34) (v := .bool false) rfl (by kernel_rfl) (by kernel_rfl) (by kernel_rfl) (fun _ _ _ h => h) (Or.inl ⟨by rfl, by intro w hs; go_simp⟩) hHeld ?_
  refine norm_any' (fun K hK => ?_)
  go_simp
  refine hK _ _ ?_
  clear hK K
  refine wpAnyH_done (by kernel_rfl) ?_ _
  clear hHeld m1 m2 m3 mz E21 E32 E2z ESS EQQ HSS HR9
  subst hN1 hN2 hN3 hNZ
  have HA2 : Aside (Ag w W7.drew V (LB ++ [fr])) := HA.out.go (bel_drew W7)
  have Z6 : Aside (W7.drew.heap[D6]? = some (.cells (hl (nameL 1)).toArray 29 (0, 0))) := X6.out
  have Z8 : Aside (W7.drew.heap[D8]? = some (.cells (hl (nameL 2)).toArray 29 (0, 0))) := X8.out
  have Z10 : Aside (W7.drew.heap[D10]? = some (.cells (hl (nameL 3)).toArray 29 (0, 0))) := X10.out
  have Z14 : Aside (W7.drew.heap[D14]? = some (.cells (hl (nameL LB.length)).toArray 29 (0, 0))) := X14.out
  clear X6 X8 X10 X12 X14 HA
  generalize W7.drew = W8 at *
  go_wp2_with (first | (refine ld28 rfl (.tmp 6) rfl D6 rfl (nameL 1) Z6.out (nameL_len _) ?_) | (refine ld28 rfl (.tmp 8) rfl D8 rfl (nameL 2) Z8.out (nameL_len _) ?_) | (refine ld28 rfl (.tmp 10) rfl D10 rfl (nameL 3) Z10.out (nameL_len _) ?_) | (refine wbs3 rfl (.tmp 89) (.tmp 90) (.tmp 91) rfl (nameL 1) (nameL 2) (nameL 3) rfl rfl rfl (nameL_len _) (nameL_len _) (nameL_len _) (Hid.out ?_)))
  have HW0 : Aside (Aw w V (W8.heap.size + 1) D14 W8.heap.size (LB ++ [fr]) LB.length 0 none 0 (W8.alloc (.cells (hrow [nameL 1, nameL 2, nameL 3]).toArray 29))) := by
    have hg := HA2.out.go (bel1 W8 (.cells (hrow [nameL 1, nameL 2, nameL 3]).toArray 29))
    refine ⟨by simpa [Lm] using hg, nth' Z14.out, new' rfl, World.ownsRow_nil _ _ 29 16, ?_, ?_, rfl⟩
    · have := HA2.out.bel.size; omega
    · have := (Array.getElem?_eq_some_iff.1 Z14.out).1; omega
  have HOF2 : Aside (∀ t ∈ LB ++ [fr], t.kd = 2 → t.of' ≠ LB.length) := by
    intro t ht h2
    simp only [List.mem_append, List.mem_singleton] at ht
    rcases ht with ht | rfl
    · have := HOF.out t ht h2; omega
    · cases h2
  have HLL : Aside ((LB ++ [fr]).length = LB.length + 1) := by show _ = _; simp
  have HKN : Aside (LB.length < (LB ++ [fr]).length ∧ (LB ++ [fr]).length ≤ 10) := by have := HLL.out; exact ⟨by omega, by omega⟩
  clear HOF HZI HD4 HA2 Z6 Z8 Z10 Z14
  generalize W8.alloc (.cells (hrow [nameL 1, nameL 2, nameL 3]).toArray 29) = W9 at *
  generalize W8.heap.size + 1 = m0 at *
  generalize W8.heap.size = C at *
  generalize LB ++ [fr] = LA at *
  generalize LB.length = kn at *
  clear hL4 hL5 HLL hz4
  refine mkHid ?_
  go_wp2_with fail
  go_loopg [15, 94] 4 (fun kx s15 s94 wr => ∃ (j c : Nat) (os : Option Addr), s94 = .int .i64 (j : Int) ∧ s15 = .slice os (5 * j) c ∧ j ≤ 3 ∧ 3 - j ≤ kx ∧ Aside (Aw w V m0 D14 C LA kn (5 * j) os c wr))
  case atStart => exact ⟨0, 0, none, rfl, rfl, by omega, by omega, HW0.out⟩
  case round =>
    obtain ⟨j, c, os, rfl, rfl, hj, hg, HW⟩ := hrel
    clear HW0
    by_cases hlt : j < 3
    · as_aux_lemma =>
      have i1 : (j : Int) < 3 := by omega
      have i1' : decide ((j : Int) < 3) = true := by simpa using i1
      have i2 : (0 : Int) ≤ j := by omega
      have hw : IntKind.i64.wrap ((j : Int) + 1) = ((j + 1 : Nat) : Int) := by rw [IntKind.wrap_i64]; omega
      have HRJ : Aside (wr.rangeAt C (j * 16) (hl (nameL (j + 1)))) := arr_at arr16 HW.out.arr (arr3 j hlt)
      have mj : (Try.prog.info? 29).map (·.size) = some (hl (nameL (j + 1))).length := hi28.trans (by simp [nameL_len])
      have hjl := nameL_len (j + 1)
      obtain ⟨NJ, hNJ⟩ : ∃ N, nameL (j + 1) = N := ⟨_, rfl⟩
      have HNJ : Aside (nameL (j + 1) = NJ) := hNJ
      rw [hNJ] at HRJ mj hjl
      clear hNJ
      go_wp2_with (first | (refine wpList_load_mid rfl 29 (.tmp 96) rfl C (j * 16) rfl (hl NJ) _ HRJ.out hu28 rfl mj ?_) | (refine st28 rfl (.tmp 17) (.tmp 97) rfl wr.heap.size NJ rfl rfl z16 (heap_alloc_new wr _) hjl rfl (Hid.out ?_)))
      rw [hz28]
      have HBn := (nbox wr z16 NJ).2
      have X17 : Aside _ := (nbox wr z16 NJ).1
      have HW1 : Aside (Aw w V m0 D14 C LA kn (5 * j) os c ((wr.alloc (.cells (hl z16).toArray 29)).setRow wr.heap.size (hl NJ).toArray)) := HW.out.go HBn
      have HNE : Aside (Ne' os wr.heap.size) := HW.out.ne
      clear HW HBn HRJ mj
      generalize (wr.alloc (.cells (hl z16).toArray 29)).setRow wr.heap.size (hl NJ).toArray = Wj at *
      generalize wr.heap.size = D17 at *
      refine mkHid ?_
      go_wp2_with fail
      have HW2 : Aside (Aw w V m0 D14 C LA kn (5 * j + 0) os c (Wj.alloc (.cells #[.string ⟨#[101, 97, 114, 108, 121]⟩, .string ⟨#[99, 108, 105, 101, 110, 116, 32, 104, 97, 110, 100]⟩, .string ⟨#[115, 101, 114, 118, 101, 114, 32, 104, 97, 110, 100]⟩, .string ⟨#[99, 108, 105, 101, 110, 116, 32, 100, 97, 116, 97]⟩, .string ⟨#[115, 101, 114, 118, 101, 114, 32, 100, 97, 116, 97]⟩] 9))) := HW1.out.go (bel1 _ _)
      have XE : Aside ((Wj.alloc (.cells #[.string ⟨#[101, 97, 114, 108, 121]⟩, .string ⟨#[99, 108, 105, 101, 110, 116, 32, 104, 97, 110, 100]⟩, .string ⟨#[115, 101, 114, 118, 101, 114, 32, 104, 97, 110, 100]⟩, .string ⟨#[99, 108, 105, 101, 110, 116, 32, 100, 97, 116, 97]⟩, .string ⟨#[115, 101, 114, 118, 101, 114, 32, 100, 97, 116, 97]⟩] 9)).heap[Wj.heap.size]? = some (.cells #[.string ⟨#[101, 97, 114, 108, 121]⟩, .string ⟨#[99, 108, 105, 101, 110, 116, 32, 104, 97, 110, 100]⟩, .string ⟨#[115, 101, 114, 118, 101, 114, 32, 104, 97, 110, 100]⟩, .string ⟨#[99, 108, 105, 101, 110, 116, 32, 100, 97, 116, 97]⟩, .string ⟨#[115, 101, 114, 118, 101, 114, 32, 100, 97, 116, 97]⟩] 9 (0, 0))) := new' rfl
      have Y17 : Aside ((Wj.alloc (.cells #[.string ⟨#[101, 97, 114, 108, 121]⟩, .string ⟨#[99, 108, 105, 101, 110, 116, 32, 104, 97, 110, 100]⟩, .string ⟨#[115, 101, 114, 118, 101, 114, 32, 104, 97, 110, 100]⟩, .string ⟨#[99, 108, 105, 101, 110, 116, 32, 100, 97, 116, 97]⟩, .string ⟨#[115, 101, 114, 118, 101, 114, 32, 100, 97, 116, 97]⟩] 9)).heap[D17]? = some (.cells (hl NJ).toArray 29 (0, 0))) := nth' X17.out
      have HNQ : Aside (Ne' os Wj.heap.size) := HW1.out.ne
      clear HW1 X17
      generalize Wj.alloc (.cells #[.string ⟨#[101, 97, 114, 108, 121]⟩, .string ⟨#[99, 108, 105, 101, 110, 116, 32, 104, 97, 110, 100]⟩, .string ⟨#[115, 101, 114, 118, 101, 114, 32, 104, 97, 110, 100]⟩, .string ⟨#[99, 108, 105, 101, 110, 116, 32, 100, 97, 116, 97]⟩, .string ⟨#[115, 101, 114, 118, 101, 114, 32, 100, 97, 116, 97]⟩] 9) = Wk at *
      generalize Wj.heap.size = Eb at *
      go_loopg [15, 100] 6 (fun kx s15 s100 wr => ∃ (q c : Nat) (os : Option Addr), s100 = .int .i64 (q : Int) ∧ s15 = .slice os (5 * j + q) c ∧ q ≤ 5 ∧ 5 - q ≤ kx ∧ Aside (Aw w V m0 D14 C LA kn (5 * j + q) os c wr ∧ wr.heap[D17]? = some (.cells (hl NJ).toArray 29 (0, 0)) ∧ wr.heap[Eb]? = some (.cells #[.string ⟨#[101, 97, 114, 108, 121]⟩, .string ⟨#[99, 108, 105, 101, 110, 116, 32, 104, 97, 110, 100]⟩, .string ⟨#[115, 101, 114, 118, 101, 114, 32, 104, 97, 110, 100]⟩, .string ⟨#[99, 108, 105, 101, 110, 116, 32, 100, 97, 116, 97]⟩, .string ⟨#[115, 101, 114, 118, 101, 114, 32, 100, 97, 116, 97]⟩] 9 (0, 0)) ∧ Ne' os D17 ∧ Ne' os Eb))
      case atStart => exact ⟨0, c, os, rfl, rfl, by omega, by omega, HW2.out, Y17.out, XE.out, HNE.out, HNQ.out⟩
      case round =>
        obtain ⟨q, cq, oq, rfl, rfl, hq, hgq, HQ⟩ := hrel
        clear HW2 XE Y17 HNE HNQ
        by_cases hlq : q < 5
        · as_aux_lemma =>
          generalize wr = WR at *
          have j1 : (q : Int) < 5 := by omega
          have j1' : decide ((q : Int) < 5) = true := by simpa using j1
          have j2 : (0 : Int) ≤ q := by omega
          have hwq : IntKind.i64.wrap ((q : Int) + 1) = ((q + 1 : Nat) : Int) := by rw [IntKind.wrap_i64]; omega
          obtain ⟨HQ1, HQ2, HQ3, HQ4, HQ5⟩ := HQ.out
          have HAW : Aside (Aw w V m0 D14 C LA kn (5 * j + q) oq cq WR) := HQ1
          have Y17 : Aside _ := HQ2
          have YE : Aside _ := HQ3
          have Y14 : Aside _ := HQ1.b14
          have NE1 : Aside (Ne' oq D17) := HQ4
          have NE2 : Aside (Ne' oq Eb) := HQ5
          have ce : WR.cell? ⟨Eb, q, none⟩ = some (.string (lab q)) := by
            rcases (show q = 0 ∨ q = 1 ∨ q = 2 ∨ q = 3 ∨ q = 4 by omega) with rfl | rfl | rfl | rfl | rfl <;> simp [World.cell?, HQ3, lab]
          have HTR : Aside (Calls Try.prog 20 #[.pointer (some ⟨V, 0, none⟩), hv (nameL kn), .string (lab q), hv NJ] WR fun e w' => e = .returned (.tuple #[hv (nameL (LA.length + (5 * j + q))), .int .i64 0]) ∧ Ag w w' V (Lm LA kn (5 * j + q + 1)) ∧ Kc WR w') := by
            have h := a20 HQ1.ag (by rw [Lm_len]; have := HKN.out.2; omega) (nameL kn) (nameL (j + 1)) (nameL_len _) (nameL_len _) (lab q) (lab_size q)
            rw [dv_trf (by have := HKN.out.2; omega) HKN.out.1 HOF2.out rfl hlq hlt, HNJ.out] at h
            exact h
          clear HQ HQ1 HQ2 HQ3 HQ4 HQ5
          have hkl := nameL_len kn
          have htl := nameL_len (LA.length + (5 * j + q))
          obtain ⟨m, hm⟩ : ∃ m, 5 * j + q = m := ⟨_, rfl⟩
          rw [hm] at HAW HTR htl ⊢
          have HM : Aside (5 * j + q = m ∧ m < 15) := ⟨hm, by omega⟩
          clear hm
          have HNE : Aside (∀ i, i < m → nameL (LA.length + i) ≠ nameL (LA.length + m)) := fun i hi e => by
            have h1 := HKN.out.2
            have h2 := HM.out.2
            have := name_inj (by omega) (by omega) e
            omega
          obtain ⟨NT, hNT⟩ : ∃ N, nameL (LA.length + m) = N := ⟨_, rfl⟩
          have HNT : Aside (nameL (LA.length + m) = NT) := hNT
          rw [hNT] at HTR htl HNE
          clear hNT
          obtain ⟨NK, hNK⟩ : ∃ N, nameL kn = N := ⟨_, rfl⟩
          rw [hNK] at HTR hkl Y14
          clear hNK
          generalize lab q = LQ at *
          go_wp2_with (first | (refine ld28 rfl (.tmp 14) rfl D14 rfl NK Y14.out hkl ?_) | (refine ld28 rfl (.tmp 17) rfl D17 rfl NJ Y17.out hjl ?_))
          refine Calls.mono HTR.out ?_
          rintro e U1 ⟨rfl, ha1, hk1⟩
          have HA1 : Aside (Ag w U1 V (Lm LA kn (m + 1))) := ha1
          have HK1 : Aside (Kc WR U1) := hk1
          have V17 : Aside _ := hk1 _ _ _ _ Y17.out (by decide) (by decide)
          have VE : Aside _ := hk1 _ _ _ _ YE.out (by decide) (by decide)
          clear ha1 hk1 HTR Y17 YE Y14 ce
          as_aux_lemma =>
          go_wp2_with (refine st28 rfl (.tmp 20) (.tmp 110) rfl U1.heap.size NT rfl rfl z16 (heap_alloc_new U1 _) htl rfl (Hid.out ?_))
          rw [hz28]
          have HBn := (nbox U1 z16 NT).2
          have X20 : Aside _ := (nbox U1 z16 NT).1
          have HA2 : Aside (Ag w ((U1.alloc (.cells (hl z16).toArray 29)).setRow U1.heap.size (hl NT).toArray) V (Lm LA kn (m + 1))) := HA1.out.go HBn
          have HK2 : Aside (Kc WR ((U1.alloc (.cells (hl z16).toArray 29)).setRow U1.heap.size (hl NT).toArray)) := HK1.out.trans (Kc.of_bel HBn)
          have Z17 : Aside _ := heap_bel V17.out HBn
          have ZE : Aside _ := heap_bel VE.out HBn
          clear HBn V17 VE HA1 HK1
          generalize (U1.alloc (.cells (hl z16).toArray 29)).setRow U1.heap.size (hl NT).toArray = U2 at *
          generalize U1.heap.size = D20 at *
          refine mkHid ?_
          go_wp2_with fail
          go_loopg [22] (m + 1) (fun kx s22 wr => ∃ i : Nat, s22 = .int .i64 (i : Int) ∧ i ≤ m ∧ m - i ≤ kx ∧ Aside (Below U2.heap.size U2 wr))
          case atStart => exact ⟨0, rfl, by omega, by omega, Below.refl _ _⟩
          case round =>
            obtain ⟨i, rfl, hi, hgi, HB⟩ := hrel
            by_cases hli : i < m
            · as_aux_lemma =>
              have k1 : (i : Int) < (m : Int) := by omega
              have k1' : decide ((i : Int) < (m : Int)) = true := by simpa using k1
              have k2 : (0 : Int) ≤ i := by omega
              have hm15 := HM.out.2
              have hwi : IntKind.i64.wrap ((i : Int) + 1) = ((i + 1 : Nat) : Int) := by rw [IntKind.wrap_i64]; omega
              obtain ⟨g, hog, HRW⟩ : ∃ g, oq = some ⟨g, 0, none⟩ ∧ Aside (wr.drew.rangeAt g (i * 16) (hl (nameL (LA.length + i)))) := by
                have hrow := own_stay (own_stay HAW.out.row fun g cs hg => HK2.out _ _ _ _ hg (by decide) (by decide)) fun g cs hg => heap_bel hg HB.out
                have hc := hrow
                obtain ⟨_, h1 | ⟨g, cap, cur, e, _⟩⟩ := hc
                · rw [Hm_len] at h1; omega
                · injection e with e1 e2 e3
                  subst e1
                  refine ⟨g, rfl, ?_⟩
                  exact hr_at (w := wr.drew) (Hm_16 _ _) hrow (Hm_at hli)
              subst hog
              have h20 := heap_bel X20.out HB.out
              have X20d : Aside (wr.drew.rangeAt D20 0 (hl NT)) := range_of' (w := wr.drew) h20
              clear h20
              have hil := nameL_len (LA.length + i)
              have hne := HNE.out i hli
              have HBd : Aside (Below U2.heap.size U2 wr.drew) := HB.out.trans ((bel_drew wr).mono HB.out.size)
              have hcap := HAW.out.row
              rw [Hm_len] at hcap
              obtain ⟨q1, q2, _⟩ := hr_own hcap
              have q3 : (m : Int) ≤ (cq : Int) := by omega
              have q4 : (cq : Int) ≤ 9223372036854775807 := by unfold maxLen at q2; omega
              clear hcap
              generalize nameL (LA.length + i) = NI at *
              have mI : (Try.prog.info? 29).map (·.size) = some (hl NI).length := hi28.trans (by simp [hil])
              have mT : (Try.prog.info? 29).map (·.size) = some (hl NT).length := hi28.trans (by simp [htl])
              have EQ : Aside (∀ X, (binOp .eql 29 (hv NI) (hv NT)).run Try.prog X = .ok (.bool false) X) := fun X => by rw [eql28 _ _ hil htl, beq_eq_false_iff_ne.2 hne]
              clear HB hne
              go_wp2_with fail
              refine wp_region_held_drew (S := fun X => X.rangeAt g (i * 16) (hl NI) ∧ X.rangeAt D20 0 (hl NT)) (by kernel_rfl) ⟨HRW.out, X20d.out⟩ (fun hHeld => ?_)
              refine wpAnyH_take (i := 0) (v := .slice (some ⟨g, 0, none⟩) m cq) rfl (by kernel_rfl) (by kernel_rfl) (by kernel_rfl) (fun _ _ _ h => h) (Or.inl ⟨by rfl, by intro w hs; go_simp⟩) hHeld ?_
              refine norm_any' (fun K hK => ?_)
              go_simp
              refine hK _ _ ?_
              clear hK K
              refine wpAnyH_take (i := 1) (v := .int .i64 (i : Int)) rfl (by kernel_rfl) (by kernel_rfl) (by kernel_rfl) (fun _ _ _ h => h) (Or.inl ⟨by rfl, by intro w hs; go_simp⟩) hHeld ?_
              refine norm_any' (fun K hK => ?_)
              go_simp
              refine hK _ _ ?_
              clear hK K
              refine wpAnyH_take (i := 2) (v := .pointer (some ⟨g, i * 16, none⟩)) rfl (by kernel_rfl) (by kernel_rfl) (by kernel_rfl) (fun _ _ _ h => h) (Or.inl ⟨by rfl, by intro w hs; go_simp⟩) hHeld ?_
              refine norm_any' (fun K hK => ?_)
              go_simp
              refine hK _ _ ?_
              clear hK K
              refine wpAnyH_take (i := 3) (v := hv NI) rfl (by kernel_rfl) (by kernel_rfl) (by kernel_rfl) (fun _ _ _ h => h) (yieldsIf_load_mid (by rfl) 29 _ rfl g (i * 16) rfl (hl NI) _ (fun X h => h.1) hu28 rfl mI) hHeld ?_
              refine norm_any' (fun K hK => ?_)
              go_simp
              refine hK _ _ ?_
              clear hK K
              refine wpAnyH_take (i := 4) (v := hv NT) rfl (by kernel_rfl) (by kernel_rfl) (by kernel_rfl) (fun _ _ _ h => h) (yieldsIf_load_mid (by rfl) 29 _ rfl D20 0 rfl (hl NT) _ (fun X h => h.2) hu28 rfl mT) hHeld ?_
              refine norm_any' (fun K hK => ?_)
              go_simp
              refine hK _ _ ?_
              clear hK K
              refine wpAnyH_take (i := 5) (v := .bool false) rfl (by kernel_rfl) (by kernel_rfl) (by kernel_rfl) (fun _ _ _ h => h) (yl_bin (by rfl) .eql 29 29 _ _ rfl (hl NI).toArray (hl NT).toArray rfl rfl hm29 _ EQ.out) hHeld ?_
              refine norm_any' (fun K hK => ?_)
              go_simp
              refine hK _ _ ?_
              clear hK K
              refine wpAnyH_done (by kernel_rfl) ?_ _
              clear hHeld
              go_wp2_with fail
              go_roundg (m - (i + 1))
              case measure => omega
              case rel => exact ⟨i + 1, rfl, by omega, Nat.le_refl _, HBd.out⟩
            · as_aux_lemma =>
              obtain rfl : i = m := by omega
              have k1 : ¬ (i : Int) < (i : Int) := by omega
              have k1' : decide ((i : Int) < (i : Int)) = false := by simp
              have V20 : Aside _ := heap_bel X20.out HB.out
              have V17 : Aside _ := heap_bel Z17.out HB.out
              have VE : Aside _ := heap_bel ZE.out HB.out
              have HA3 : Aside (Ag w wr V (Lm LA kn (i + 1))) := HA2.out.go HB.out
              have HKW : Aside (Kc WR wr) := HK2.out.trans (Kc.of_bel HB.out)
              have HPU : Aside _ := HAW.out.push (w2 := wr.alloc (.cells (hl NT).toArray 29)) (HKW.out.trans (Kc.of_bel (bel1 _ _))) (HA3.out.go (bel1 _ _)) (b := wr.heap.size) (by rw [HNT.out]; exact new' rfl) (by have := HM.out.2; omega)
              obtain ⟨g, c', w', r1, r2, r3, r4⟩ := HPU.out
              have R1 : Aside _ := r1
              have F17 : Aside (w'.heap[D17]? = some (.cells (hl NJ).toArray 29 (0, 0))) := (r3 D17 (by have := (Array.getElem?_eq_some_iff.1 V17.out).1; simp; omega) NE1.out).trans (nth' V17.out)
              have FE : Aside (w'.heap[Eb]? = some (.cells #[.string ⟨#[101, 97, 114, 108, 121]⟩, .string ⟨#[99, 108, 105, 101, 110, 116, 32, 104, 97, 110, 100]⟩, .string ⟨#[115, 101, 114, 118, 101, 114, 32, 104, 97, 110, 100]⟩, .string ⟨#[99, 108, 105, 101, 110, 116, 32, 100, 97, 116, 97]⟩, .string ⟨#[115, 101, 114, 118, 101, 114, 32, 100, 97, 116, 97]⟩] 9 (0, 0))) := (r3 Eb (by have := (Array.getElem?_eq_some_iff.1 VE.out).1; simp; omega) NE2.out).trans (nth' VE.out)
              have FN1 : Aside (Ne' (some ⟨g, 0, none⟩) D17) := r4 D17 (by have := (Array.getElem?_eq_some_iff.1 V17.out).1; simp; omega) NE1.out
              have FN2 : Aside (Ne' (some ⟨g, 0, none⟩) Eb) := r4 Eb (by have := (Array.getElem?_eq_some_iff.1 VE.out).1; simp; omega) NE2.out
              have FA : Aside (Aw w V m0 D14 C LA kn (i + 1) (some ⟨g, 0, none⟩) c' w') := r2
              clear r1 r2 r3 r4 HPU HA3 HKW V17 VE HAW HB
              go_wp2_with (first | (refine ld28 rfl (.tmp 20) rfl D20 rfl NT V20.out htl ?_) | (refine wbs1 rfl (.tmp 127) rfl NT rfl htl ?_) | (refine appr rfl _ _ 31 31 rfl _ _ rfl rfl R1.out ?_))
              go_roundg (5 - (q + 1))
              case measure => omega
              case rel => exact ⟨q + 1, c', some ⟨g, 0, none⟩, rfl, by rw [← HM.out.1]; rfl, by omega, Nat.le_refl _, by rw [show 5 * j + (q + 1) = i + 1 by have := HM.out.1; omega]; exact ⟨FA.out, F17.out, FE.out, FN1.out, FN2.out⟩⟩
        · as_aux_lemma =>
          obtain rfl : q = 5 := by omega
          go_wp2_with fail
          go_roundg (3 - (j + 1))
          case measure => omega
          case rel => exact ⟨j + 1, cq, oq, rfl, by rw [show 5 * (j + 1) = 5 * j + 5 by omega], by omega, Nat.le_refl _, by rw [show 5 * (j + 1) = 5 * j + 5 by omega]; exact HQ.out.1⟩
    · as_aux_lemma =>
      obtain rfl : j = 3 := by omega
      have HF : Aside _ := HW.out.ag.bel
      clear HW
      go_wp2_with fail
      go_ret
      exact ⟨rfl, HF.out⟩
end Go.Proofs.Ytpjoaimbaboleaa
