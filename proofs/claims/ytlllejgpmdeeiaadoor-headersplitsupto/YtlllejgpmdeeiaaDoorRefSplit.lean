/- What caravelref02.Split answers: a contract, out of its Read's. -/
import Derived.Test.YtlllejgpmdeeiaaDoorRefRest
import Derived.Test.YtlllejgpmdeeiaaDoorSplit
namespace Go.Proofs.YtlllejgpmdeeiaaDoor
open Go.ChangeShapes Go.WideShapes Go.ChangeAt Go.RowKit
set_option linter.unusedVariables false

/-- what the reference's Read answers, whatever the bytes -/
def RReads : Prop := ∀ (b off cap : Nat) (l : List UInt8) (ids : Int) (w : World), Sl w (some ⟨b, off, none⟩) l → 0 < l.length → l.length ≤ 1048577 → l.length ≤ cap → cap ≤ 9223372036854775807 →
    Calls Tryd.prog 30 #[.slice (some ⟨b, off, none⟩) l.length cap, .int .i64 ids] w fun e w' => ∃ cs' a' E, e = .returned (.tuple #[.agg cs', .int .i64 a', .int .i64 E]) ∧ RefP w w' (parse l ids) cs' a' E
def rpval (b off cap : Nat) (x : Nat × Nat) : Value := .slice (some ⟨b, off + x.1, none⟩) x.2 (cap - x.1)
def rpvals (b off cap : Nat) (ps : List (Nat × Nat)) : List Value := ps.map (rpval b off cap)
theorem Sl_dropO {w : World} {b off o : Nat} {l : List UInt8} (h : Sl w (some ⟨b, off, none⟩) l) : Sl w (some ⟨b, off + o, none⟩) (l.drop o) := by
  intro j hj
  have hj' : o + j < l.length := by simp at hj; omega
  obtain ⟨b', off', he, hc⟩ := h (o + j) hj'
  simp only [Option.some.injEq, Addr.mk.injEq] at he
  obtain ⟨rfl, rfl, _⟩ := he
  refine ⟨b, off + o, rfl, ?_⟩
  rw [Nat.add_assoc, hc]
  simp

/-- the loop's relation: o bytes are cut off -/
structure RSR (w wr : World) (l : List UInt8) (ids : Int) (b off cap o : Nat) (ps : List (Nat × Nat)) (po : Option Addr) (pc : Nat) (ro : Option Addr) (rc : Nat) : Prop where
  below : Below w.heap.size w wr
  chain : Chain l ids ps 0 o
  own : wr.ownsRow w.heap.size 22 1 (.slice po ps.length pc) ps.length (rpvals b off cap ps)
  rest : o < l.length → ro = some ⟨b, off + o, none⟩ ∧ rc = cap - o

set_option maxRecDepth 10000 in
set_option maxHeartbeats 1000000 in
theorem rsplit_any (RR : RReads) (b off : Nat) (l : List UInt8) (cap : Nat) (ids : Int) (w : World) (hs : Sl w (some ⟨b, off, none⟩) l) (hl : l.length ≤ 1048577) (hc' : l.length ≤ cap) (hcm : cap ≤ 9223372036854775807) :
    Calls Tryd.prog 15 #[.slice (some ⟨b, off, none⟩) l.length cap, .int .i64 ids] w fun e w' => ∃ po pc ps, e = .returned (.slice po ps.length pc) ∧ w'.ownsRow w.heap.size 22 1 (.slice po ps.length pc) ps.length (rpvals b off cap ps) ∧ Chain l ids ps 0 l.length ∧ Below w.heap.size w w' := by
  obtain ⟨i0, hi, hz0, hz1, hz2⟩ := info_parts info22
  obtain ⟨d33, hd33⟩ := hu33
  have HSL := mkHid hs
  have HRR := mkHid RR
  have H0 : Hid (RSR w w l ids b off cap 0 [] none 0 (some ⟨b, off, none⟩) cap) := ⟨Below.refl _ _, rfl, ⟨rfl, .inl ⟨rfl, rfl⟩⟩, fun h => ⟨by simp, by simp⟩⟩
  clear hs RR
  go_enter Tryd.func15, Tryd.ntmps15
  go_wp2
  go_loopg [0, 5] (l.length + 1) (fun k r p wr => ∃ o ps po pc ro rc, o ≤ l.length ∧ k = l.length + 1 - o ∧ p = .slice po ps.length pc ∧ r = .slice ro (l.length - o) rc ∧ Hid (RSR w wr l ids b off cap o ps po pc ro rc))
  case atStart => exact ⟨0, [], none, 0, some ⟨b, off, none⟩, cap, by omega, by omega, rfl, rfl, H0⟩
  case round =>
    obtain ⟨o, ps, po, pc, ro, rc, ho, hk, rfl, rfl, HR⟩ := hrel
    clear H0
    by_cases hlt : o < l.length
    · obtain ⟨hro, hrc⟩ := HR.out.rest hlt
      subst hro
      have hrc1 : l.length - o ≤ rc := by omega
      have hrc2 : rc ≤ 9223372036854775807 := by omega
      have HRC := mkHid hrc
      obtain ⟨N, hN⟩ : ∃ N : Nat, psz (l.drop o) ids = N := Int.eq_ofNat_of_zero_le (by have := (psz_bounds (l := l.drop o) (ids := ids) (by simp; omega)).1; omega)
      have hb := psz_bounds (l := l.drop o) (ids := ids) (by simp; omega)
      rw [hN, List.length_drop] at hb
      have hb1 : 1 ≤ N := by omega
      have hb2 : N ≤ l.length - o := by omega
      have hcl := HR.out.chain.le
      have P := HRR.out b (off + o) rc (l.drop o) ids wr
      rw [List.length_drop] at P
      have HP := mkHid (P (Sl_dropO (Sl_below HSL.out HR.out.below)) (by omega) (by omega) hrc1 hrc2)
      have HN := mkHid hN
      clear P hN hb hrc
      have dz : decide ((0 : Int) < ((l.length - o : Nat) : Int)) = true := decide_eq_true (by omega)
      go_wp2_with fail
      refine HP.out.mono ?_
      rintro e w2 ⟨cs, a, E, rfl, hB2, hz, hone, hres⟩
      have HZ := mkHid hz
      have HONE := mkHid hone
      have HB2 := mkHid hB2
      have hsz2 := hB2.size
      have hszr := HR.out.below.size
      have HO2 := mkHid (rows_below HR.out.own hB2)
      clear hB2 hz hone
      have HW : Hid (∀ W3, W3 = (w2.alloc (.cells zr 33)).setRow w2.heap.size cs → Hid (Below w.heap.size w W3) ∧ Hid (W3.ownsRow w.heap.size 22 1 (.slice po ps.length pc) ps.length (rpvals b off cap ps)) ∧ (∀ v, cs[0]? = some v → W3.cell? ⟨w2.heap.size, 0, none⟩ = some v) ∧ (∀ v, cs[5]? = some v → W3.cell? ⟨w2.heap.size, 5, none⟩ = some v)) := by
        rintro W3 rfl
        have hb : Below w2.heap.size w2 ((w2.alloc (.cells zr 33)).setRow w2.heap.size cs) := below_setRow ((Below.refl _ _).alloc (Nat.le_refl _) _) (Nat.le_refl _) cs
        have hrow : ((w2.alloc (.cells zr 33)).setRow w2.heap.size cs).heap[w2.heap.size]? = some (.cells cs 33 (0, 0)) := setRow_heap _ _ _ _ 33 _ (heap_alloc_new w2 _)
        refine ⟨(HR.out.below.trans (HB2.out.mono HR.out.below.size)).trans (hb.mono (by omega)), rows_below HO2.out hb, fun v hv => ?_, fun v hv => ?_⟩
        · unfold World.cell?; rw [hrow]; exact hv
        · unfold World.cell?; rw [hrow]; exact hv
      rcases hres with ⟨hE, hp⟩ | ⟨rfl, p, hp, h0, h5, rfl⟩
      · have hEb : (E == 0) = false := by simp [hE]
        have hNl : l.length - o = N := by
          have h := HN.out
          unfold psz at h
          rw [hp] at h
          simp only [List.length_drop] at h
          omega
        clear hp hE
        by_cases hcap : rc = N
        · subst hcap
          have e1 : ¬ rc = 0 := by omega
          rw [hNl]
          go_wp2_with (first
              | (refine wpList_store_row rfl 33 (.tmp 7) (.tmp 19) rfl w2.heap.size cs rfl rfl 33 zr (heap_alloc_new w2 (.cells zr 33)) (by rw [HZ.out]; exact sz33) (by rw [HZ.out]; rfl) HONE.out ?_; generalize hWW : World.setRow (World.alloc w2 _) w2.heap.size cs = W3; obtain ⟨HB3, HO3, c0, c5⟩ := HW.out W3 hWW.symm; clear c0 c5; clear hWW)
              | (at_builtin; refine wpList_append_own _ rfl (.tmp 33) (.tmp 37) 39 rfl w.heap.size 22 i0 (.slice none 0 0) 1 24 Tryd.underlying39 hi hz0 hz1 hz2 rfl (by decide) (.slice po ps.length pc) ps.length (rpvals b off cap ps) rfl (HO3.out.alloc _) ⟨W3.heap.size, 0, none⟩ 1 1 [.slice (some ⟨b, off + o, none⟩) rc rc] rfl rfl (new_slice _) (by simp [Value.oneCell']) (by unfold maxLen; omega) (by omega) (by have := HB3.out.size; simp; omega) ?_; intro v' w4 hown hgrow hnn; obtain ⟨g', cp', hv'⟩ := rows_shape hown (by omega); subst hv'; have HO4 := mkHid hown; have HG4 := mkHid hgrow; clear hown hgrow hnn))
          go_roundg (l.length + 1 - (o + rc))
          case measure => omega
          case rel =>
            refine ⟨o + rc, ps ++ [(o, rc)], some ⟨g', 0, none⟩, cp', some ⟨b, off + o, none⟩, 0, by omega, rfl, by simp, by first | rw [Nat.sub_sub] | (congr 1; omega), ?_⟩
            have hB4 : Below w.heap.size w w4 := (HB3.out.alloc HB3.out.size _).grown HG4.out (by have := HB3.out.size; simp; omega) (fun k hk => (HO3.out.lt k hk).1)
            refine ⟨hB4, HR.out.chain.snoc HN.out.symm (by omega), ?_, fun h => by have := HRC.out; omega⟩
            have := HO4.out
            simp only [List.length_append, List.length_cons, List.length_nil, Nat.zero_add]
            unfold rpvals at this ⊢
            rw [List.map_append]
            rw [show List.map (rpval b off cap) [(o, rc)] = [.slice (some ⟨b, off + o, none⟩) rc rc] by rw [HRC.out]; rfl]
            exact this
        · have e1 : ¬ rc = N := hcap
          have e2 : ¬ N = rc := fun h => hcap h.symm
          rw [hNl]
          go_wp2_with (first
              | (refine wpList_store_row rfl 33 (.tmp 7) (.tmp 19) rfl w2.heap.size cs rfl rfl 33 zr (heap_alloc_new w2 (.cells zr 33)) (by rw [HZ.out]; exact sz33) (by rw [HZ.out]; rfl) HONE.out ?_; generalize hWW : World.setRow (World.alloc w2 _) w2.heap.size cs = W3; obtain ⟨HB3, HO3, c0, c5⟩ := HW.out W3 hWW.symm; clear c0 c5; clear hWW)
              | (at_builtin; refine wpList_append_own _ rfl (.tmp 33) (.tmp 37) 39 rfl w.heap.size 22 i0 (.slice none 0 0) 1 24 Tryd.underlying39 hi hz0 hz1 hz2 rfl (by decide) (.slice po ps.length pc) ps.length (rpvals b off cap ps) rfl (HO3.out.alloc _) ⟨W3.heap.size, 0, none⟩ 1 1 [.slice (some ⟨b, off + o, none⟩) N rc] rfl rfl (new_slice _) (by simp [Value.oneCell']) (by unfold maxLen; omega) (by omega) (by have := HB3.out.size; simp; omega) ?_; intro v' w4 hown hgrow hnn; obtain ⟨g', cp', hv'⟩ := rows_shape hown (by omega); subst hv'; have HO4 := mkHid hown; have HG4 := mkHid hgrow; clear hown hgrow hnn))
          go_roundg (l.length + 1 - (o + N))
          case measure => omega
          case rel =>
            refine ⟨o + N, ps ++ [(o, N)], some ⟨g', 0, none⟩, cp', some ⟨b, off + o + N, none⟩, rc - N, by omega, rfl, by simp, by first | rw [Nat.sub_sub] | (congr 1; omega), ?_⟩
            have hB4 : Below w.heap.size w w4 := (HB3.out.alloc HB3.out.size _).grown HG4.out (by have := HB3.out.size; simp; omega) (fun k hk => (HO3.out.lt k hk).1)
            refine ⟨hB4, HR.out.chain.snoc HN.out.symm (by omega), ?_, fun h => ⟨by rw [Nat.add_assoc], by have := HRC.out; omega⟩⟩
            have := HO4.out
            simp only [List.length_append, List.length_cons, List.length_nil, Nat.zero_add]
            unfold rpvals at this ⊢
            rw [List.map_append]
            rw [show List.map (rpval b off cap) [(o, N)] = [.slice (some ⟨b, off + o, none⟩) N rc] by rw [HRC.out]; rfl]
            exact this
      · obtain ⟨_, _, _, hk, _⟩ := parse_range hp
        have hps := HN.out
        unfold psz at hps
        rw [hp] at hps
        simp only [List.length_drop] at hps
        obtain ⟨K, hK⟩ : ∃ K, p.k = K := ⟨_, rfl⟩
        obtain ⟨A, hA⟩ : ∃ A, p.at' = A := ⟨_, rfl⟩
        obtain ⟨L, hL⟩ : ∃ L, p.len = L := ⟨_, rfl⟩
        rw [hK, hA, hL] at hps hk
        rw [hK] at h0
        rw [hL] at h5
        rw [hA]
        have H00 := mkHid h0
        have H55 := mkHid h5
        clear hp hK hA hL h0 h5
        by_cases h2 : K ≤ 2
        · obtain ⟨q1, q2, q3⟩ := hk h2
          rw [if_pos h2] at hps
          clear hk
          by_cases hcap : rc = N
          · subst hcap
            have e1 : ¬ rc = 0 := by omega
            have hAL := hps
            clear hps
            go_wp2_with (first
                | (refine wpList_store_row rfl 33 (.tmp 7) (.tmp 19) rfl w2.heap.size cs rfl rfl 33 zr (heap_alloc_new w2 (.cells zr 33)) (by rw [HZ.out]; exact sz33) (by rw [HZ.out]; rfl) HONE.out ?_; generalize hWW : World.setRow (World.alloc w2 _) w2.heap.size cs = W3; obtain ⟨HB3, HO3, c0', c5'⟩ := HW.out W3 hWW.symm; have c0 := c0' _ H00.out; have c5 := c5' _ H55.out; clear c0' c5'; clear hWW)
                | (at_builtin; refine wpList_append_own _ rfl (.tmp 33) (.tmp 37) 39 rfl w.heap.size 22 i0 (.slice none 0 0) 1 24 Tryd.underlying39 hi hz0 hz1 hz2 rfl (by decide) (.slice po ps.length pc) ps.length (rpvals b off cap ps) rfl (HO3.out.alloc _) ⟨W3.heap.size, 0, none⟩ 1 1 [.slice (some ⟨b, off + o, none⟩) rc rc] rfl rfl (new_slice _) (by simp [Value.oneCell']) (by unfold maxLen; omega) (by omega) (by have := HB3.out.size; simp; omega) ?_; intro v' w4 hown hgrow hnn; obtain ⟨g', cp', hv'⟩ := rows_shape hown (by omega); subst hv'; have HO4 := mkHid hown; have HG4 := mkHid hgrow; clear hown hgrow hnn))
            go_roundg (l.length + 1 - (o + rc))
            case measure => omega
            case rel =>
              refine ⟨o + rc, ps ++ [(o, rc)], some ⟨g', 0, none⟩, cp', some ⟨b, off + o, none⟩, 0, by omega, rfl, by simp, by first | rw [Nat.sub_sub] | (congr 1; omega), ?_⟩
              have hB4 : Below w.heap.size w w4 := (HB3.out.alloc HB3.out.size _).grown HG4.out (by have := HB3.out.size; simp; omega) (fun k hk => (HO3.out.lt k hk).1)
              refine ⟨hB4, HR.out.chain.snoc HN.out.symm (by omega), ?_, fun h => by have := HRC.out; omega⟩
              have := HO4.out
              simp only [List.length_append, List.length_cons, List.length_nil, Nat.zero_add]
              unfold rpvals at this ⊢
              rw [List.map_append]
              rw [show List.map (rpval b off cap) [(o, rc)] = [.slice (some ⟨b, off + o, none⟩) rc rc] by rw [HRC.out]; rfl]
              exact this
          · have e1 : ¬ rc = N := hcap
            have e2 : ¬ N = rc := fun h => hcap h.symm
            have hAL := hps
            clear hps
            go_wp2_with (first
                | (refine wpList_store_row rfl 33 (.tmp 7) (.tmp 19) rfl w2.heap.size cs rfl rfl 33 zr (heap_alloc_new w2 (.cells zr 33)) (by rw [HZ.out]; exact sz33) (by rw [HZ.out]; rfl) HONE.out ?_; generalize hWW : World.setRow (World.alloc w2 _) w2.heap.size cs = W3; obtain ⟨HB3, HO3, c0', c5'⟩ := HW.out W3 hWW.symm; have c0 := c0' _ H00.out; have c5 := c5' _ H55.out; clear c0' c5'; clear hWW)
                | (at_builtin; refine wpList_append_own _ rfl (.tmp 33) (.tmp 37) 39 rfl w.heap.size 22 i0 (.slice none 0 0) 1 24 Tryd.underlying39 hi hz0 hz1 hz2 rfl (by decide) (.slice po ps.length pc) ps.length (rpvals b off cap ps) rfl (HO3.out.alloc _) ⟨W3.heap.size, 0, none⟩ 1 1 [.slice (some ⟨b, off + o, none⟩) N rc] rfl rfl (new_slice _) (by simp [Value.oneCell']) (by unfold maxLen; omega) (by omega) (by have := HB3.out.size; simp; omega) ?_; intro v' w4 hown hgrow hnn; obtain ⟨g', cp', hv'⟩ := rows_shape hown (by omega); subst hv'; have HO4 := mkHid hown; have HG4 := mkHid hgrow; clear hown hgrow hnn))
            go_roundg (l.length + 1 - (o + N))
            case measure => omega
            case rel =>
              refine ⟨o + N, ps ++ [(o, N)], some ⟨g', 0, none⟩, cp', some ⟨b, off + o + N, none⟩, rc - N, by omega, rfl, by simp, by first | rw [Nat.sub_sub] | (congr 1; omega), ?_⟩
              have hB4 : Below w.heap.size w w4 := (HB3.out.alloc HB3.out.size _).grown HG4.out (by have := HB3.out.size; simp; omega) (fun k hk => (HO3.out.lt k hk).1)
              refine ⟨hB4, HR.out.chain.snoc HN.out.symm (by omega), ?_, fun h => ⟨by rw [Nat.add_assoc], by have := HRC.out; omega⟩⟩
              have := HO4.out
              simp only [List.length_append, List.length_cons, List.length_nil, Nat.zero_add]
              unfold rpvals at this ⊢
              rw [List.map_append]
              rw [show List.map (rpval b off cap) [(o, N)] = [.slice (some ⟨b, off + o, none⟩) N rc] by rw [HRC.out]; rfl]
              exact this
        · rw [if_neg h2] at hps
          have hNl : l.length - o = N := by omega
          clear hk hps
          by_cases hcap : rc = N
          · subst hcap
            have e1 : ¬ rc = 0 := by omega
            rw [hNl]
            go_wp2_with (first
                | (refine wpList_store_row rfl 33 (.tmp 7) (.tmp 19) rfl w2.heap.size cs rfl rfl 33 zr (heap_alloc_new w2 (.cells zr 33)) (by rw [HZ.out]; exact sz33) (by rw [HZ.out]; rfl) HONE.out ?_; generalize hWW : World.setRow (World.alloc w2 _) w2.heap.size cs = W3; obtain ⟨HB3, HO3, c0', c5'⟩ := HW.out W3 hWW.symm; have c0 := c0' _ H00.out; have c5 := c5' _ H55.out; clear c0' c5'; clear hWW)
                | (at_builtin; refine wpList_append_own _ rfl (.tmp 33) (.tmp 37) 39 rfl w.heap.size 22 i0 (.slice none 0 0) 1 24 Tryd.underlying39 hi hz0 hz1 hz2 rfl (by decide) (.slice po ps.length pc) ps.length (rpvals b off cap ps) rfl (HO3.out.alloc _) ⟨W3.heap.size, 0, none⟩ 1 1 [.slice (some ⟨b, off + o, none⟩) rc rc] rfl rfl (new_slice _) (by simp [Value.oneCell']) (by unfold maxLen; omega) (by omega) (by have := HB3.out.size; simp; omega) ?_; intro v' w4 hown hgrow hnn; obtain ⟨g', cp', hv'⟩ := rows_shape hown (by omega); subst hv'; have HO4 := mkHid hown; have HG4 := mkHid hgrow; clear hown hgrow hnn))
            go_roundg (l.length + 1 - (o + rc))
            case measure => omega
            case rel =>
              refine ⟨o + rc, ps ++ [(o, rc)], some ⟨g', 0, none⟩, cp', some ⟨b, off + o, none⟩, 0, by omega, rfl, by simp, by first | rw [Nat.sub_sub] | (congr 1; omega), ?_⟩
              have hB4 : Below w.heap.size w w4 := (HB3.out.alloc HB3.out.size _).grown HG4.out (by have := HB3.out.size; simp; omega) (fun k hk => (HO3.out.lt k hk).1)
              refine ⟨hB4, HR.out.chain.snoc HN.out.symm (by omega), ?_, fun h => by have := HRC.out; omega⟩
              have := HO4.out
              simp only [List.length_append, List.length_cons, List.length_nil, Nat.zero_add]
              unfold rpvals at this ⊢
              rw [List.map_append]
              rw [show List.map (rpval b off cap) [(o, rc)] = [.slice (some ⟨b, off + o, none⟩) rc rc] by rw [HRC.out]; rfl]
              exact this
          · have e1 : ¬ rc = N := hcap
            have e2 : ¬ N = rc := fun h => hcap h.symm
            rw [hNl]
            go_wp2_with (first
                | (refine wpList_store_row rfl 33 (.tmp 7) (.tmp 19) rfl w2.heap.size cs rfl rfl 33 zr (heap_alloc_new w2 (.cells zr 33)) (by rw [HZ.out]; exact sz33) (by rw [HZ.out]; rfl) HONE.out ?_; generalize hWW : World.setRow (World.alloc w2 _) w2.heap.size cs = W3; obtain ⟨HB3, HO3, c0', c5'⟩ := HW.out W3 hWW.symm; have c0 := c0' _ H00.out; have c5 := c5' _ H55.out; clear c0' c5'; clear hWW)
                | (at_builtin; refine wpList_append_own _ rfl (.tmp 33) (.tmp 37) 39 rfl w.heap.size 22 i0 (.slice none 0 0) 1 24 Tryd.underlying39 hi hz0 hz1 hz2 rfl (by decide) (.slice po ps.length pc) ps.length (rpvals b off cap ps) rfl (HO3.out.alloc _) ⟨W3.heap.size, 0, none⟩ 1 1 [.slice (some ⟨b, off + o, none⟩) N rc] rfl rfl (new_slice _) (by simp [Value.oneCell']) (by unfold maxLen; omega) (by omega) (by have := HB3.out.size; simp; omega) ?_; intro v' w4 hown hgrow hnn; obtain ⟨g', cp', hv'⟩ := rows_shape hown (by omega); subst hv'; have HO4 := mkHid hown; have HG4 := mkHid hgrow; clear hown hgrow hnn))
            go_roundg (l.length + 1 - (o + N))
            case measure => omega
            case rel =>
              refine ⟨o + N, ps ++ [(o, N)], some ⟨g', 0, none⟩, cp', some ⟨b, off + o + N, none⟩, rc - N, by omega, rfl, by simp, by first | rw [Nat.sub_sub] | (congr 1; omega), ?_⟩
              have hB4 : Below w.heap.size w w4 := (HB3.out.alloc HB3.out.size _).grown HG4.out (by have := HB3.out.size; simp; omega) (fun k hk => (HO3.out.lt k hk).1)
              refine ⟨hB4, HR.out.chain.snoc HN.out.symm (by omega), ?_, fun h => ⟨by rw [Nat.add_assoc], by have := HRC.out; omega⟩⟩
              have := HO4.out
              simp only [List.length_append, List.length_cons, List.length_nil, Nat.zero_add]
              unfold rpvals at this ⊢
              rw [List.map_append]
              rw [show List.map (rpval b off cap) [(o, N)] = [.slice (some ⟨b, off + o, none⟩) N rc] by rw [HRC.out]; rfl]
              exact this
    · obtain rfl : o = l.length := by omega
      have dz : l.length - l.length = 0 := Nat.sub_self _
      go_wp2
      go_ret
      exact ⟨po, pc, ps, rfl, HR.out.own, HR.out.chain, HR.out.below⟩
end Go.Proofs.YtlllejgpmdeeiaaDoor
