/- ledger: lose, its walk. -/
import Derived.Test.YtkjcapmhjhnckaaLo
import Derived.WalkMore
namespace Go.Proofs.Ytkjcapmhjhnckaa
open Go.RowKit Go.Maps Go.Shelf
set_option linter.unusedVariables false
set_option maxRecDepth 100000

/-- Where lose stands behind k. -/
structure LoI (W : World) (A : Ad) (L : Ls) (k : Nat) (o : Option Addr) (c : Nat) (X : World) : Prop where
  lg : Lg X A (L.off k)
  st : Stp A A W X
  pr : Pr X o c (ons (L.O.take k))
  new : ∀ j, Blk o j → W.heap.size ≤ j
theorem LoI.bel {W : World} {A : Ad} {L : Ls} {k : Nat} {o : Option Addr} {c : Nat} {X Y : World} (h : LoI W A L k o c X) (hb : Below X.heap.size X Y) : LoI W A L k o c Y :=
  ⟨h.lg.bel hb, h.st.below hb, h.pr.bel hb, h.new⟩
theorem LoI.push {W : World} {A : Ad} {L : Ls} {k : Nat} {o : Option Addr} {c : Nat} {X : World} {p : Pk} (h : LoI W A L k o c X) (hl : (ons (L.O.take k)).length ≤ 4000000000000) (ho : ons (L.O.take (k + 1)) = ons (L.O.take k) ++ [p]) {Y : World} (hLg : Lg Y A (L.off (k + 1))) (hS : Stp A A X Y) :
    ∃ g off c' w3, (∀ ty, (Builtin.append_ #[38, 38] ty #[.slice o (ons (L.O.take k)).length c, .slice (some ⟨Y.heap.size, 0, none⟩) 1 1]).run Try.prog (Y.alloc (.cells #[.int .i64 p.n, .int .i64 p.a, .int .i64 p.s, .bool p.e] 29)) = .ok (.slice (some ⟨g, off, none⟩) ((ons (L.O.take k)).length + 1) c') w3) ∧ LoI W A L (k + 1) (some ⟨g, off, none⟩) c' w3 ∧ Chg (Blk o) Y w3 := by
  have hp := h.pr.stp h.lg hS
  obtain ⟨g, off, c', w3, h1, h2, h3, h4⟩ := hp.push p hl
  have hs := h.st.trans hS
  refine ⟨g, off, c', w3, h1, ⟨?_, ?_, ?_, ?_⟩, h3⟩
  · exact hLg.chg h3 fun j hj hb => hp.off hLg hb hj
  · exact ⟨rfl, hs.chg.andThen h3 (fun j hj hb => by have := h.new j hb; omega), fun j hj => .inl hj⟩
  · rw [ho]; exact h2
  · intro j hj
    rw [hj.of]
    rcases h4 with h4 | h4
    · exact h.new _ h4
    · exact Nat.le_trans hs.chg.2.2.2.1 h4
/-- What a ledger is, so that lose may run. -/
structure Ls.fit (L : Ls) : Prop where
  pk : ∀ x ∈ L.O, x.1.ok
  len : L.O.length ≤ 4000000000000
  rise : Rise L.O
  g0 : -1 ≤ L.g
  g1 : L.g ≤ 4611686018427387903
theorem take_succ' {α : Type} {O : List α} {k : Nat} (h : k < O.length) : O.take (k + 1) = O.take k ++ [O[k]] := List.take_succ_eq_append_getElem h
/-- What lose tells. -/
def LoR (W : World) (A : Ad) (L : Ls) (old : Int) (e : Ending) (w' : World) : Prop :=
  ∃ o c, e = .returned (.tuple #[.slice o (ons (L.O.take (lk L.g old L.O))).length c, .int .i64 (sp (L.O.take (lk L.g old L.O))).2]) ∧ LoI W A L (lk L.g old L.O) o c w'
set_option maxHeartbeats 2000000 in
theorem lose_c {W : World} {A : Ad} {L : Ls} (h : Lg W A L) (hf : L.fit) (hz : L.z = zs L.O) (hc : L.c = ce L.O) (old : Int) :
    Calls Try.prog 46 #[.pointer (some ⟨A.b, 0, none⟩), .int .i64 old] W (LoR W A L old) := by
  have h0 : Lg W A (L.off 0) := by
    have : L.off 0 = L := by unfold Ls.off; rw [off_zero, ← hz, ← hc]
    rw [this]; exact h
  have c1 := h.c1
  have HI0 : Aside (LoI W A L 0 none 0 W) := ⟨h0, Stp.refl _ _, Pr.nil _, fun j hj => hj.no.elim⟩
  have hg0 := hf.g0
  have hg1 := hf.g1
  have hN := hf.len
  obtain ⟨N, hNe⟩ : ∃ N, L.O.length = N := ⟨_, rfl⟩
  obtain ⟨K, hKe⟩ : ∃ K, lk L.g old L.O = K := ⟨_, rfl⟩
  have hKN : K ≤ N := by subst hKe hNe; exact tw_le _ _
  have HK : Aside (∀ k (hk : k < L.O.length), k ≤ K → (isL L.g old L.O[k] = true ↔ k < K)) := by
    subst hKe; intro k hk hkk; exact tw_iff hkk hk
  have HF : Aside _ := hf
  have HNE : Aside _ := hNe
  have HKE : Aside _ := hKe
  have HR : Aside (∀ o c w', LoI W A L K o c w' → LoR W A L old (.returned (.tuple #[.slice o (ons (L.O.take K)).length c, .int .i64 (sp (L.O.take K)).2])) w') := by
    subst hKe
    exact fun o c w' hI => ⟨o, c, rfl, hI⟩
  rw [hNe] at hN c1
  generalize hRR : LoR W A L old = RR at *
  clear h h0 hf hz hc hNe hKe hRR
  go_enter Try.func46, Try.ntmps46
  go_wp2
  go_step3
  go_wp2
  go_step3
  go_wp2
  go_loopg [4, 5, 6, 16] N (fun kx s4 s5 s6 s16 wr => ∃ (k n : Nat) (o : Option Addr) (c : Nat) (fr sd : Int), s4 = .slice o n c ∧ s5 = .int .i64 sd ∧ s6 = .int .i64 fr ∧ s16 = .int .i64 (k : Int) ∧ k ≤ K ∧ N - k ≤ kx ∧ Aside (LoI W A L k o c wr ∧ n = (ons (L.O.take k)).length ∧ sp (L.O.take k) = (fr, sd)))
  case atStart => exact ⟨0, 0, none, 0, -1, 0, rfl, rfl, rfl, rfl, by omega, by omega, HI0.out, rfl, rfl⟩
  case round =>
    obtain ⟨k, n, o, c, fr, sd, rfl, rfl, rfl, rfl, hk, hgk, HI⟩ := hrel
    clear c1 HI0
    by_cases hlt : k < N
    · have hi : k < L.O.length := by rw [HNE.out]; exact hlt
      have hmem := off_mem hi
      have hpk := HF.out.pk _ (List.getElem_mem hi)
      have hl := HI.out.1.lg.mp.look hmem hpk
      obtain ⟨gb, ob, ho, cc, -⟩ := HI.out.1.lg.ord.cell (j := k) (v := .int .i64 L.O[k].1.n) (by
        show (ns (off k L.O))[k]? = _
        rw [off_ns]; simp [ns, hi])
      have hkk : Aside (isL L.g old L.O[k] = true ↔ k < K) := HK.out k hi hk
      have HT : Aside (L.O.take (k + 1) = L.O.take k ++ [L.O[k]]) := take_succ' hi
      have HTK : Aside (L.O[k].2 = true → (L.off k).take L.O[k].1 = L.off (k + 1)) := fun hh => Ls.off_take hi HF.out.rise hh
      have HSK : Aside (L.O[k].2 = false → L.off k = L.off (k + 1)) := fun hh => Ls.off_skip hi hh
      have c0 := HI.out.1.lg.c0
      have c3 : wr.cell? ⟨A.b, 3, none⟩ = some (.int .i64 L.g) := HI.out.1.lg.c3
      have hsb : Aside (-1 ≤ fr ∧ fr ≤ 1125899906842624 ∧ 0 ≤ sd ∧ sd ≤ 1125899906842625) := by
        have := sp_bound (O := L.O.take k) (fun x hx => HF.out.pk x (List.mem_of_mem_take hx))
        rw [HI.out.2.2] at this
        exact this
      generalize L.O[k] = x at *
      obtain ⟨⟨pn, pa, ps, pe⟩, pb⟩ := x
      simp only at hl cc
      obtain ⟨pn0, pn1, pa0, pa1, ps0, ps1⟩ := hpk
      simp only at pn0 pn1 pa0 pa1 ps0 ps1
      clear hmem
      have HI1 : Aside _ := hi
      clear hi
      -- GEN
      have hNn : Aside (n ≤ 4000000000000) := by
        have := HI.out.2.1
        have h2 := ons_len (L.O.take k)
        rw [List.length_take] at h2
        show n ≤ _
        omega
      generalize A.o = oo at *
      subst ho
      have i0 : (k : Int) < N := by omega
      have c3a : ∀ ob, (wr.alloc ob).cell? ⟨A.b, 3, none⟩ = some (.int .i64 L.g) := fun ob => cell_bel c3 (bel1 wr ob)
      have iw : IntKind.i64.wrap ((k : Int) + 1) = (k : Int) + 1 := wrp _ (by omega) (by omega)
      have iw3 : IntKind.i64.wrap (L.g - 3) = L.g - 3 := wrp _ (by omega) (by omega)
      cases pb with
      | true =>
        have HTK2 : Aside ((L.off k).take ⟨pn, pa, ps, pe⟩ = L.off (k + 1)) := HTK.out rfl
        clear HSK HTK
        simp only [if_true] at hl
        by_cases hgn : L.g ≤ pn
        · have HkK : Aside (k = K) := by
            have := hkk.out
            have h2 : isL L.g old (⟨pn, pa, ps, pe⟩, true) = false := by
              have : ¬ pn < L.g := by omega
              simp [isL, this]
            rw [h2] at this
            show k = K
            simp at this
            omega
          go_wp2
          have q := HR.out o c _ (LoI.bel (by have := HI.out.1; rw [HkK.out] at this; exact this) (bel1 wr (.cells #[.int .i64 pn, .int .i64 pa, .int .i64 ps, .bool pe] 29)))
          rw [← HkK.out, HI.out.2.2, ← HI.out.2.1] at q
          exact q
        · by_cases hbr : L.g - 3 < pn ∧ old < pa
          · obtain ⟨hb1, hb2⟩ := hbr
            have HkK : Aside (k = K) := by
              have := hkk.out
              have h2 : isL L.g old (⟨pn, pa, ps, pe⟩, true) = false := by
                have h3 : ¬ pn ≤ L.g - 3 := by omega
                have h4 : ¬ pa ≤ old := by omega
                simp [isL, h3, h4]
              rw [h2] at this
              show k = K
              simp at this
              omega
            go_wp2
            have q := HR.out o c _ (LoI.bel (by have := HI.out.1; rw [HkK.out] at this; exact this) (bel1 wr (.cells #[.int .i64 pn, .int .i64 pa, .int .i64 ps, .bool pe] 29)))
            rw [← HkK.out, HI.out.2.2, ← HI.out.2.1] at q
            exact q
          · have HkK : Aside (k < K) := hkk.out.1 (by
                have h3 : pn < L.g := by omega
                have h4 : pn ≤ L.g - 3 ∨ pa ≤ old := by omega
                rcases h4 with h4 | h4 <;> simp [isL, h3, h4])
            have HB1 : Aside (LoI W A L k o c (wr.alloc (.cells #[.int .i64 pn, .int .i64 pa, .int .i64 ps, .bool pe] 29))) := LoI.bel HI.out.1 (bel1 wr (.cells #[.int .i64 pn, .int .i64 pa, .int .i64 ps, .bool pe] 29))
            have hX := heap_alloc_new wr (.cells #[.int .i64 pn, .int .i64 pa, .int .i64 ps, .bool pe] 29)
            have hzb := zs_bound (O := off k L.O) (off_ok HF.out.pk)
            have hcb := ce_bound (off k L.O)
            rw [off_len] at hzb hcb
            have htk := take_c HB1.out.lg ⟨pn, pa, ps, pe⟩ ⟨pn0, pn1, pa0, pa1, ps0, ps1⟩ hzb.1 (by have := hzb.2; have := HF.out.len; show zs (off k L.O) ≤ _; omega) hcb.1 (by have := hcb.2; have := HF.out.len; show ce (off k L.O) ≤ _; omega)
            rw [HTK2.out] at htk
            have HXL : Aside (¬ A.own wr.heap.size) := fun ho => by have := HI.out.1.lg.lt ho; omega
            clear hzb hcb
            have hbr0 : Aside _ := hbr
            clear hbr
            by_cases h3n : L.g - 3 < pn
            · have h3a : ¬ old < pa := fun hh => hbr0.out ⟨h3n, hh⟩
              go_wp2_with fail
              refine htk.mono ?_
              rintro e Y ⟨rfl, hY, hSY⟩
              have hXY : Y.heap[wr.heap.size]? = some (.cells #[.int .i64 pn, .int .i64 pa, .int .i64 ps, .bool pe] 29 (0, 0)) := (hSY.keep hX HXL.out).1
              have HHO : Aside (ons (L.O.take (k + 1)) = ons (L.O.take k) ++ [⟨pn, pa, ps, pe⟩]) := by
                show ons _ = _
                rw [HT.out, ons_snoc]; simp
              obtain ⟨g', off', c', w3, hap, hI3, hch⟩ := LoI.push (p := ⟨pn, pa, ps, pe⟩) HB1.out (by have := hNn.out; have := HI.out.2.1; omega) HHO.out hY hSY
              have hap' : (Builtin.append_ #[38, 38] 38 #[.slice o n c, .slice (some ⟨Y.heap.size, 0, none⟩) 1 1]).run Try.prog (Y.alloc (.cells #[.int .i64 pn, .int .i64 pa, .int .i64 ps, .bool pe] 29)) = .ok (.slice (some ⟨g', off', none⟩) (n + 1) c') w3 := by
                have := hap 38
                rw [← HI.out.2.1] at this
                exact this
              have HI3 : Aside _ := hI3
              have HAP : Aside _ := hap'
              clear hap'
              have HNL : Aside (n + 1 = (ons (L.O.take (k + 1))).length) := by
                show n + 1 = _
                rw [HHO.out, List.length_append, HI.out.2.1]; rfl
              have b0 : Y.cell? ⟨wr.heap.size, 0, none⟩ = some (.int .i64 pn) := by simp [World.cell?, hXY]
              have b1 : Y.cell? ⟨wr.heap.size, 1, none⟩ = some (.int .i64 pa) := by simp [World.cell?, hXY]
              have b2 : Y.cell? ⟨wr.heap.size, 2, none⟩ = some (.int .i64 ps) := by simp [World.cell?, hXY]
              have b3 : Y.cell? ⟨wr.heap.size, 3, none⟩ = some (.bool pe) := by simp [World.cell?, hXY]
              have hX3 : w3.heap[wr.heap.size]? = some (.cells #[.int .i64 pn, .int .i64 pa, .int .i64 ps, .bool pe] 29 (0, 0)) := hch.blk hXY (fun hb => by have := HXL.out; have h9 := Rw.lt HI.out.1.pr hb; omega)
              have d1 : w3.cell? ⟨wr.heap.size, 1, none⟩ = some (.int .i64 pa) := by simp [World.cell?, hX3]
              have d3 : w3.cell? ⟨wr.heap.size, 3, none⟩ = some (.bool pe) := by simp [World.cell?, hX3]
              clear hXY hX3 hch hI3 hap hY hSY htk hX
              generalize wr.heap.size = bx at *
              obtain ⟨f0, f1, s0, s1⟩ := hsb.out
              cases pe with
              | false =>
                go_wp2_with (refine appr rfl _ _ 38 38 rfl _ _ rfl rfl HAP.out (Hid.out ?_))
                refine mkHid ?_
                go_wp2
                go_roundg (N - (k + 1))
                case measure => omega
                case rel =>
                  refine ⟨k + 1, n + 1, _, c', fr, sd, rfl, rfl, rfl, rfl, HkK.out, Nat.le_refl _, HI3.out, HNL.out, ?_⟩
                  rw [HT.out, sp_snoc, HI.out.2.2]; simp [sp1]
              | true =>
                by_cases hfr : fr = -1
                · subst hfr
                  have m1 := max_if sd (pa - pa)
                  have iw5 : IntKind.i64.wrap (pa - pa) = pa - pa := wrp _ (by omega) (by omega)
                  go_wp2_with (refine appr rfl _ _ 38 38 rfl _ _ rfl rfl HAP.out (Hid.out ?_))
                  refine mkHid ?_
                  go_wp2
                  go_roundg (N - (k + 1))
                  case measure => omega
                  case rel =>
                    refine ⟨k + 1, n + 1, _, c', pa, max sd (pa - pa), rfl, ?_, rfl, rfl, HkK.out, Nat.le_refl _, HI3.out, HNL.out, ?_⟩
                    · first | rfl | (rw [← m1]; simp; omega)
                    · rw [HT.out, sp_snoc, HI.out.2.2]; simp [sp1]
                · have m1 := max_if sd (pa - fr)
                  have iw5 : IntKind.i64.wrap (pa - fr) = pa - fr := wrp _ (by omega) (by omega)
                  go_wp2_with (refine appr rfl _ _ 38 38 rfl _ _ rfl rfl HAP.out (Hid.out ?_))
                  refine mkHid ?_
                  go_wp2
                  go_roundg (N - (k + 1))
                  case measure => omega
                  case rel =>
                    refine ⟨k + 1, n + 1, _, c', fr, max sd (pa - fr), rfl, ?_, rfl, rfl, HkK.out, Nat.le_refl _, HI3.out, HNL.out, ?_⟩
                    · first | rfl | (rw [← m1]; simp; omega)
                    · rw [HT.out, sp_snoc, HI.out.2.2]; simp [sp1, hfr]
            · have h3n' : ¬ L.g - 3 < pn := h3n
              go_wp2_with fail
              refine htk.mono ?_
              rintro e Y ⟨rfl, hY, hSY⟩
              have hXY : Y.heap[wr.heap.size]? = some (.cells #[.int .i64 pn, .int .i64 pa, .int .i64 ps, .bool pe] 29 (0, 0)) := (hSY.keep hX HXL.out).1
              have HHO : Aside (ons (L.O.take (k + 1)) = ons (L.O.take k) ++ [⟨pn, pa, ps, pe⟩]) := by
                show ons _ = _
                rw [HT.out, ons_snoc]; simp
              obtain ⟨g', off', c', w3, hap, hI3, hch⟩ := LoI.push (p := ⟨pn, pa, ps, pe⟩) HB1.out (by have := hNn.out; have := HI.out.2.1; omega) HHO.out hY hSY
              have hap' : (Builtin.append_ #[38, 38] 38 #[.slice o n c, .slice (some ⟨Y.heap.size, 0, none⟩) 1 1]).run Try.prog (Y.alloc (.cells #[.int .i64 pn, .int .i64 pa, .int .i64 ps, .bool pe] 29)) = .ok (.slice (some ⟨g', off', none⟩) (n + 1) c') w3 := by
                have := hap 38
                rw [← HI.out.2.1] at this
                exact this
              have HI3 : Aside _ := hI3
              have HAP : Aside _ := hap'
              clear hap'
              have HNL : Aside (n + 1 = (ons (L.O.take (k + 1))).length) := by
                show n + 1 = _
                rw [HHO.out, List.length_append, HI.out.2.1]; rfl
              have b0 : Y.cell? ⟨wr.heap.size, 0, none⟩ = some (.int .i64 pn) := by simp [World.cell?, hXY]
              have b1 : Y.cell? ⟨wr.heap.size, 1, none⟩ = some (.int .i64 pa) := by simp [World.cell?, hXY]
              have b2 : Y.cell? ⟨wr.heap.size, 2, none⟩ = some (.int .i64 ps) := by simp [World.cell?, hXY]
              have b3 : Y.cell? ⟨wr.heap.size, 3, none⟩ = some (.bool pe) := by simp [World.cell?, hXY]
              have hX3 : w3.heap[wr.heap.size]? = some (.cells #[.int .i64 pn, .int .i64 pa, .int .i64 ps, .bool pe] 29 (0, 0)) := hch.blk hXY (fun hb => by have := HXL.out; have h9 := Rw.lt HI.out.1.pr hb; omega)
              have d1 : w3.cell? ⟨wr.heap.size, 1, none⟩ = some (.int .i64 pa) := by simp [World.cell?, hX3]
              have d3 : w3.cell? ⟨wr.heap.size, 3, none⟩ = some (.bool pe) := by simp [World.cell?, hX3]
              clear hXY hX3 hch hI3 hap hY hSY htk hX
              generalize wr.heap.size = bx at *
              obtain ⟨f0, f1, s0, s1⟩ := hsb.out
              cases pe with
              | false =>
                go_wp2_with (refine appr rfl _ _ 38 38 rfl _ _ rfl rfl HAP.out (Hid.out ?_))
                refine mkHid ?_
                go_wp2
                go_roundg (N - (k + 1))
                case measure => omega
                case rel =>
                  refine ⟨k + 1, n + 1, _, c', fr, sd, rfl, rfl, rfl, rfl, HkK.out, Nat.le_refl _, HI3.out, HNL.out, ?_⟩
                  rw [HT.out, sp_snoc, HI.out.2.2]; simp [sp1]
              | true =>
                by_cases hfr : fr = -1
                · subst hfr
                  have m1 := max_if sd (pa - pa)
                  have iw5 : IntKind.i64.wrap (pa - pa) = pa - pa := wrp _ (by omega) (by omega)
                  go_wp2_with (refine appr rfl _ _ 38 38 rfl _ _ rfl rfl HAP.out (Hid.out ?_))
                  refine mkHid ?_
                  go_wp2
                  go_roundg (N - (k + 1))
                  case measure => omega
                  case rel =>
                    refine ⟨k + 1, n + 1, _, c', pa, max sd (pa - pa), rfl, ?_, rfl, rfl, HkK.out, Nat.le_refl _, HI3.out, HNL.out, ?_⟩
                    · first | rfl | (rw [← m1]; simp; omega)
                    · rw [HT.out, sp_snoc, HI.out.2.2]; simp [sp1]
                · have m1 := max_if sd (pa - fr)
                  have iw5 : IntKind.i64.wrap (pa - fr) = pa - fr := wrp _ (by omega) (by omega)
                  go_wp2_with (refine appr rfl _ _ 38 38 rfl _ _ rfl rfl HAP.out (Hid.out ?_))
                  refine mkHid ?_
                  go_wp2
                  go_roundg (N - (k + 1))
                  case measure => omega
                  case rel =>
                    refine ⟨k + 1, n + 1, _, c', fr, max sd (pa - fr), rfl, ?_, rfl, rfl, HkK.out, Nat.le_refl _, HI3.out, HNL.out, ?_⟩
                    · first | rfl | (rw [← m1]; simp; omega)
                    · rw [HT.out, sp_snoc, HI.out.2.2]; simp [sp1, hfr]
      | false =>
        have HSK2 : Aside (L.off k = L.off (k + 1)) := HSK.out rfl
        clear HSK HTK
        simp only [Bool.false_eq_true, if_false] at hl
        by_cases hgn : L.g ≤ pn
        · have HkK : Aside (k = K) := by
            have := hkk.out
            have h2 : isL L.g old (⟨pn, pa, ps, pe⟩, false) = false := by
              have : ¬ pn < L.g := by omega
              simp [isL, this]
            rw [h2] at this
            show k = K
            simp at this
            omega
          go_wp2
          have q := HR.out o c _ (LoI.bel (by have := HI.out.1; rw [HkK.out] at this; exact this) (bel1 wr (.cells #[.int .i64 0, .int .i64 0, .int .i64 0, .bool false] 29)))
          rw [← HkK.out, HI.out.2.2, ← HI.out.2.1] at q
          exact q
        · have hgn2 : ¬ L.g ≤ pn := hgn
          have HkK : Aside (k < K) := hkk.out.1 (by have : pn < L.g := by omega
                                                    simp [isL, this])
          go_wp2
          go_roundg (N - (k + 1))
          case measure => omega
          case rel =>
            have hI := LoI.bel HI.out.1 (bel1 wr (.cells #[.int .i64 0, .int .i64 0, .int .i64 0, .bool false] 29))
            refine ⟨k + 1, n, o, c, -1, sd, rfl, rfl, rfl, rfl, HkK.out, Nat.le_refl _, ⟨by rw [← HSK2.out]; exact hI.lg, hI.st, ?_, hI.new⟩, ?_, ?_⟩
            · rw [HT.out, ons_snoc]; simpa using hI.pr
            · rw [HT.out, ons_snoc, HI.out.2.1]; simp
            · rw [HT.out, sp_snoc, HI.out.2.2]; simp [sp1]
    · obtain rfl : k = N := by omega
      obtain rfl : k = K := by omega
      have i0 : ¬ (k : Int) < k := by omega
      go_wp2
      have q := HR.out o c _ HI.out.1
      rw [HI.out.2.2, ← HI.out.2.1] at q
      exact q
    end Go.Proofs.Ytkjcapmhjhnckaa
    