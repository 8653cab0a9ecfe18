/- ledger: Clear. -/
import Derived.Test.YtkjcapmhjhnckaaAc
namespace Go.Proofs.Ytkjcapmhjhnckaa
open Go.RowKit Go.Maps Go.Shelf
set_option linter.unusedVariables false
set_option maxRecDepth 100000

/-- A ledger that was cleared. -/
def Ls.clr (L : Ls) : Ls := { L with O := [], z := 0, c := 0 }
/-- Where Clear stands behind k. -/
structure ClI (W : World) (A : Ad) (L : Ls) (k : Nat) (o : Option Addr) (c : Nat) (X : World) : Prop where
  lg : Lg X A L
  st : Stp A A W X
  pr : Pr X o c (ons (L.O.take k))
  new : ∀ j, Blk o j → W.heap.size ≤ j
theorem ClI.bel {W : World} {A : Ad} {L : Ls} {k : Nat} {o : Option Addr} {c : Nat} {X Y : World} (h : ClI W A L k o c X) (hb : Below X.heap.size X Y) : ClI W A L k o c Y :=
  ⟨h.lg.bel hb, h.st.below hb, h.pr.bel hb, h.new⟩
theorem ClI.push {W : World} {A : Ad} {L : Ls} {k : Nat} {o : Option Addr} {c : Nat} {X : World} {p : Pk} (h : ClI W A L k o c X) (hl : (ons (L.O.take k)).length ≤ 4000000000000) (ho : ons (L.O.take (k + 1)) = ons (L.O.take k) ++ [p]) :
    ∃ g off c' w3, (∀ ty, (Builtin.append_ #[38, 38] ty #[.slice o (ons (L.O.take k)).length c, .slice (some ⟨X.heap.size, 0, none⟩) 1 1]).run Try.prog (X.alloc (.cells #[.int .i64 p.n, .int .i64 p.a, .int .i64 p.s, .bool p.e] 29)) = .ok (.slice (some ⟨g, off, none⟩) ((ons (L.O.take k)).length + 1) c') w3) ∧ ClI W A L (k + 1) (some ⟨g, off, none⟩) c' w3 := by
  obtain ⟨g, off, c', w3, h1, h2, h3, h4⟩ := h.pr.push p hl
  refine ⟨g, off, c', w3, h1, ⟨?_, ?_, ?_, ?_⟩⟩
  · exact h.lg.chg h3 fun j hj hb => h.pr.off h.lg hb hj
  · exact ⟨rfl, h.st.chg.andThen h3 (fun j hj hb => by have := h.new j hb; omega), fun j hj => .inl hj⟩
  · rw [ho]; exact h2
  · intro j hj
    rw [hj.of]
    rcases h4 with h4 | h4
    · exact h.new _ h4
    · exact Nat.le_trans h.st.chg.2.2.2.1 h4
theorem fst_all (O : List (Pk × Bool)) : fst (un (fun _ => true) O) = O.length := by
  induction O with
  | nil => rfl
  | cons x t ih =>
    have e : un (fun _ => true) (x :: t) = (x.1, false) :: un (fun _ => true) t := by simp [un]
    rw [e]
    have : fst ((x.1, false) :: un (fun _ => true) t) = fst (un (fun _ => true) t) + 1 := by simp [fst]
    rw [this, ih]
    rfl
/-- What Clear tells. -/
def ClR (W : World) (A : Ad) (L : Ls) (r : Ending) (w' : World) : Prop :=
  ∃ A' o c, r = .returned (.slice o (ons L.O).length c) ∧ A'.m = A.m ∧ Lg w' A' L.clr ∧ Stp A A' W w' ∧ Pr w' o c (ons L.O) ∧ ∀ j, Blk o j → W.heap.size ≤ j
set_option maxHeartbeats 600000 in
theorem clear_c {W : World} {A : Ad} {L : Ls} {M : Nat} (h : Lg W A L) (ho : L.ok M) : Calls Try.prog 18 #[.pointer (some ⟨A.b, 0, none⟩)] W (ClR W A L) := by
  have hn := none_c h
  have c1 := h.c1
  have HI0 : Aside (ClI W A L 0 none 0 W) := ⟨h, Stp.refl _ _, Pr.nil _, fun j hj => hj.no.elim⟩
  have HF : Aside _ := ho.fit
  have hN := ho.fit.len
  obtain ⟨N, hNe⟩ : ∃ N, L.O.length = N := ⟨_, rfl⟩
  have HNE : Aside _ := hNe
  rw [hNe] at hN c1
  have HRR : Aside (∀ r w', ClR W A L r w' → ClR W A L r w') := fun _ _ h => h
  have hbl := h.blk
  obtain ⟨RR, hRR⟩ : ∃ RR, ClR W A L = RR := ⟨_, rfl⟩
  rw [hRR]
  have HR : Aside (∀ r w', ClR W A L r w' → RR r w') := by subst hRR; exact fun _ _ h => h
  clear h ho hNe HRR hRR
  go_enter Try.func18, Try.ntmps18
  go_wp2_with fail
  refine hn.mono ?_
  rintro e u ⟨rfl, hu⟩
  subst u
  clear hn
  go_wp2_with fail
  go_loopg [3, 15] N (fun kx s3 s15 wr => ∃ (k n : Nat) (o : Option Addr) (c : Nat), s3 = .slice o n c ∧ s15 = .int .i64 (k : Int) ∧ k ≤ N ∧ N - k ≤ kx ∧ Aside (ClI W A L k o c wr ∧ n = (ons (L.O.take k)).length))
  case atStart => exact ⟨0, 0, none, 0, rfl, rfl, by omega, by omega, HI0.out, rfl⟩
  case round =>
    obtain ⟨k, n, o, c, rfl, rfl, hk, hgk, HI⟩ := hrel
    clear c1 HI0
    by_cases hlt : k < N
    · have hi : k < L.O.length := by rw [HNE.out]; exact hlt
      have hpk := HF.out.pk _ (List.getElem_mem hi)
      have hl := HI.out.1.lg.mp.look (List.getElem_mem hi) hpk
      obtain ⟨gb, ob, ho, cc, -⟩ := HI.out.1.lg.ord.cell (j := k) (v := .int .i64 L.O[k].1.n) (by simp [ns, hi])
      have HT : Aside (L.O.take (k + 1) = L.O.take k ++ [L.O[k]]) := take_succ' hi
      have c0 := HI.out.1.lg.c0
      have hNn : Aside (n ≤ 4000000000000) := by
        have := HI.out.2
        have h2 := ons_len (L.O.take k)
        rw [List.length_take] at h2
        show n ≤ _
        omega
      generalize L.O[k] = x at *
      obtain ⟨⟨pn, pa, ps, pe⟩, pb⟩ := x
      simp only at hl cc
      have i0 : (k : Int) < N := by omega
      have iw : IntKind.i64.wrap ((k : Int) + 1) = (k : Int) + 1 := wrp _ (by omega) (by omega)
      clear hi hpk
      generalize A.o = oo at *
      subst ho
      cases pb with
      | true =>
        simp only [if_true] at hl
        have HB : Aside _ := HI.out.1.bel (bel1 wr (.cells #[.int .i64 pn, .int .i64 pa, .int .i64 ps, .bool pe] 29))
        have HHO : Aside (ons (L.O.take (k + 1)) = ons (L.O.take k) ++ [⟨pn, pa, ps, pe⟩]) := by
          show ons _ = _
          rw [HT.out, ons_snoc]; simp
        obtain ⟨g', off', c', w3, hap, hI3⟩ := ClI.push (p := ⟨pn, pa, ps, pe⟩) HB.out (by have := hNn.out; have := HI.out.2; omega) HHO.out
        have HAP : Aside ((Builtin.append_ #[38, 38] 38 #[.slice o n c, .slice (some ⟨wr.heap.size + 1, 0, none⟩) 1 1]).run Try.prog ((wr.alloc (.cells #[.int .i64 pn, .int .i64 pa, .int .i64 ps, .bool pe] 29)).alloc (.cells #[.int .i64 pn, .int .i64 pa, .int .i64 ps, .bool pe] 29)) = .ok (.slice (some ⟨g', off', none⟩) (n + 1) c') w3) := by
          have := hap 38
          rw [← HI.out.2, World.size_alloc] at this
          exact this
        have HI3 : Aside _ := hI3
        have HNL : Aside (n + 1 = (ons (L.O.take (k + 1))).length) := by
          show n + 1 = _
          rw [HHO.out, List.length_append, HI.out.2]; rfl
        clear hap hI3
        go_wp2_with (refine appr rfl _ _ 38 38 rfl _ _ rfl rfl HAP.out (Hid.out ?_))
        refine mkHid ?_
        go_wp2
        go_roundg (N - (k + 1))
        case measure => omega
        case rel => exact ⟨k + 1, n + 1, _, c', rfl, rfl, by omega, Nat.le_refl _, HI3.out, HNL.out⟩
      | false =>
        simp only [Bool.false_eq_true, if_false] at hl
        have HB : Aside _ := HI.out.1.bel (bel1 wr (.cells #[.int .i64 0, .int .i64 0, .int .i64 0, .bool false] 29))
        have HHO : Aside (ons (L.O.take (k + 1)) = ons (L.O.take k)) := by
          show ons _ = _
          rw [HT.out, ons_snoc]; simp
        go_wp2
        go_roundg (N - (k + 1))
        case measure => omega
        case rel => exact ⟨k + 1, n, o, c, rfl, rfl, by omega, Nat.le_refl _, ⟨HB.out.lg, HB.out.st, by rw [HHO.out]; exact HB.out.pr, HB.out.new⟩, by rw [HHO.out]; exact HI.out.2⟩
    · obtain rfl : k = N := by omega
      have i0 : ¬ (k : Int) < k := by omega
      have hta : L.O.take k = L.O := by rw [← HNE.out, List.take_length]
      have hI := HI.out.1
      have hn2 := HI.out.2
      have hpr := hI.pr
      rw [hta] at hpr hn2
      have c0 := hI.lg.c0
      obtain ⟨W1, hcl, hm1, hc1'⟩ := hI.lg.mp.clear 0
      obtain ⟨h2, hs2⟩ := hI.lg.map hm1 hc1' (ns_un _ _)
      have htr := trim_c h2 (un_ok (q := fun _ => true) HF.out.pk) (by show (un (fun _ => true) L.O).length ≤ _; rw [un_len]; exact HF.out.len)
      have HE : Aside (∀ (A' : Ad) (W2 : World), A'.m = A.m → A'.b = A.b → Lg W2 A' (({ L with O := un (fun _ => true) L.O } : Ls).trim) → Stp A A' W1 W2 → W2.cell? ⟨A.b, 5, none⟩ = some (.int .i64 L.z) ∧ W2.frozen? ⟨A.b, 5, none⟩ = false ∧ (W2.setCell ⟨A.b, 5, none⟩ (.int .i64 0)).cell? ⟨A.b, 6, none⟩ = some (.int .i64 L.c) ∧ (W2.setCell ⟨A.b, 5, none⟩ (.int .i64 0)).frozen? ⟨A.b, 6, none⟩ = false ∧ ClR W A L (.returned (.slice o n c)) ((W2.setCell ⟨A.b, 5, none⟩ (.int .i64 0)).setCell ⟨A.b, 6, none⟩ (.int .i64 0))) := by
        intro A' W2 hm hb hl hs
        have e0 : (({ L with O := un (fun _ => true) L.O } : Ls).trim) = { L with O := [] } := by
          unfold Ls.trim
          simp only
          rw [fst_all, show L.O.length = (un (fun _ => true) L.O).length from (un_len _ _).symm, List.drop_length]
        rw [e0] at hl
        have k5 := hl.c5
        have f5 := hl.fz 5
        obtain ⟨h5, s5⟩ := hl.set (L' := { L with O := [], z := 0 }) 5 (.int .i64 0) (by simp [Ls.cs]) rfl rfl
        have k6 := h5.c6
        have f6 := h5.fz 6
        obtain ⟨h6, s6⟩ := h5.set (L' := L.clr) 6 (.int .i64 0) (by simp [Ls.cs, Ls.clr]) rfl rfl
        rw [hb] at k5 f5 h5 s5 k6 f6 h6 s6
        have hsa : Stp A A' W1 ((W2.setCell ⟨A.b, 5, none⟩ (.int .i64 0)).setCell ⟨A.b, 6, none⟩ (.int .i64 0)) := (hs.trans s5).trans s6
        have p1 := hpr.stp hI.lg hs2
        exact ⟨k5, f5, k6, f6, A', o, c, by rw [hn2], hm, h6, (hI.st.trans hs2).trans hsa, p1.stp h2 hsa, hI.new⟩
      clear hI hpr h2 hs2 hm1 hc1' hta hn2 HI
      go_wp2_with fail
      refine htr.mono ?_
      rintro e W2 ⟨rfl, A', hm, hl, hs⟩
      obtain ⟨k5, f5, k6, f6, hR⟩ := HE.out A' W2 hm hs.b hl hs
      have HRF : Aside _ := HR.out _ _ hR
      clear hR HE htr hl hs hm hcl
      go_wp2
      exact HRF.out
end Go.Proofs.Ytkjcapmhjhnckaa
