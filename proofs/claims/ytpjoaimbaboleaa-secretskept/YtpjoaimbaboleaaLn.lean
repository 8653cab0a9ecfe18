/- vault: mind.learn of one that is new. -/
import Derived.Test.YtpjoaimbaboleaaLn0
namespace Go.Proofs.Ytpjoaimbaboleaa
open Go.RowKit Go.Shelf Go.Lib
set_option linter.unusedVariables false

attribute [local go_sem] Oper.semAt_some

set_option maxRecDepth 100000 in
set_option maxHeartbeats 8000000 in
theorem learn_new (n₀ Mb V G c M La Be Kb Xb xc N n : Nat) (A B C : List Nat) (av : Nat) (K : List Bool) (X : List Nat) (L : List Tm) (t : Tm) (w : World) (h : Mi n₀ w Mb V La Be Kb Xb xc N A B K (X ++ [n])) (hv : Va n₀ w V G c M L) (hLN : L.length = N) (hk : K[n]? = some false) (ht : L[n]? = some t) (hSm : Small L)
    (hav : A[n]? = some av) (hCh : Chain B av C) (hCl : C.length ≤ 2 * N) (hmem : ∀ l, l ∈ C ↔ (l / 2 < L.length ∧ Tg L l n)) (hX : X.length + 200000 + 2 * N * 65537 ≤ 28000000000000) (hN : N ≤ 1000000) :
    Calls Try.prog 60 #[.pointer (some ⟨Mb, 0, none⟩)] w fun e w' => e = .returned (.tuple #[]) ∧ ∃ Xb' xc', Mi n₀ w' Mb V La Be Kb Xb' xc' N A B (K.set n true) (X ++ own (K.set n true) N t ++ C.flatMap (psh L (K.set n true) N)) ∧ Mc Mb Kb Xb w Xb' w' := by
  have hb0 := bel1 w (.cells #[.pointer (some ⟨Mb, 0, none⟩)] 110)
  have hBx := heap_alloc_new w (.cells #[.pointer (some ⟨Mb, 0, none⟩)] 110)
  have h0 := h.bel hb0
  have lM := h.lM
  have hnN : n < N := by rw [← h.lK]; exact (List.getElem?_eq_some_iff.1 hk).1
  have e1 : IntKind.i64.wrap (((X ++ [n]).length : Int) - 1) = (X.length : Int) := by rw [IntKind.wrap_i64]; simp; omega
  have HBX : Aside _ := hBx
  have HM0 : Aside (Mc Mb Kb Xb w Xb (w.alloc (.cells #[.pointer (some ⟨Mb, 0, none⟩)] 110))) := Mc.of_bel hb0
  have HI0 : Aside _ := h0
  have hlx : ((X ++ [n]).length : Int) = (X.length : Int) + 1 := by simp
  have hle1 : (X.length : Int) < ((X ++ [n]).length : Int) := by omega
  have hle2 : (X.length : Int) ≤ (xc : Int) := by obtain ⟨R, _, r2, _⟩ := h.hX; simp at r2; omega
  have hle0 : (0 : Int) ≤ (X.length : Int) := by omega
  obtain ⟨N1, hN1⟩ : ∃ N1, (X ++ [n]).length = N1 := ⟨_, rfl⟩
  rw [hN1] at e1 hle1
  obtain ⟨NX, hNX⟩ : ∃ NX, X.length = NX := ⟨_, rfl⟩
  have HNX : Aside _ := hNX
  have HN1 : Aside _ := hN1
  rw [hNX] at e1 hle1 hle2 hle0
  have i0 : (0 : Int) ≤ (n : Int) := by omega
  have i1 : (n : Int) < (N : Int) := by omega
  have mixed : Try.prog.follows Departure.mixedOrders = true := by kernel_rfl
  clear h0 hb0 hBx hlx hN1 hNX
  have HVA : Aside _ := hv.bel (bel1 w (.cells #[.pointer (some ⟨Mb, 0, none⟩)] 110))
  have HAV : Aside _ := hav
  have HCH : Aside _ := hCh
  have HCL : Aside _ := hCl
  have HMEM : Aside _ := hmem
  have HSM : Aside _ := hSm
  have HLN : Aside _ := hLN
  have hne : t.kd = 6 → t.of' < n := by
    intro h6
    have h0 : 0 < n := by
      rcases Nat.eq_zero_or_pos n with e | e
      · subst e
        obtain ⟨r, hr⟩ := hv.root
        rw [hr] at ht
        simp at ht
        subst ht
        simp at h6
      · exact e
    exact (hv.good n t ht h0).2.2.1 (by omega)
  have hownl := own_le hSm (K.set n true) N ht
  obtain ⟨X1, hX1⟩ : ∃ X1, X ++ own (K.set n true) N t = X1 := ⟨_, rfl⟩
  rw [hX1]
  have HX1 : Aside _ := hX1
  have HX1L : Aside (X1.length + 65536 + 2 * N * 65537 ≤ 28000000000000) := by show _ ≤ _; rw [← hX1, List.length_append]; omega
  have hsz6 : decide (t.kd = 6 ∧ (K.set n true)[t.of']? = some true) = true → t.by'.size ≤ 65536 := fun hd => hSm n t ht (by simp at hd; exact hd.1)
  clear hX1
  clear h hv hav hCh hCl hmem hSm hLN
  refine callsIn_wide.1 (callsIn_of_wp_marks (F := Fence.wide) (n := 0) Try.func60 rfl trivial ?_ rfl)
  refine wpIn_wide.2 ?_
  simp only [Try.ntmps60, List.size_toArray, List.length_cons, List.length_nil, Nat.reduceAdd, Nat.reduceSub, Array.replicate_succ, Array.replicate_zero, List.push_toArray, List.append_toArray, List.nil_append, List.cons_append]
  go_wp2_with fail
  generalize w.alloc (.cells #[.pointer (some ⟨Mb, 0, none⟩)] 110) = W1 at *
  go_cut [2] from 6 to 17 (fun s2 wx => s2 = .int .i64 (n : Int) ∧ Aside (Mi n₀ wx Mb V La Be Kb Xb xc N A B K (X ++ [n]) ∧ Mc Mb Kb Xb W1 Xb wx))
  case first =>
    have HSS : Aside (W1.drew.cell? ⟨w.heap.size, 0, none⟩ = some (.pointer (some ⟨Mb, 0, none⟩)) ∧ W1.drew.cell? ⟨Mb, 4, none⟩ = some (.slice (some ⟨Xb, 0, none⟩) N1 xc) ∧ W1.drew.cell? ⟨Xb, NX, none⟩ = some (.int .i64 (n : Int))) := ⟨cell1_of (show W1.drew.heap[w.heap.size]? = _ from HBX.out), by rw [← HN1.out]; exact HI0.out.c4, HI0.out.cx (by rw [← HNX.out]; simp)⟩
    go_region_held3 (fun w' => w'.cell? ⟨w.heap.size, 0, none⟩ = some (.pointer (some ⟨Mb, 0, none⟩)) ∧ w'.cell? ⟨Mb, 4, none⟩ = some (.slice (some ⟨Xb, 0, none⟩) N1 xc) ∧ w'.cell? ⟨Xb, NX, none⟩ = some (.int .i64 (n : Int))) (exact HSS.out) (fail)
    go_wp2_with fail
    go_meet
    exact ⟨rfl, HI0.out.bel (bel_drew W1), Mc.of_bel (bel_drew W1)⟩
  case rest =>
  obtain ⟨rfl, HWC⟩ := hcut
  obtain ⟨a1, a2⟩ := HWC.out
  have b1 := a2.other HI0.out HBX.out (by decide) (by decide) (by decide)
  have s1 := cell1_of b1
  have s2 := a1.c4
  rw [HN1.out] at s2
  have f4 := a1.fr4
  have HP : Aside (Mi n₀ (wc.setCell ⟨Mb, 4, none⟩ (.slice (some ⟨Xb, 0, none⟩) NX xc)) Mb V La Be Kb Xb xc N A B K X ∧ Mc Mb Kb Xb W1 Xb (wc.setCell ⟨Mb, 4, none⟩ (.slice (some ⟨Xb, 0, none⟩) NX xc))) := by
    obtain ⟨p1, p2⟩ := a1.pop
    rw [HNX.out] at p1 p2
    exact ⟨p1, a2.trans p2⟩
  clear HWC a1 a2 b1
  go_wp2_with fail
  go_cut [] from 18 to 31 (fun wx => Aside (Mi n₀ wx Mb V La Be Kb Xb xc N A B K X ∧ Mc Mb Kb Xb W1 Xb wx))
  case first =>
    go_region
    all_goals go_wp2_with fail
    all_goals go_meet
    all_goals exact ⟨HP.out.1.bel (bel_drew _), HP.out.2.trans (Mc.of_bel (bel_drew _))⟩
  case rest =>
  rename_i wc0
  clear s1 s2 f4 HP
  obtain ⟨a1, a2⟩ := hcut.out
  have b1 := a2.other HI0.out HBX.out (by decide) (by decide) (by decide)
  have s1 := cell1_of b1
  have s3 := a1.c3
  have sk := a1.kn hk
  have fk : wc.frozen? ⟨Kb, n, none⟩ = false := by simp [World.frozen?, a1.hK]
  obtain ⟨k1, k2⟩ := a1.know (n := n)
  have a2k := a2.trans k2
  have hv1 := HVA.out.mc HI0.out a2k
  have t0 : (wc.setCell ⟨Kb, n, none⟩ (.bool true)).cell? ⟨G, n * 5, none⟩ = some (.int .i64 (t.kd : Int)) := hv1.cT (j := 0) ht (by decide)
  have t1 : (wc.setCell ⟨Kb, n, none⟩ (.bool true)).cell? ⟨G, n * 5 + 1, none⟩ = some (.int .i64 (t.of' : Int)) := hv1.cT (j := 1) ht (by decide)
  have t2 : (wc.setCell ⟨Kb, n, none⟩ (.bool true)).cell? ⟨G, n * 5 + 2, none⟩ = some (.int .i64 t.wi) := hv1.cT (j := 2) ht (by decide)
  have t3 : (wc.setCell ⟨Kb, n, none⟩ (.bool true)).cell? ⟨G, n * 5 + 3, none⟩ = some (.string t.un) := hv1.cT (j := 3) ht (by decide)
  have t4 : (wc.setCell ⟨Kb, n, none⟩ (.bool true)).cell? ⟨G, n * 5 + 4, none⟩ = some (.string t.by') := hv1.cT (j := 4) ht (by decide)
  have v0 := hv1.cV0
  have m0 := k1.c0
  have b2 := a2k.other HI0.out HBX.out (by decide) (by decide) (by decide)
  have s1b := cell1_of b2
  have i4 : (n : Int) < (L.length : Int) := by have := HLN.out; omega
  have HK1 : Aside _ := k1
  have HA2K : Aside (Mc Mb Kb Xb W1 Xb (wc.setCell ⟨Kb, n, none⟩ (.bool true))) := a2k
  have HV1 : Aside _ := hv1
  obtain ⟨ko, hko⟩ : ∃ ko : Bool, ko = decide (t.kd = 6 ∧ (K.set n true)[t.of']? = some true) := ⟨_, rfl⟩
  have hX1b : X1 = X ++ (if ko = true then fN N (wins t.by'.data.toList) else []) := by
    rw [← HX1.out, hko]
    unfold own
    by_cases hq : t.kd = 6 ∧ (K.set n true)[t.of']? = some true
    · simp [hq]
    · rw [if_neg hq, if_neg (by simpa using hq)]
  have hsz7 : ko = true → t.by'.size ≤ 65536 := fun hq => hsz6 (by rw [← hko]; exact hq)
  clear k1 k2 a2k hv1 a1 a2 b1 hcut b2
  go_wp2_with fail
  have hbs := bel1 (wc.setCell ⟨Kb, n, none⟩ (.bool true)) (.cells #[.int .i64 (t.kd : Int), .int .i64 (t.of' : Int), .int .i64 t.wi, .string t.un, .string t.by'] 62)
  have hTs := heap_alloc_new (wc.setCell ⟨Kb, n, none⟩ (.bool true)) (.cells #[.int .i64 (t.kd : Int), .int .i64 (t.of' : Int), .int .i64 t.wi, .string t.un, .string t.by'] 62)
  rw [show (wc.setCell ⟨Kb, n, none⟩ (.bool true)).heap.size = wc.heap.size from World.size_setCell _ _ _] at hTs
  have HK2 : Aside _ := HK1.out.bel hbs
  have HA3K : Aside (Mc Mb Kb Xb W1 Xb _) := HA2K.out.trans (Mc.of_bel hbs)
  have HV2 : Aside _ := HV1.out.bel hbs
  have HTS : Aside _ := hTs
  clear hbs hTs HK1 HA2K HV1 t0 t1 t2 t3 t4 v0 m0 s1b s1 s3 sk fk
  generalize (wc.setCell ⟨Kb, n, none⟩ (.bool true)).alloc (.cells #[.int .i64 (t.kd : Int), .int .i64 (t.of' : Int), .int .i64 t.wi, .string t.un, .string t.by'] 62) = Ws at *
  generalize wc.heap.size = Tb at *
  have bS := HA3K.out.other HI0.out HBX.out (by decide) (by decide) (by decide)
  have HTC : Aside (∀ X : World, X.heap = Ws.heap → X.cell? ⟨w.heap.size, 0, none⟩ = some (.pointer (some ⟨Mb, 0, none⟩)) ∧ X.cell? ⟨Mb, 3, none⟩ = some (.slice (some ⟨Kb, 0, none⟩) N N) ∧ X.cell? ⟨Tb, 0, none⟩ = some (.int .i64 (t.kd : Int)) ∧ X.cell? ⟨Tb, 1, none⟩ = some (.int .i64 (t.of' : Int)) ∧ X.cell? ⟨Tb, 4, none⟩ = some (.string t.by')) := by
    intro Y hY
    have hc : ∀ a, Y.cell? a = Ws.cell? a := fun a => by unfold World.cell?; rw [hY]
    simp only [hc]
    refine ⟨cell1_of bS, HK2.out.c3, ?_, ?_, ?_⟩ <;> (unfold World.cell?; simp only [HTS.out]; rfl)
  clear HTS bS
  go_cut [67] from 55 to 66 (fun s67 wx => s67 = .bool ko ∧ Aside (wx.heap = Ws.heap ∧ wx.os = Ws.os ∧ wx.tape = Ws.tape ∧ wx.output = Ws.output))
  case first =>
    obtain ⟨x1, x2, x3, x4, x5⟩ := HTC.out Ws.drew rfl
    by_cases h6 : t.kd = 6
    · obtain ⟨kv, hkv⟩ : ∃ kv, (K.set n true)[t.of']? = some kv := ⟨(K.set n true)[t.of']'(by rw [HK2.out.lK]; have := hne h6; omega), List.getElem?_eq_getElem _⟩
      have hkk : ko = kv := by rw [hko, hkv]; simp [h6]
      have x6 := (HK2.out.bel (bel_drew Ws)).kn hkv
      have hol := hne h6
      rw [h6] at x3
      have HSS : Aside _ := And.intro x1 (And.intro x2 (And.intro x3 (And.intro x4 x6)))
      subst hkk
      have o0 : (0 : Int) ≤ (t.of' : Int) := by omega
      have o1 : (t.of' : Int) < (N : Int) := by omega
      clear x1 x2 x3 x4 x5 x6 hko hX1b hkv h6 hol hne
      go_region_held3 (fun w' => w'.cell? ⟨w.heap.size, 0, none⟩ = some (.pointer (some ⟨Mb, 0, none⟩)) ∧ w'.cell? ⟨Mb, 3, none⟩ = some (.slice (some ⟨Kb, 0, none⟩) N N) ∧ w'.cell? ⟨Tb, 0, none⟩ = some (.int .i64 ((6 : Nat) : Int)) ∧ w'.cell? ⟨Tb, 1, none⟩ = some (.int .i64 (t.of' : Int)) ∧ w'.cell? ⟨Kb, t.of', none⟩ = some (.bool ko)) (exact HSS.out) (fail)
      all_goals go_wp2_with fail
      all_goals go_meet
      all_goals exact ⟨rfl, rfl, rfl, rfl, rfl⟩
    · have hkk : ko = false := by rw [hko]; simp [h6]
      subst hkk
      have k6 : ¬ ((t.kd : Int) = 6) := by omega
      have k6' : ((t.kd : Int) == 6) = false := by simpa using k6
      clear x1 x2 x4 x5 hko hX1b hne h6
      generalize (t.kd : Int) = ki at *
      refine wp_region_noPanic ?_
      refine wp_region_held_drew (S := fun w' => w'.cell? ⟨Tb, 0, none⟩ = some (.int .i64 ki)) (by kernel_rfl) x3 (fun hHeld => ?_)
      refine wpAnyH_take (i := 0) (v := .pointer (some ⟨Tb, 0, none⟩)) rfl (by kernel_rfl) (by kernel_rfl) (by kernel_rfl) (fun _ _ _ h => h) (Or.inl ⟨by rfl, by intro w hs; go_simp⟩) hHeld ?_
      refine norm_any' (fun K hK => ?_)
      go_simp
      refine hK _ _ ?_
      clear hK K
      refine wpAnyH_take (i := 1) (v := .int .i64 ki) rfl (by kernel_rfl) (by kernel_rfl) (by kernel_rfl) (fun _ _ _ h => h) (Or.inl ⟨by rfl, by intro w hs; go_simp⟩) hHeld ?_
      refine norm_any' (fun K hK => ?_)
      go_simp
      refine hK _ _ ?_
      clear hK K
      refine wpAnyH_take (i := 2) (v := .bool false) rfl (by kernel_rfl) (by kernel_rfl) (by kernel_rfl) (fun _ _ _ h => h) (Or.inl ⟨by rfl, by intro w hs; go_simp⟩) hHeld ?_
      refine norm_any' (fun K hK => ?_)
      go_simp
      refine hK _ _ ?_
      clear hK K
      refine wpAnyH_take (i := 3) (v := .bool false) rfl (by kernel_rfl) (by kernel_rfl) (by kernel_rfl) (fun _ _ _ h => h) (Or.inl ⟨by rfl, by intro w hs; go_simp⟩) hHeld ?_
      refine norm_any' (fun K hK => ?_)
      go_simp
      refine hK _ _ ?_
      clear hK K
      refine wpAnyH_take (i := 4) (v := undef) rfl (by kernel_rfl) (by kernel_rfl) (by kernel_rfl) (fun _ _ _ h => h) (Or.inr ⟨by rfl, rfl⟩) hHeld ?_
      refine norm_any' (fun K hK => ?_)
      go_simp
      refine hK _ _ ?_
      clear hK K
      refine wpAnyH_take (i := 5) (v := undef) rfl (by kernel_rfl) (by kernel_rfl) (by kernel_rfl) (fun _ _ _ h => h) (Or.inr ⟨by rfl, rfl⟩) hHeld ?_
      refine norm_any' (fun K hK => ?_)
      go_simp
      refine hK _ _ ?_
      clear hK K
      refine wpAnyH_take (i := 6) (v := undef) rfl (by kernel_rfl) (by kernel_rfl) (by kernel_rfl) (fun _ _ _ h => h) (Or.inr ⟨by rfl, rfl⟩) hHeld ?_
      refine norm_any' (fun K hK => ?_)
      go_simp
      refine hK _ _ ?_
      clear hK K
      refine wpAnyH_take (i := 7) (v := undef) rfl (by kernel_rfl) (by kernel_rfl) (by kernel_rfl) (fun _ _ _ h => h) (Or.inr ⟨by rfl, rfl⟩) hHeld ?_
      refine norm_any' (fun K hK => ?_)
      go_simp
      refine hK _ _ ?_
      clear hK K
      refine wpAnyH_take (i := 8) (v := undef) rfl (by kernel_rfl) (by kernel_rfl) (by kernel_rfl) (fun _ _ _ h => h) (Or.inr ⟨by rfl, rfl⟩) hHeld ?_
      refine norm_any' (fun K hK => ?_)
      go_simp
      refine hK _ _ ?_
      clear hK K
      refine wpAnyH_take (i := 9) (v := undef) rfl (by kernel_rfl) (by kernel_rfl) (by kernel_rfl) (fun _ _ _ h => h) (Or.inr ⟨by rfl, rfl⟩) hHeld ?_
      refine norm_any' (fun K hK => ?_)
      go_simp
      refine hK _ _ ?_
      clear hK K
      refine wpAnyH_take (i := 10) (v := undef) rfl (by kernel_rfl) (by kernel_rfl) (by kernel_rfl) (fun _ _ _ h => h) (Or.inr ⟨by rfl, rfl⟩) hHeld ?_
      refine norm_any' (fun K hK => ?_)
      go_simp
      refine hK _ _ ?_
      clear hK K
      refine wpAnyH_take (i := 11) (v := undef) rfl (by kernel_rfl) (by kernel_rfl) (by kernel_rfl) (fun _ _ _ h => h) (Or.inr ⟨by rfl, rfl⟩) hHeld ?_
      refine norm_any' (fun K hK => ?_)
      go_simp
      refine hK _ _ ?_
      clear hK K
      refine wpAnyH_take (i := 12) (v := .bool false) rfl (by kernel_rfl) (by kernel_rfl) (by kernel_rfl) (fun _ _ _ h => h) (Or.inl ⟨by rfl, by intro w hs; go_simp⟩) hHeld ?_
      refine norm_any' (fun K hK => ?_)
      go_simp
      refine hK _ _ ?_
      clear hK K
      refine wpAnyH_done (by kernel_rfl) ?_ _
      refine NoPanic.normal ?_
      go_wp2_with fail
      go_meet
      exact ⟨rfl, rfl, rfl, rfl, rfl⟩
  case rest =>
  rename_i wcA wcB
  obtain ⟨rfl, HW5⟩ := hcut
  obtain ⟨e1', e2', e3', e4'⟩ := HW5.out
  obtain ⟨x1, x2, x3, x4, x5⟩ := HTC.out wc e1'
  have hbw : Below Ws.heap.size Ws wc := ⟨e2', e3', e4', by rw [e1']; exact Nat.le_refl _, fun k _ => by rw [e1']⟩
  have HK3 : Aside _ := HK2.out.bel hbw
  have HA4 : Aside (Mc Mb Kb Xb W1 Xb wc) := HA3K.out.trans (Mc.of_bel hbw)
  have HV3 : Aside _ := HV2.out.bel hbw
  clear HTC HK2 HA3K HV2 x2 x3 x4 hbw e1' e2' e3' e4' HW5 hko hne
  cases ko with
  | false =>
    simp only [Bool.false_eq_true, if_false, List.append_nil] at hX1b
    have HMM : Aside (Mi n₀ wc Mb V La Be Kb Xb xc N A B (K.set n true) X1) := by rw [hX1b]; exact HK3.out
    have HCM : Aside (Mc Mb Kb Xb W1 Xb wc) := HA4.out
    have HMW : Aside (Mc Mb Kb Xb w Xb wc) := HM0.out.trans HA4.out
    have HVC : Aside _ := HV3.out
    clear HK3 HA4 HV3 x1 x5 hX1b
    obtain ⟨X1b, hX1b'⟩ : ∃ X1b, Xb = X1b := ⟨_, rfl⟩
    obtain ⟨x1c, hx1c⟩ : ∃ x1c, xc = x1c := ⟨_, rfl⟩
    rw [hX1b', hx1c] at HMM
    rw [show Mc Mb Kb Xb W1 Xb wc = Mc Mb Kb Xb W1 X1b wc by rw [← hX1b']] at HCM
    rw [show Mc Mb Kb Xb w Xb wc = Mc Mb Kb Xb w X1b wc by rw [← hX1b']] at HMW
    clear hX1b' hx1c
    generalize hwcn : wc = Wc at *
    clear hwcn
    have hRb := HCM.out.other HI0.out HBX.out (by decide) (by decide) (by decide)
    have r1 := cell1_of hRb
    have r2 := HMM.out.c1
    have r3 := HMM.out.c2
    clear HI0
    go_wp2_with fail
    refine (all_c _ _ _ _ _).mono ?_
    rintro e w' ⟨rfl, hw⟩
    subst w'
    clear r1 r2 r3
    go_wp2
    have hbd : Below Wc.heap.size Wc ((Wc.alloc (.cells #[.slice (some ⟨La, 0, none⟩) N N, .slice (some ⟨Be, 0, none⟩) (2 * N) (2 * N)] 103)).alloc (.cells #[.int .i64 (n : Int)] 3)) := (bel1 Wc _).alloc (by simp) _
    have zd : ((Wc.alloc (.cells #[.slice (some ⟨La, 0, none⟩) N N, .slice (some ⟨Be, 0, none⟩) (2 * N) (2 * N)] 103)).alloc (.cells #[.int .i64 (n : Int)] 3)).heap.size = Wc.heap.size + 2 := by simp
    have hH2 : ((Wc.alloc (.cells #[.slice (some ⟨La, 0, none⟩) N N, .slice (some ⟨Be, 0, none⟩) (2 * N) (2 * N)] 103)).alloc (.cells #[.int .i64 (n : Int)] 3)).heap[Wc.heap.size]? = some (.cells #[.slice (some ⟨La, 0, none⟩) N N, .slice (some ⟨Be, 0, none⟩) (2 * N) (2 * N)] 103 (0, 0)) := by
      rw [Below.heap_alloc _ _ _ (by simp)]; exact heap_alloc_new Wc _
    have hO : ((Wc.alloc (.cells #[.slice (some ⟨La, 0, none⟩) N N, .slice (some ⟨Be, 0, none⟩) (2 * N) (2 * N)] 103)).alloc (.cells #[.int .i64 (n : Int)] 3)).heap[Wc.heap.size + 1]? = some (.cells #[.int .i64 (n : Int)] 3 (0, 0)) := by
      have := heap_alloc_new (Wc.alloc (.cells #[.slice (some ⟨La, 0, none⟩) N N, .slice (some ⟨Be, 0, none⟩) (2 * N) (2 * N)] 103)) (.cells #[.int .i64 (n : Int)] 3)
      rwa [World.size_alloc] at this
    generalize (Wc.alloc (.cells #[.slice (some ⟨La, 0, none⟩) N N, .slice (some ⟨Be, 0, none⟩) (2 * N) (2 * N)] 103)).alloc (.cells #[.int .i64 (n : Int)] 3) = W0 at *
    have hM0 := HMM.out.bel hbd
    have hV0 := HVC.out.bel hbd
    have hbx0 := heap_bel hRb hbd
    have lMc := HMM.out.lM
    have lKc := HMM.out.lK'
    have lXc := HMM.out.lX'
    obtain ⟨I, hI⟩ : ∃ I : Nat → World → Prop, ∀ k Wx, I k Wx ↔ (∃ Xb' xc', Mi n₀ Wx Mb V La Be Kb Xb' xc' N A B (K.set n true) (X1 ++ (C.take k).flatMap (psh L (K.set n true) N)) ∧ Mc Mb Kb X1b W0 Xb' Wx ∧ Wx.heap[W0.heap.size]? = some (.deferred (some []))) := ⟨_, fun _ _ => Iff.rfl⟩
    obtain ⟨Ix, hIx⟩ : ∃ Ix : Code → Nat → World → Prop, ∀ cd k Wx, Ix cd k Wx ↔ False := ⟨_, fun _ _ _ => Iff.rfl⟩
    have hIp : ∀ k Wx r r', I k Wx → Wx.heap[W0.heap.size + 1]? = some (.loop r) → I k (Wx.putObj (W0.heap.size + 1) (.loop r')) := by
      intro k Wx r r' hi hl
      obtain ⟨Xb', xc', a1, ⟨a2, a2'⟩, a3⟩ := (hI _ _).1 hi
      exact (hI _ _).2 ⟨Xb', xc', a1.put hl rfl, ⟨⟨a2.1, a2.2.1, a2.2.2.1, by have := a2.2.2.2.1; simpa [World.putObj] using this, fun j hj hx => (World.putObj_heap_other (by omega)).trans (a2.2.2.2.2 j hj hx)⟩, a2'⟩, (World.putObj_heap_other (by omega)).trans a3⟩
    have hIxp : ∀ cd k Wx r r', Ix cd k Wx → Wx.heap[W0.heap.size + 1]? = some (.loop r) → Ix cd k (Wx.putObj (W0.heap.size + 1) (.loop r')) := fun cd k Wx r r' hi _ => ((hIx _ _ _).1 hi).elim
    refine (wpIn_wide (n := 0)).1 ?_
    refine range_out (gf := 70) (lb := #[.pointer (some ⟨Wc.heap.size, 0, none⟩), .pointer (some ⟨Wc.heap.size + 1, 0, none⟩)]) rfl (enters_of Try.func70 (by kernel_rfl) rfl) (I := I) (Ix := Ix) (N := C.length) hIp hIxp ?h0 ?hseq ?hdone ?hstop
    case h0 =>
      intro o'
      have hbb : Below W0.heap.size W0 ((W0.alloc (.deferred (some []))).alloc o') := (bel1 W0 _).alloc (by simp) _
      refine (hI _ _).2 ⟨X1b, x1c, ?_, Mc.of_bel hbb, ?_⟩
      · have := hM0.bel hbb
        simpa using this
      · rw [Below.heap_alloc _ _ _ (by simp)]; exact heap_alloc_new W0 _
    case hstop => exact fun cd k Wx _ hi => ((hIx _ _ _).1 hi).elim
    case hdone =>
      intro Wx hi
      obtain ⟨Xb', xc', a1, a2, hK⟩ := (hI _ _).1 hi
      rw [List.take_length] at a1
      refine ⟨by simp, .inl ⟨_, _, rfl, run_takeDeferred hK, ?_⟩⟩
      refine ⟨_, results_none rfl _ _ _, rfl, Xb', xc', a1.put hK rfl, ?_⟩
      have m0 : Mc Mb Kb X1b Wc X1b W0 := Mc.of_bel hbd
      have hsw : w.heap.size ≤ W0.heap.size := by have := HMW.out.1.2.2.2.1; omega
      obtain ⟨⟨q1, q2, q3, q4, q5⟩, q6⟩ := HMW.out.trans (m0.trans a2)
      exact ⟨⟨q1, q2, q3, by simpa [World.putObj] using q4, fun j hj hx => (World.putObj_heap_other (by omega)).trans (q5 j hj hx)⟩, q6⟩
    case hseq =>
      intro fn W1' hW1 hb1
      refine all_it Wc.heap.size (Wc.heap.size + 1) (W0.heap.size + 1) La Be N n A B C av _ (Lft (W0.heap.size + 1) (rcd fn _ _ _ _ W0.heap.size) Ix) W1' hN hM0.lA hM0.lB HAV.out HCH.out (fun k Wx hx => ?_) (fun k l Wx hk hx => ?_) hb1
      · obtain ⟨hi, hl⟩ := hx
        obtain ⟨Xb', xc', a1, a2, a3⟩ := (hI _ _).1 hi
        have q1 := a2.other hM0 hH2 (by decide) (by decide) (by decide)
        have q2 := (a2.1.2.2.2.2 (Wc.heap.size + 1) (by omega) (by omega)).trans hO
        exact ⟨by simp [World.cell?, q1], by simp [World.cell?, q1], cell1_of q2, a1.hA, a1.hB⟩
      · have key := round_raw (P := Try.prog) (encs := fun k => #[.int .i64 (((C[k]?.getD 0) / 2 : Nat) : Int)]) (fun _ => rfl) (Kp := fun _ _ => True) (fun _ _ => trivial) (fun _ _ _ _ => trivial) hIp hIxp (k := k) (W := Wx) hx ?_
        · rw [hk] at key
          obtain ⟨f1, f2, f3, f4, f5, f6⟩ := key
          refine ⟨f1, f2, f3, f4, f5, f6.mono ?_⟩
          rintro e W' (⟨rfl, y1, y2⟩ | ⟨rfl, y1, y2⟩)
          · exact .inl ⟨rfl, y1⟩
          · exact .inr ⟨rfl, y1⟩
        · intro Kc hKc
          rw [hk]
          simp only [Option.getD_some]
          obtain ⟨m, hmm⟩ : ∃ m, l / 2 = m := ⟨_, rfl⟩
          rw [hmm]
          have HMM2 : Aside _ := hmm
          clear hmm
          have HK : Aside _ := hKc
          have HX : Aside _ := hx
          clear hKc hx
          gi_wp2
          refine HK.out _ _ rfl trivial (fun r' => ?_)
          clear HK
          obtain ⟨hi, hl⟩ := HX.out
          have hi' := hIp _ _ _ r' hi hl
          have hl' : (Wx.putObj (W0.heap.size + 1) (.loop r')).heap[W0.heap.size + 1]? = some (.loop r') := World.putObj_heap_same (Array.getElem?_eq_some_iff.1 hl).1
          generalize Wx.putObj (W0.heap.size + 1) (.loop r') = Wr at *
          obtain ⟨Xb', xc', a1, a2, a3⟩ := (hI _ _).1 hi'
          have bx := a2.other hM0 hbx0 (by decide) (by decide) (by decide)
          have cB : Wr.cell? ⟨w.heap.size, 0, none⟩ = some (.pointer (some ⟨Mb, 0, none⟩)) := cell1_of bx
          have HLR : Aside _ := hl'
          have hv := hV0.mc hM0 a2
          have htk := flat_take L (K.set n true) N C hk
          have hklen := (List.getElem?_eq_some_iff.1 hk).1
          have htl : (X1 ++ (C.take k).flatMap (psh L (K.set n true) N)).length + 65536 ≤ 28000000000000 := by
            rw [List.length_append]
            have h1 := flat_le HSM.out (K.set n true) N (C.take k)
            have h2 : (C.take k).length ≤ C.length := List.length_take_le' _ _
            have h3 := HCL.out
            have h4 := HX1L.out
            have h5 : (C.take k).length * 65537 ≤ 2 * N * 65537 := Nat.mul_le_mul_right _ (by omega)
            omega
          obtain ⟨Y, hY⟩ : ∃ Y, X1 ++ (C.take k).flatMap (psh L (K.set n true) N) = Y := ⟨_, rfl⟩
          rw [hY] at a1 htl
          have hfin : X1 ++ (C.take (k + 1)).flatMap (psh L (K.set n true) N) = Y ++ psh L (K.set n true) N l := by rw [htk, ← hY, List.append_assoc]
          obtain ⟨hS, hT⟩ := (HMEM.out l).1 (List.mem_of_getElem? hk)
          obtain ⟨t, ht, h2k, _⟩ := hT
          have hml := (List.getElem?_eq_some_iff.1 ht).1
          have hpsh : psh L (K.set n true) N l = if t.kd = 6 then (if (K.set n true)[l / 2]? = some true then fN N (wins t.by'.data.toList) else []) else [l / 2] := by unfold psh; rw [ht]
          rw [hpsh] at hfin
          clear hi hl HX hi' hb1 hW1 htk hY hk hS hpsh hklen
          rw [HMM2.out] at ht hml hfin
          clear HMM2
          have t0 : Wr.cell? ⟨G, m * 5, none⟩ = some (.int .i64 (t.kd : Int)) := hv.cT (j := 0) ht (by decide)
          have t1 : Wr.cell? ⟨G, m * 5 + 1, none⟩ = some (.int .i64 (t.of' : Int)) := hv.cT (j := 1) ht (by decide)
          have t2 : Wr.cell? ⟨G, m * 5 + 2, none⟩ = some (.int .i64 t.wi) := hv.cT (j := 2) ht (by decide)
          have t3 : Wr.cell? ⟨G, m * 5 + 3, none⟩ = some (.string t.un) := hv.cT (j := 3) ht (by decide)
          have t4 : Wr.cell? ⟨G, m * 5 + 4, none⟩ = some (.string t.by') := hv.cT (j := 4) ht (by decide)
          have v0 := hv.cV0
          have m0 := a1.c0
          have i5 : (m : Int) < (L.length : Int) := by omega
          have i6 : (0 : Int) ≤ (m : Int) := by omega
          have hsmall := HSM.out m t ht
          have hba := bel1 Wr (.cells #[.int .i64 (t.kd : Int), .int .i64 (t.of' : Int), .int .i64 t.wi, .string t.un, .string t.by'] 62)
          have hT5 := heap_alloc_new Wr (.cells #[.int .i64 (t.kd : Int), .int .i64 (t.of' : Int), .int .i64 t.wi, .string t.un, .string t.by'] 62)
          have a1b := a1.bel hba
          have a2b : Mc Mb Kb X1b W0 Xb' _ := a2.trans (Mc.of_bel hba)
          have a3b := heap_bel a3 hba
          have hlb := heap_bel hl' hba
          have bxb := heap_bel bx hba
          have cBb := cell1_of bxb
          have HA1 : Aside _ := a1b
          have HA2 : Aside _ := a2b
          have HA3 : Aside _ := a3b
          have HLB : Aside _ := hlb
          have HBB : Aside _ := bxb
          have HT5 : Aside _ := hT5
          have HFI : Aside _ := hfin
          have hsz : Wr.heap.size ≤ (Wr.alloc (.cells #[.int .i64 (t.kd : Int), .int .i64 (t.of' : Int), .int .i64 t.wi, .string t.un, .string t.by'] 62)).heap.size := hba.size
          clear a1 a2 a3 hl' bx hv ht a1b a2b a3b hlb bxb hT5 hfin
          generalize hLl : L.length = LL at *
          clear hLl
          refine wpIn_block ?_
          by_cases h6 : t.kd = 6
          · have hfin := HFI.out
            rw [if_pos h6] at hfin
            obtain ⟨kb, hkb⟩ : ∃ kb, (K.set n true)[m]? = some kb := ⟨(K.set n true)[m]'(by rw [HA1.out.lK]; have := HLN.out; omega), List.getElem?_eq_getElem _⟩
            rw [hkb] at hfin
            have hsz2 := hsmall h6
            have hsl : t.by'.data.toList.length = t.by'.size := by simp
            have hki : (t.kd : Int) = 6 := by omega
            rw [hki] at t0 HA1 HA2 HA3 HLB HBB HT5 cBb hsz
            clear hki
            generalize (t.of' : Int) = oi at *
            have w0 : (Wr.alloc (.cells #[.int .i64 6, .int .i64 oi, .int .i64 t.wi, .string t.un, .string t.by'] 62)).cell? ⟨Wr.heap.size, 0, none⟩ = some (.int .i64 6) := by have := HT5.out; unfold World.cell?; simp only [this]; rfl
            have w4 : (Wr.alloc (.cells #[.int .i64 6, .int .i64 oi, .int .i64 t.wi, .string t.un, .string t.by'] 62)).cell? ⟨Wr.heap.size, 4, none⟩ = some (.string t.by') := by have := HT5.out; unfold World.cell?; simp only [this]; rfl
            have ckn := HA1.out.kn hkb
            have c3b := HA1.out.c3
            have j5 : (m : Int) < (N : Int) := by have := HLN.out; omega
            obtain ⟨cp, Wv, hcv, hbv, hby⟩ := conv_string n₀ t.by' (by omega) (Wr.alloc (.cells #[.int .i64 6, .int .i64 oi, .int .i64 t.wi, .string t.un, .string t.by'] 62))
            have HRM : Aside _ := read_mi n₀ Mb V La Be Kb Xb' xc' N cp _ t.by'.data.toList A B (K.set n true) Y Wv (HA1.out.bel hbv) hby (by have := fw_le N t.by' hsz2; omega) hN
            have HIA : Aside _ := HA1.out.bel hbv
            have HLV : Aside _ := heap_bel HLB.out hbv
            have HDV : Aside _ := heap_bel HA3.out hbv
            have HCV : Aside (Mc Mb Kb X1b W0 Xb' Wv) := Mc.trans HA2.out (Mc.of_bel hbv)
            rw [hsl] at HRM
            rw [show (Wr.alloc (.cells #[.int .i64 6, .int .i64 oi, .int .i64 t.wi, .string t.un, .string t.by'] 62)).heap.size = Wr.heap.size + 1 from World.size_alloc _ _] at HRM hcv
            clear HFI hby hbv HT5 hsmall hsz h2k h6
            cases kb with
            | false =>
              simp only [Option.some.injEq, Bool.false_eq_true, if_false, List.append_nil] at hfin
              have RES : Aside ((Wr.alloc (.cells #[.int .i64 6, .int .i64 oi, .int .i64 t.wi, .string t.un, .string t.by'] 62)).heap[W0.heap.size + 1]? = some (.loop r') ∧ I (k + 1) (Wr.alloc (.cells #[.int .i64 6, .int .i64 oi, .int .i64 t.wi, .string t.un, .string t.by'] 62))) := ⟨HLB.out, (hI _ _).2 ⟨Xb', xc', by rw [hfin]; exact HA1.out, HA2.out, HA3.out⟩⟩
              clear hfin HRM HIA HLV HDV HCV HA1 HA2 HA3 hcv
              gi_wp2
              exact ⟨RES.out.1.trans HLR.out.symm, trivial, RES.out.2⟩
            | true =>
              simp only [if_true] at hfin
              clear HA1 HA2 HA3
              gi_wp2_with fail
              refine ⟨trivial, rfl, CallsIn.inRound _ (callsIn_wide.2 (Calls.mono HRM.out ?_))⟩
              rintro e W4 ⟨rfl, Xb2, xc2, p4, p5⟩
              have RES : Aside (W4.heap[W0.heap.size + 1]? = some (.loop r') ∧ I (k + 1) W4) := ⟨p5.rec' HIA.out HLV.out rfl, (hI _ _).2 ⟨Xb2, xc2, by rw [hfin]; exact p4, Mc.trans HCV.out p5, p5.rec' HIA.out HDV.out rfl⟩⟩
              clear p4 p5 HRM hfin
              gi_wp2
              exact ⟨RES.out.1.trans HLR.out.symm, trivial, RES.out.2⟩
          · have k6 : ¬ ((t.kd : Int) = 6) := by omega
            have k6' : ((t.kd : Int) == 6) = false := by simpa using k6
            have hfin := HFI.out
            rw [if_neg h6] at hfin
            generalize (t.kd : Int) = ki at *
            generalize (t.of' : Int) = oi at *
            clear hsmall h6 h2k HFI
            gi_wp2
            generalize Wr.alloc (.cells #[.int .i64 ki, .int .i64 oi, .int .i64 t.wi, .string t.un, .string t.by'] 62) = Ws at *
            have a1d : Mi n₀ Ws.drew Mb V La Be Kb Xb' xc' N A B (K.set n true) Y := HA1.out.bel (bel_drew Ws)
            obtain ⟨Xb2, xc2, W3, hrun, p1, p2, p3, p4, p5⟩ := a1d.push m (by omega)
            have c4 := a1d.c4
            have c4r := HA1.out.c4
            have c4a : (Ws.alloc (.cells #[.int .i64 (m : Int)] 3)).cell? ⟨Mb, 4, none⟩ = some (.slice (some ⟨Xb', 0, none⟩) Y.length xc') := cell_bel HA1.out.c4 (bel1 _ _)
            have HRUN : Aside _ := hrun
            have hxs : w.heap.size ≠ Xb' := by
              rintro e
              obtain ⟨R, r1, _⟩ := HA1.out.hX
              rw [← e, HBB.out] at r1
              have := cells_ty r1 rfl
              omega
            have lbx : w.heap.size < Ws.heap.size := (Array.getElem?_eq_some_iff.1 HBB.out).1
            have HSA : Aside ((Ws.drew.alloc (.cells #[.int .i64 (m : Int)] 3)).cell? ⟨w.heap.size, 0, none⟩ = some (.pointer (some ⟨Mb, 0, none⟩))) := cell_bel (show Ws.drew.cell? ⟨w.heap.size, 0, none⟩ = _ from cBb) (bel1 _ _)
            have b3 : W3.heap[w.heap.size]? = some (.cells #[.pointer (some ⟨Mb, 0, none⟩)] 110 (0, 0)) := (p3 _ lbx hxs).trans HBB.out
            have HS3 : Aside (W3.cell? ⟨w.heap.size, 0, none⟩ = some (.pointer (some ⟨Mb, 0, none⟩))) := cell1_of b3
            have HS4 : Aside ((W3.setCell ⟨Mb, 4, none⟩ (.slice (some ⟨Xb2, 0, none⟩) (Y.length + 1) xc2)).cell? ⟨w.heap.size, 0, none⟩ = some (.pointer (some ⟨Mb, 0, none⟩))) := by
              show _ = _
              rw [World.cell?_setCell_other _ _ _ _ (by simp)]
              exact HS3.out
            have RES : Aside ((W3.setCell ⟨Mb, 4, none⟩ (.slice (some ⟨Xb2, 0, none⟩) (Y.length + 1) xc2)).heap[W0.heap.size + 1]? = some (.loop r') ∧ I (k + 1) (W3.setCell ⟨Mb, 4, none⟩ (.slice (some ⟨Xb2, 0, none⟩) (Y.length + 1) xc2))) := by
              have m1 : Mc Mb Kb X1b W0 Xb2 (W3.setCell ⟨Mb, 4, none⟩ (.slice (some ⟨Xb2, 0, none⟩) (Y.length + 1) xc2)) := Mc.trans HA2.out ((Mc.of_bel (bel_drew Ws)).trans p5)
              refine ⟨p5.rec' a1d (show Ws.drew.heap[W0.heap.size + 1]? = _ from HLB.out) rfl, (hI _ _).2 ⟨Xb2, xc2, ?_, m1, p5.rec' a1d (show Ws.drew.heap[W0.heap.size]? = _ from HA3.out) rfl⟩⟩
              rw [hfin]
              exact p4
            clear hrun p3 p4 p5 a1d b3 hfin
            generalize (m : Int) = ni at *
            generalize Y.length = yn at *
            refine region_round (fun w' => w'.cell? ⟨w.heap.size, 0, none⟩ = some (.pointer (some ⟨Mb, 0, none⟩))) (by kernel_rfl) ?hd ?hQ ?hS (fun hHeld => ?_)
            case hd => exact noDefer (by kernel_rfl)
            case hQ => rintro ⟨a, w, hF⟩; exact hF
            case hS => exact cBb
            refine wpAnyH_take (i := 0) (v := .pointer (some ⟨Mb, 0, none⟩)) rfl (by kernel_rfl) (by kernel_rfl) (by kernel_rfl) (fun _ _ _ h => h) (Or.inl ⟨by rfl, by intro w hs; go_simp⟩) hHeld ?_
            refine norm_any' (fun K hK => ?_)
            go_simp
            refine hK _ _ ?_
            clear hK K
            refine wpAnyH_take (i := 1) (v := .pointer (some ⟨Mb, 0, none⟩)) rfl (by kernel_rfl) (by kernel_rfl) (by kernel_rfl) (fun _ _ _ h => h) (Or.inl ⟨by rfl, by intro w hs; go_simp⟩) hHeld ?_
            refine norm_any' (fun K hK => ?_)
            go_simp
            refine hK _ _ ?_
            clear hK K
            refine wpAnyH_take (i := 2) (v := .pointer (some ⟨Mb, 0, none⟩)) rfl (by kernel_rfl) (by kernel_rfl) (by kernel_rfl) (fun _ _ _ h => h) (Or.inl ⟨by rfl, by intro w hs; go_simp⟩) hHeld ?_
            refine norm_any' (fun K hK => ?_)
            go_simp
            refine hK _ _ ?_
            clear hK K
            refine wpAnyH_take (i := 3) (v := .pointer (some ⟨Mb, 4, none⟩)) rfl (by kernel_rfl) (by kernel_rfl) (by kernel_rfl) (fun _ _ _ h => h) (Or.inl ⟨by rfl, by intro w hs; go_simp⟩) hHeld ?_
            refine norm_any' (fun K hK => ?_)
            go_simp
            refine hK _ _ ?_
            clear hK K
            refine wpAnyH_take (i := 5) (v := .int .i64 ni) rfl (by kernel_rfl) (by kernel_rfl) (by kernel_rfl) (fun _ _ _ h => h) (Or.inl ⟨by rfl, by intro w hs; go_simp⟩) hHeld ?_
            refine norm_any' (fun K hK => ?_)
            go_simp
            refine hK _ _ ?_
            clear hK K
            refine wpAnyH_ready (rs := [4, 6]) (by kernel_rfl) (by simp) (AllReadyH.cons rfl (fun K hK => ?_) (AllReadyH.cons rfl (fun K hK => ?_) AllReadyH.nil))
            · go_simp
              refine hK.out _ _ (hHeld) (fun hHeld => ?_)
              clear hK K
              refine norm_any' (fun K hK => ?_)
              go_simp
              refine hK _ _ ?_
              clear hK K
              refine wpAnyH_ready (rs := [6]) (by kernel_rfl) (by simp) (AllReadyH.cons rfl (fun K hK => ?_) AllReadyH.nil)
              go_simp
              refine hK.out _ _ (HSA.out) (fun hHeld => ?_)
              clear hK K
              refine norm_any' (fun K hK => ?_)
              go_simp
              refine hK _ _ ?_
              clear hK K
              refine wpAnyH_ready (rs := [7]) (by kernel_rfl) (by simp) (AllReadyH.cons rfl (fun K hK => ?_) AllReadyH.nil)
              refine step_append_run rfl _ _ 101 101 rfl _ _ (by rfl) (by rfl) HRUN.out ?_
              refine hK.out _ _ (HS3.out) (fun hHeld => ?_)
              clear hK K
              refine norm_any' (fun K hK => ?_)
              go_simp
              refine hK _ _ ?_
              clear hK K
              refine wpAnyH_take (i := 8) (v := .pointer (some ⟨Mb, 0, none⟩)) rfl (by kernel_rfl) (by kernel_rfl) (by kernel_rfl) (fun _ _ _ h => h) (Or.inl ⟨by rfl, by intro w hs; go_simp⟩) hHeld ?_
              refine norm_any' (fun K hK => ?_)
              go_simp
              refine hK _ _ ?_
              clear hK K
              refine wpAnyH_take (i := 9) (v := .pointer (some ⟨Mb, 4, none⟩)) rfl (by kernel_rfl) (by kernel_rfl) (by kernel_rfl) (fun _ _ _ h => h) (Or.inl ⟨by rfl, by intro w hs; go_simp⟩) hHeld ?_
              refine norm_any' (fun K hK => ?_)
              go_simp
              refine hK _ _ ?_
              clear hK K
              refine wpAnyH_ready (rs := [10]) (by kernel_rfl) (by simp) (AllReadyH.cons rfl (fun K hK => ?_) AllReadyH.nil)
              go_simp
              refine hK.out _ _ (HS4.out) (fun hHeld => ?_)
              clear hK K
              refine wpAnyH_done (by kernel_rfl) ?_ _
              exact ⟨RES.out.1.trans HLR.out.symm, trivial, RES.out.2⟩
            · go_simp
              refine hK.out _ _ (HSA.out) (fun hHeld => ?_)
              clear hK K
              refine norm_any' (fun K hK => ?_)
              go_simp
              refine hK _ _ ?_
              clear hK K
              refine wpAnyH_ready (rs := [4]) (by kernel_rfl) (by simp) (AllReadyH.cons rfl (fun K hK => ?_) AllReadyH.nil)
              go_simp
              refine hK.out _ _ (HSA.out) (fun hHeld => ?_)
              clear hK K
              refine norm_any' (fun K hK => ?_)
              go_simp
              refine hK _ _ ?_
              clear hK K
              refine wpAnyH_ready (rs := [7]) (by kernel_rfl) (by simp) (AllReadyH.cons rfl (fun K hK => ?_) AllReadyH.nil)
              refine step_append_run rfl _ _ 101 101 rfl _ _ (by rfl) (by rfl) HRUN.out ?_
              refine hK.out _ _ (HS3.out) (fun hHeld => ?_)
              clear hK K
              refine norm_any' (fun K hK => ?_)
              go_simp
              refine hK _ _ ?_
              clear hK K
              refine wpAnyH_take (i := 8) (v := .pointer (some ⟨Mb, 0, none⟩)) rfl (by kernel_rfl) (by kernel_rfl) (by kernel_rfl) (fun _ _ _ h => h) (Or.inl ⟨by rfl, by intro w hs; go_simp⟩) hHeld ?_
              refine norm_any' (fun K hK => ?_)
              go_simp
              refine hK _ _ ?_
              clear hK K
              refine wpAnyH_take (i := 9) (v := .pointer (some ⟨Mb, 4, none⟩)) rfl (by kernel_rfl) (by kernel_rfl) (by kernel_rfl) (fun _ _ _ h => h) (Or.inl ⟨by rfl, by intro w hs; go_simp⟩) hHeld ?_
              refine norm_any' (fun K hK => ?_)
              go_simp
              refine hK _ _ ?_
              clear hK K
              refine wpAnyH_ready (rs := [10]) (by kernel_rfl) (by simp) (AllReadyH.cons rfl (fun K hK => ?_) AllReadyH.nil)
              go_simp
              refine hK.out _ _ (HS4.out) (fun hHeld => ?_)
              clear hK K
              refine wpAnyH_done (by kernel_rfl) ?_ _
              exact ⟨RES.out.1.trans HLR.out.symm, trivial, RES.out.2⟩
  | true =>
    simp only [if_true] at hX1b
    have hsl : t.by'.data.toList.length = t.by'.size := by simp
    have hsz2 : t.by'.size ≤ 65536 := hsz7 rfl
    obtain ⟨cp, Wv, hcv, hbv, hby⟩ := conv_string n₀ t.by' (by omega) wc
    have HRM : Aside _ := read_mi n₀ Mb V La Be Kb Xb xc N cp _ t.by'.data.toList A B (K.set n true) X Wv (HK3.out.bel hbv) hby (by have := fw_le N t.by' hsz2; omega) hN
    have HIA : Aside _ := HK3.out.bel hbv
    have HVV : Aside _ := HV3.out.bel hbv
    have HAV2 : Aside (Mc Mb Kb Xb W1 Xb Wv) := HA4.out.trans (Mc.of_bel hbv)
    rw [hsl] at HRM
    clear hby hbv HK3 HA4 HV3
    go_wp2_with fail
    refine Calls.mono HRM.out ?_
    rintro e Wc ⟨rfl, X1b, x1c, p4, p5⟩
    rw [← hX1b] at p4
    have HMM : Aside _ := p4
    have HCM : Aside (Mc Mb Kb Xb W1 X1b Wc) := HAV2.out.trans p5
    have HMW : Aside (Mc Mb Kb Xb w X1b Wc) := HM0.out.trans HCM.out
    have HVC : Aside _ := HVV.out.mc HIA.out p5
    clear HRM p4 p5 HIA HVV HAV2 x1 x5 hcv hX1b
    have hRb := HCM.out.other HI0.out HBX.out (by decide) (by decide) (by decide)
    have r1 := cell1_of hRb
    have r2 := HMM.out.c1
    have r3 := HMM.out.c2
    clear HI0
    go_wp2_with fail
    refine (all_c _ _ _ _ _).mono ?_
    rintro e w' ⟨rfl, hw⟩
    subst w'
    clear r1 r2 r3
    go_wp2
    have hbd : Below Wc.heap.size Wc ((Wc.alloc (.cells #[.slice (some ⟨La, 0, none⟩) N N, .slice (some ⟨Be, 0, none⟩) (2 * N) (2 * N)] 103)).alloc (.cells #[.int .i64 (n : Int)] 3)) := (bel1 Wc _).alloc (by simp) _
    have zd : ((Wc.alloc (.cells #[.slice (some ⟨La, 0, none⟩) N N, .slice (some ⟨Be, 0, none⟩) (2 * N) (2 * N)] 103)).alloc (.cells #[.int .i64 (n : Int)] 3)).heap.size = Wc.heap.size + 2 := by simp
    have hH2 : ((Wc.alloc (.cells #[.slice (some ⟨La, 0, none⟩) N N, .slice (some ⟨Be, 0, none⟩) (2 * N) (2 * N)] 103)).alloc (.cells #[.int .i64 (n : Int)] 3)).heap[Wc.heap.size]? = some (.cells #[.slice (some ⟨La, 0, none⟩) N N, .slice (some ⟨Be, 0, none⟩) (2 * N) (2 * N)] 103 (0, 0)) := by
      rw [Below.heap_alloc _ _ _ (by simp)]; exact heap_alloc_new Wc _
    have hO : ((Wc.alloc (.cells #[.slice (some ⟨La, 0, none⟩) N N, .slice (some ⟨Be, 0, none⟩) (2 * N) (2 * N)] 103)).alloc (.cells #[.int .i64 (n : Int)] 3)).heap[Wc.heap.size + 1]? = some (.cells #[.int .i64 (n : Int)] 3 (0, 0)) := by
      have := heap_alloc_new (Wc.alloc (.cells #[.slice (some ⟨La, 0, none⟩) N N, .slice (some ⟨Be, 0, none⟩) (2 * N) (2 * N)] 103)) (.cells #[.int .i64 (n : Int)] 3)
      rwa [World.size_alloc] at this
    generalize (Wc.alloc (.cells #[.slice (some ⟨La, 0, none⟩) N N, .slice (some ⟨Be, 0, none⟩) (2 * N) (2 * N)] 103)).alloc (.cells #[.int .i64 (n : Int)] 3) = W0 at *
    have hM0 := HMM.out.bel hbd
    have hV0 := HVC.out.bel hbd
    have hbx0 := heap_bel hRb hbd
    have lMc := HMM.out.lM
    have lKc := HMM.out.lK'
    have lXc := HMM.out.lX'
    obtain ⟨I, hI⟩ : ∃ I : Nat → World → Prop, ∀ k Wx, I k Wx ↔ (∃ Xb' xc', Mi n₀ Wx Mb V La Be Kb Xb' xc' N A B (K.set n true) (X1 ++ (C.take k).flatMap (psh L (K.set n true) N)) ∧ Mc Mb Kb X1b W0 Xb' Wx ∧ Wx.heap[W0.heap.size]? = some (.deferred (some []))) := ⟨_, fun _ _ => Iff.rfl⟩
    obtain ⟨Ix, hIx⟩ : ∃ Ix : Code → Nat → World → Prop, ∀ cd k Wx, Ix cd k Wx ↔ False := ⟨_, fun _ _ _ => Iff.rfl⟩
    have hIp : ∀ k Wx r r', I k Wx → Wx.heap[W0.heap.size + 1]? = some (.loop r) → I k (Wx.putObj (W0.heap.size + 1) (.loop r')) := by
      intro k Wx r r' hi hl
      obtain ⟨Xb', xc', a1, ⟨a2, a2'⟩, a3⟩ := (hI _ _).1 hi
      exact (hI _ _).2 ⟨Xb', xc', a1.put hl rfl, ⟨⟨a2.1, a2.2.1, a2.2.2.1, by have := a2.2.2.2.1; simpa [World.putObj] using this, fun j hj hx => (World.putObj_heap_other (by omega)).trans (a2.2.2.2.2 j hj hx)⟩, a2'⟩, (World.putObj_heap_other (by omega)).trans a3⟩
    have hIxp : ∀ cd k Wx r r', Ix cd k Wx → Wx.heap[W0.heap.size + 1]? = some (.loop r) → Ix cd k (Wx.putObj (W0.heap.size + 1) (.loop r')) := fun cd k Wx r r' hi _ => ((hIx _ _ _).1 hi).elim
    refine (wpIn_wide (n := 0)).1 ?_
    refine range_out (gf := 70) (lb := #[.pointer (some ⟨Wc.heap.size, 0, none⟩), .pointer (some ⟨Wc.heap.size + 1, 0, none⟩)]) rfl (enters_of Try.func70 (by kernel_rfl) rfl) (I := I) (Ix := Ix) (N := C.length) hIp hIxp ?h0 ?hseq ?hdone ?hstop
    case h0 =>
      intro o'
      have hbb : Below W0.heap.size W0 ((W0.alloc (.deferred (some []))).alloc o') := (bel1 W0 _).alloc (by simp) _
      refine (hI _ _).2 ⟨X1b, x1c, ?_, Mc.of_bel hbb, ?_⟩
      · have := hM0.bel hbb
        simpa using this
      · rw [Below.heap_alloc _ _ _ (by simp)]; exact heap_alloc_new W0 _
    case hstop => exact fun cd k Wx _ hi => ((hIx _ _ _).1 hi).elim
    case hdone =>
      intro Wx hi
      obtain ⟨Xb', xc', a1, a2, hK⟩ := (hI _ _).1 hi
      rw [List.take_length] at a1
      refine ⟨by simp, .inl ⟨_, _, rfl, run_takeDeferred hK, ?_⟩⟩
      refine ⟨_, results_none rfl _ _ _, rfl, Xb', xc', a1.put hK rfl, ?_⟩
      have m0 : Mc Mb Kb X1b Wc X1b W0 := Mc.of_bel hbd
      have hsw : w.heap.size ≤ W0.heap.size := by have := HMW.out.1.2.2.2.1; omega
      obtain ⟨⟨q1, q2, q3, q4, q5⟩, q6⟩ := HMW.out.trans (m0.trans a2)
      exact ⟨⟨q1, q2, q3, by simpa [World.putObj] using q4, fun j hj hx => (World.putObj_heap_other (by omega)).trans (q5 j hj hx)⟩, q6⟩
    case hseq =>
      intro fn W1' hW1 hb1
      refine all_it Wc.heap.size (Wc.heap.size + 1) (W0.heap.size + 1) La Be N n A B C av _ (Lft (W0.heap.size + 1) (rcd fn _ _ _ _ W0.heap.size) Ix) W1' hN hM0.lA hM0.lB HAV.out HCH.out (fun k Wx hx => ?_) (fun k l Wx hk hx => ?_) hb1
      · obtain ⟨hi, hl⟩ := hx
        obtain ⟨Xb', xc', a1, a2, a3⟩ := (hI _ _).1 hi
        have q1 := a2.other hM0 hH2 (by decide) (by decide) (by decide)
        have q2 := (a2.1.2.2.2.2 (Wc.heap.size + 1) (by omega) (by omega)).trans hO
        exact ⟨by simp [World.cell?, q1], by simp [World.cell?, q1], cell1_of q2, a1.hA, a1.hB⟩
      · have key := round_raw (P := Try.prog) (encs := fun k => #[.int .i64 (((C[k]?.getD 0) / 2 : Nat) : Int)]) (fun _ => rfl) (Kp := fun _ _ => True) (fun _ _ => trivial) (fun _ _ _ _ => trivial) hIp hIxp (k := k) (W := Wx) hx ?_
        · rw [hk] at key
          obtain ⟨f1, f2, f3, f4, f5, f6⟩ := key
          refine ⟨f1, f2, f3, f4, f5, f6.mono ?_⟩
          rintro e W' (⟨rfl, y1, y2⟩ | ⟨rfl, y1, y2⟩)
          · exact .inl ⟨rfl, y1⟩
          · exact .inr ⟨rfl, y1⟩
        · intro Kc hKc
          rw [hk]
          simp only [Option.getD_some]
          obtain ⟨m, hmm⟩ : ∃ m, l / 2 = m := ⟨_, rfl⟩
          rw [hmm]
          have HMM2 : Aside _ := hmm
          clear hmm
          have HK : Aside _ := hKc
          have HX : Aside _ := hx
          clear hKc hx
          gi_wp2
          refine HK.out _ _ rfl trivial (fun r' => ?_)
          clear HK
          obtain ⟨hi, hl⟩ := HX.out
          have hi' := hIp _ _ _ r' hi hl
          have hl' : (Wx.putObj (W0.heap.size + 1) (.loop r')).heap[W0.heap.size + 1]? = some (.loop r') := World.putObj_heap_same (Array.getElem?_eq_some_iff.1 hl).1
          generalize Wx.putObj (W0.heap.size + 1) (.loop r') = Wr at *
          obtain ⟨Xb', xc', a1, a2, a3⟩ := (hI _ _).1 hi'
          have bx := a2.other hM0 hbx0 (by decide) (by decide) (by decide)
          have cB : Wr.cell? ⟨w.heap.size, 0, none⟩ = some (.pointer (some ⟨Mb, 0, none⟩)) := cell1_of bx
          have HLR : Aside _ := hl'
          have hv := hV0.mc hM0 a2
          have htk := flat_take L (K.set n true) N C hk
          have hklen := (List.getElem?_eq_some_iff.1 hk).1
          have htl : (X1 ++ (C.take k).flatMap (psh L (K.set n true) N)).length + 65536 ≤ 28000000000000 := by
            rw [List.length_append]
            have h1 := flat_le HSM.out (K.set n true) N (C.take k)
            have h2 : (C.take k).length ≤ C.length := List.length_take_le' _ _
            have h3 := HCL.out
            have h4 := HX1L.out
            have h5 : (C.take k).length * 65537 ≤ 2 * N * 65537 := Nat.mul_le_mul_right _ (by omega)
            omega
          obtain ⟨Y, hY⟩ : ∃ Y, X1 ++ (C.take k).flatMap (psh L (K.set n true) N) = Y := ⟨_, rfl⟩
          rw [hY] at a1 htl
          have hfin : X1 ++ (C.take (k + 1)).flatMap (psh L (K.set n true) N) = Y ++ psh L (K.set n true) N l := by rw [htk, ← hY, List.append_assoc]
          obtain ⟨hS, hT⟩ := (HMEM.out l).1 (List.mem_of_getElem? hk)
          obtain ⟨t, ht, h2k, _⟩ := hT
          have hml := (List.getElem?_eq_some_iff.1 ht).1
          have hpsh : psh L (K.set n true) N l = if t.kd = 6 then (if (K.set n true)[l / 2]? = some true then fN N (wins t.by'.data.toList) else []) else [l / 2] := by unfold psh; rw [ht]
          rw [hpsh] at hfin
          clear hi hl HX hi' hb1 hW1 htk hY hk hS hpsh hklen
          rw [HMM2.out] at ht hml hfin
          clear HMM2
          have t0 : Wr.cell? ⟨G, m * 5, none⟩ = some (.int .i64 (t.kd : Int)) := hv.cT (j := 0) ht (by decide)
          have t1 : Wr.cell? ⟨G, m * 5 + 1, none⟩ = some (.int .i64 (t.of' : Int)) := hv.cT (j := 1) ht (by decide)
          have t2 : Wr.cell? ⟨G, m * 5 + 2, none⟩ = some (.int .i64 t.wi) := hv.cT (j := 2) ht (by decide)
          have t3 : Wr.cell? ⟨G, m * 5 + 3, none⟩ = some (.string t.un) := hv.cT (j := 3) ht (by decide)
          have t4 : Wr.cell? ⟨G, m * 5 + 4, none⟩ = some (.string t.by') := hv.cT (j := 4) ht (by decide)
          have v0 := hv.cV0
          have m0 := a1.c0
          have i5 : (m : Int) < (L.length : Int) := by omega
          have i6 : (0 : Int) ≤ (m : Int) := by omega
          have hsmall := HSM.out m t ht
          have hba := bel1 Wr (.cells #[.int .i64 (t.kd : Int), .int .i64 (t.of' : Int), .int .i64 t.wi, .string t.un, .string t.by'] 62)
          have hT5 := heap_alloc_new Wr (.cells #[.int .i64 (t.kd : Int), .int .i64 (t.of' : Int), .int .i64 t.wi, .string t.un, .string t.by'] 62)
          have a1b := a1.bel hba
          have a2b : Mc Mb Kb X1b W0 Xb' _ := a2.trans (Mc.of_bel hba)
          have a3b := heap_bel a3 hba
          have hlb := heap_bel hl' hba
          have bxb := heap_bel bx hba
          have cBb := cell1_of bxb
          have HA1 : Aside _ := a1b
          have HA2 : Aside _ := a2b
          have HA3 : Aside _ := a3b
          have HLB : Aside _ := hlb
          have HBB : Aside _ := bxb
          have HT5 : Aside _ := hT5
          have HFI : Aside _ := hfin
          have hsz : Wr.heap.size ≤ (Wr.alloc (.cells #[.int .i64 (t.kd : Int), .int .i64 (t.of' : Int), .int .i64 t.wi, .string t.un, .string t.by'] 62)).heap.size := hba.size
          clear a1 a2 a3 hl' bx hv ht a1b a2b a3b hlb bxb hT5 hfin
          generalize hLl : L.length = LL at *
          clear hLl
          refine wpIn_block ?_
          by_cases h6 : t.kd = 6
          · have hfin := HFI.out
            rw [if_pos h6] at hfin
            obtain ⟨kb, hkb⟩ : ∃ kb, (K.set n true)[m]? = some kb := ⟨(K.set n true)[m]'(by rw [HA1.out.lK]; have := HLN.out; omega), List.getElem?_eq_getElem _⟩
            rw [hkb] at hfin
            have hsz2 := hsmall h6
            have hsl : t.by'.data.toList.length = t.by'.size := by simp
            have hki : (t.kd : Int) = 6 := by omega
            rw [hki] at t0 HA1 HA2 HA3 HLB HBB HT5 cBb hsz
            clear hki
            generalize (t.of' : Int) = oi at *
            have w0 : (Wr.alloc (.cells #[.int .i64 6, .int .i64 oi, .int .i64 t.wi, .string t.un, .string t.by'] 62)).cell? ⟨Wr.heap.size, 0, none⟩ = some (.int .i64 6) := by have := HT5.out; unfold World.cell?; simp only [this]; rfl
            have w4 : (Wr.alloc (.cells #[.int .i64 6, .int .i64 oi, .int .i64 t.wi, .string t.un, .string t.by'] 62)).cell? ⟨Wr.heap.size, 4, none⟩ = some (.string t.by') := by have := HT5.out; unfold World.cell?; simp only [this]; rfl
            have ckn := HA1.out.kn hkb
            have c3b := HA1.out.c3
            have j5 : (m : Int) < (N : Int) := by have := HLN.out; omega
            obtain ⟨cp, Wv, hcv, hbv, hby⟩ := conv_string n₀ t.by' (by omega) (Wr.alloc (.cells #[.int .i64 6, .int .i64 oi, .int .i64 t.wi, .string t.un, .string t.by'] 62))
            have HRM : Aside _ := read_mi n₀ Mb V La Be Kb Xb' xc' N cp _ t.by'.data.toList A B (K.set n true) Y Wv (HA1.out.bel hbv) hby (by have := fw_le N t.by' hsz2; omega) hN
            have HIA : Aside _ := HA1.out.bel hbv
            have HLV : Aside _ := heap_bel HLB.out hbv
            have HDV : Aside _ := heap_bel HA3.out hbv
            have HCV : Aside (Mc Mb Kb X1b W0 Xb' Wv) := Mc.trans HA2.out (Mc.of_bel hbv)
            rw [hsl] at HRM
            rw [show (Wr.alloc (.cells #[.int .i64 6, .int .i64 oi, .int .i64 t.wi, .string t.un, .string t.by'] 62)).heap.size = Wr.heap.size + 1 from World.size_alloc _ _] at HRM hcv
            clear HFI hby hbv HT5 hsmall hsz h2k h6
            cases kb with
            | false =>
              simp only [Option.some.injEq, Bool.false_eq_true, if_false, List.append_nil] at hfin
              have RES : Aside ((Wr.alloc (.cells #[.int .i64 6, .int .i64 oi, .int .i64 t.wi, .string t.un, .string t.by'] 62)).heap[W0.heap.size + 1]? = some (.loop r') ∧ I (k + 1) (Wr.alloc (.cells #[.int .i64 6, .int .i64 oi, .int .i64 t.wi, .string t.un, .string t.by'] 62))) := ⟨HLB.out, (hI _ _).2 ⟨Xb', xc', by rw [hfin]; exact HA1.out, HA2.out, HA3.out⟩⟩
              clear hfin HRM HIA HLV HDV HCV HA1 HA2 HA3 hcv
              gi_wp2
              exact ⟨RES.out.1.trans HLR.out.symm, trivial, RES.out.2⟩
            | true =>
              simp only [if_true] at hfin
              clear HA1 HA2 HA3
              gi_wp2_with fail
              refine ⟨trivial, rfl, CallsIn.inRound _ (callsIn_wide.2 (Calls.mono HRM.out ?_))⟩
              rintro e W4 ⟨rfl, Xb2, xc2, p4, p5⟩
              have RES : Aside (W4.heap[W0.heap.size + 1]? = some (.loop r') ∧ I (k + 1) W4) := ⟨p5.rec' HIA.out HLV.out rfl, (hI _ _).2 ⟨Xb2, xc2, by rw [hfin]; exact p4, Mc.trans HCV.out p5, p5.rec' HIA.out HDV.out rfl⟩⟩
              clear p4 p5 HRM hfin
              gi_wp2
              exact ⟨RES.out.1.trans HLR.out.symm, trivial, RES.out.2⟩
          · have k6 : ¬ ((t.kd : Int) = 6) := by omega
            have k6' : ((t.kd : Int) == 6) = false := by simpa using k6
            have hfin := HFI.out
            rw [if_neg h6] at hfin
            generalize (t.kd : Int) = ki at *
            generalize (t.of' : Int) = oi at *
            clear hsmall h6 h2k HFI
            gi_wp2
            generalize Wr.alloc (.cells #[.int .i64 ki, .int .i64 oi, .int .i64 t.wi, .string t.un, .string t.by'] 62) = Ws at *
            have a1d : Mi n₀ Ws.drew Mb V La Be Kb Xb' xc' N A B (K.set n true) Y := HA1.out.bel (bel_drew Ws)
            obtain ⟨Xb2, xc2, W3, hrun, p1, p2, p3, p4, p5⟩ := a1d.push m (by omega)
            have c4 := a1d.c4
            have c4r := HA1.out.c4
            have c4a : (Ws.alloc (.cells #[.int .i64 (m : Int)] 3)).cell? ⟨Mb, 4, none⟩ = some (.slice (some ⟨Xb', 0, none⟩) Y.length xc') := cell_bel HA1.out.c4 (bel1 _ _)
            have HRUN : Aside _ := hrun
            have hxs : w.heap.size ≠ Xb' := by
              rintro e
              obtain ⟨R, r1, _⟩ := HA1.out.hX
              rw [← e, HBB.out] at r1
              have := cells_ty r1 rfl
              omega
            have lbx : w.heap.size < Ws.heap.size := (Array.getElem?_eq_some_iff.1 HBB.out).1
            have HSA : Aside ((Ws.drew.alloc (.cells #[.int .i64 (m : Int)] 3)).cell? ⟨w.heap.size, 0, none⟩ = some (.pointer (some ⟨Mb, 0, none⟩))) := cell_bel (show Ws.drew.cell? ⟨w.heap.size, 0, none⟩ = _ from cBb) (bel1 _ _)
            have b3 : W3.heap[w.heap.size]? = some (.cells #[.pointer (some ⟨Mb, 0, none⟩)] 110 (0, 0)) := (p3 _ lbx hxs).trans HBB.out
            have HS3 : Aside (W3.cell? ⟨w.heap.size, 0, none⟩ = some (.pointer (some ⟨Mb, 0, none⟩))) := cell1_of b3
            have HS4 : Aside ((W3.setCell ⟨Mb, 4, none⟩ (.slice (some ⟨Xb2, 0, none⟩) (Y.length + 1) xc2)).cell? ⟨w.heap.size, 0, none⟩ = some (.pointer (some ⟨Mb, 0, none⟩))) := by
              show _ = _
              rw [World.cell?_setCell_other _ _ _ _ (by simp)]
              exact HS3.out
            have RES : Aside ((W3.setCell ⟨Mb, 4, none⟩ (.slice (some ⟨Xb2, 0, none⟩) (Y.length + 1) xc2)).heap[W0.heap.size + 1]? = some (.loop r') ∧ I (k + 1) (W3.setCell ⟨Mb, 4, none⟩ (.slice (some ⟨Xb2, 0, none⟩) (Y.length + 1) xc2))) := by
              have m1 : Mc Mb Kb X1b W0 Xb2 (W3.setCell ⟨Mb, 4, none⟩ (.slice (some ⟨Xb2, 0, none⟩) (Y.length + 1) xc2)) := Mc.trans HA2.out ((Mc.of_bel (bel_drew Ws)).trans p5)
              refine ⟨p5.rec' a1d (show Ws.drew.heap[W0.heap.size + 1]? = _ from HLB.out) rfl, (hI _ _).2 ⟨Xb2, xc2, ?_, m1, p5.rec' a1d (show Ws.drew.heap[W0.heap.size]? = _ from HA3.out) rfl⟩⟩
              rw [hfin]
              exact p4
            clear hrun p3 p4 p5 a1d b3 hfin
            generalize (m : Int) = ni at *
            generalize Y.length = yn at *
            refine region_round (fun w' => w'.cell? ⟨w.heap.size, 0, none⟩ = some (.pointer (some ⟨Mb, 0, none⟩))) (by kernel_rfl) ?hd ?hQ ?hS (fun hHeld => ?_)
            case hd => exact noDefer (by kernel_rfl)
            case hQ => rintro ⟨a, w, hF⟩; exact hF
            case hS => exact cBb
            refine wpAnyH_take (i := 0) (v := .pointer (some ⟨Mb, 0, none⟩)) rfl (by kernel_rfl) (by kernel_rfl) (by kernel_rfl) (fun _ _ _ h => h) (Or.inl ⟨by rfl, by intro w hs; go_simp⟩) hHeld ?_
            refine norm_any' (fun K hK => ?_)
            go_simp
            refine hK _ _ ?_
            clear hK K
            refine wpAnyH_take (i := 1) (v := .pointer (some ⟨Mb, 0, none⟩)) rfl (by kernel_rfl) (by kernel_rfl) (by kernel_rfl) (fun _ _ _ h => h) (Or.inl ⟨by rfl, by intro w hs; go_simp⟩) hHeld ?_
            refine norm_any' (fun K hK => ?_)
            go_simp
            refine hK _ _ ?_
            clear hK K
            refine wpAnyH_take (i := 2) (v := .pointer (some ⟨Mb, 0, none⟩)) rfl (by kernel_rfl) (by kernel_rfl) (by kernel_rfl) (fun _ _ _ h => h) (Or.inl ⟨by rfl, by intro w hs; go_simp⟩) hHeld ?_
            refine norm_any' (fun K hK => ?_)
            go_simp
            refine hK _ _ ?_
            clear hK K
            refine wpAnyH_take (i := 3) (v := .pointer (some ⟨Mb, 4, none⟩)) rfl (by kernel_rfl) (by kernel_rfl) (by kernel_rfl) (fun _ _ _ h => h) (Or.inl ⟨by rfl, by intro w hs; go_simp⟩) hHeld ?_
            refine norm_any' (fun K hK => ?_)
            go_simp
            refine hK _ _ ?_
            clear hK K
            refine wpAnyH_take (i := 5) (v := .int .i64 ni) rfl (by kernel_rfl) (by kernel_rfl) (by kernel_rfl) (fun _ _ _ h => h) (Or.inl ⟨by rfl, by intro w hs; go_simp⟩) hHeld ?_
            refine norm_any' (fun K hK => ?_)
            go_simp
            refine hK _ _ ?_
            clear hK K
            refine wpAnyH_ready (rs := [4, 6]) (by kernel_rfl) (by simp) (AllReadyH.cons rfl (fun K hK => ?_) (AllReadyH.cons rfl (fun K hK => ?_) AllReadyH.nil))
            · go_simp
              refine hK.out _ _ (hHeld) (fun hHeld => ?_)
              clear hK K
              refine norm_any' (fun K hK => ?_)
              go_simp
              refine hK _ _ ?_
              clear hK K
              refine wpAnyH_ready (rs := [6]) (by kernel_rfl) (by simp) (AllReadyH.cons rfl (fun K hK => ?_) AllReadyH.nil)
              go_simp
              refine hK.out _ _ (HSA.out) (fun hHeld => ?_)
              clear hK K
              refine norm_any' (fun K hK => ?_)
              go_simp
              refine hK _ _ ?_
              clear hK K
              refine wpAnyH_ready (rs := [7]) (by kernel_rfl) (by simp) (AllReadyH.cons rfl (fun K hK => ?_) AllReadyH.nil)
              refine step_append_run rfl _ _ 101 101 rfl _ _ (by rfl) (by rfl) HRUN.out ?_
              refine hK.out _ _ (HS3.out) (fun hHeld => ?_)
              clear hK K
              refine norm_any' (fun K hK => ?_)
              go_simp
              refine hK _ _ ?_
              clear hK K
              refine wpAnyH_take (i := 8) (v := .pointer (some ⟨Mb, 0, none⟩)) rfl (by kernel_rfl) (by kernel_rfl) (by kernel_rfl) (fun _ _ _ h => h) (Or.inl ⟨by rfl, by intro w hs; go_simp⟩) hHeld ?_
              refine norm_any' (fun K hK => ?_)
              go_simp
              refine hK _ _ ?_
              clear hK K
              refine wpAnyH_take (i := 9) (v := .pointer (some ⟨Mb, 4, none⟩)) rfl (by kernel_rfl) (by kernel_rfl) (by kernel_rfl) (fun _ _ _ h => h) (Or.inl ⟨by rfl, by intro w hs; go_simp⟩) hHeld ?_
              refine norm_any' (fun K hK => ?_)
              go_simp
              refine hK _ _ ?_
              clear hK K
              refine wpAnyH_ready (rs := [10]) (by kernel_rfl) (by simp) (AllReadyH.cons rfl (fun K hK => ?_) AllReadyH.nil)
              go_simp
              refine hK.out _ _ (HS4.out) (fun hHeld => ?_)
              clear hK K
              refine wpAnyH_done (by kernel_rfl) ?_ _
              exact ⟨RES.out.1.trans HLR.out.symm, trivial, RES.out.2⟩
            · go_simp
              refine hK.out _ _ (HSA.out) (fun hHeld => ?_)
              clear hK K
              refine norm_any' (fun K hK => ?_)
              go_simp
              refine hK _ _ ?_
              clear hK K
              refine wpAnyH_ready (rs := [4]) (by kernel_rfl) (by simp) (AllReadyH.cons rfl (fun K hK => ?_) AllReadyH.nil)
              go_simp
              refine hK.out _ _ (HSA.out) (fun hHeld => ?_)
              clear hK K
              refine norm_any' (fun K hK => ?_)
              go_simp
              refine hK _ _ ?_
              clear hK K
              refine wpAnyH_ready (rs := [7]) (by kernel_rfl) (by simp) (AllReadyH.cons rfl (fun K hK => ?_) AllReadyH.nil)
              refine step_append_run rfl _ _ 101 101 rfl _ _ (by rfl) (by rfl) HRUN.out ?_
              refine hK.out _ _ (HS3.out) (fun hHeld => ?_)
              clear hK K
              refine norm_any' (fun K hK => ?_)
              go_simp
              refine hK _ _ ?_
              clear hK K
              refine wpAnyH_take (i := 8) (v := .pointer (some ⟨Mb, 0, none⟩)) rfl (by kernel_rfl) (by kernel_rfl) (by kernel_rfl) (fun _ _ _ h => h) (Or.inl ⟨by rfl, by intro w hs; go_simp⟩) hHeld ?_
              refine norm_any' (fun K hK => ?_)
              go_simp
              refine hK _ _ ?_
              clear hK K
              refine wpAnyH_take (i := 9) (v := .pointer (some ⟨Mb, 4, none⟩)) rfl (by kernel_rfl) (by kernel_rfl) (by kernel_rfl) (fun _ _ _ h => h) (Or.inl ⟨by rfl, by intro w hs; go_simp⟩) hHeld ?_
              refine norm_any' (fun K hK => ?_)
              go_simp
              refine hK _ _ ?_
              clear hK K
              refine wpAnyH_ready (rs := [10]) (by kernel_rfl) (by simp) (AllReadyH.cons rfl (fun K hK => ?_) AllReadyH.nil)
              go_simp
              refine hK.out _ _ (HS4.out) (fun hHeld => ?_)
              clear hK K
              refine wpAnyH_done (by kernel_rfl) ?_ _
              exact ⟨RES.out.1.trans HLR.out.symm, trivial, RES.out.2⟩
end Go.Proofs.Ytpjoaimbaboleaa
