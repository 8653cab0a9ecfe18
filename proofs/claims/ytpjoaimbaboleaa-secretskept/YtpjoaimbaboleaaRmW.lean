/- The reference's vault: make, the walk. -/
import Derived.Test.YtpjoaimbaboleaaRm
namespace Go.Proofs.Ytpjoaimbaboleaa
open Go.RowKit Go.Shelf Go.Lib
set_option linter.unusedVariables false

/-- Blocks that are none of the reference's vault stay. -/
def Kx (w w' : World) : Prop := ∀ (b : Nat) (ob : Obj), w.heap[b]? = some ob → (∀ cs, ob ≠ .cells cs 67 (0, 0)) → (∀ cs, ob ≠ .cells cs 64 (0, 0)) → w'.heap[b]? = some ob
theorem Kx.of_bel {w w' : World} (h : Below w.heap.size w w') : Kx w w' := fun b ob hb _ _ => heap_bel hb h
/-- How make ends. -/
def MkP (n₀ R : Nat) (L : List Tm) (t : Tm) (w : World) (e : Ending) (w' : World) : Prop :=
  ((∃ (i : Nat) (s : Tm), L[i]? = some s ∧ rc s = rc t ∧ (∀ (j : Nat) (u : Tm), j < i → L[j]? = some u → rc u ≠ rc t) ∧ t.kd ≠ 1 ∧ e = .returned (hv (nameL i)) ∧ ∃ g c, Rv n₀ w' R g c L) ∨ ((t.kd = 1 ∨ ∀ u ∈ L, rc u ≠ rc t) ∧ e = .returned (hv (nameL L.length)) ∧ ∃ g c, Rv n₀ w' R g c (L ++ [t]))) ∧ Kx w w' ∧ Below n₀ w w'
theorem ranger {w : World} {g : Nat} {Z : List Value} {t : Nat} (h : w.heap[g]? = some (.cells Z.toArray t (0, 0))) : w.rangeAt g 0 Z := by
  intro j v hv
  unfold World.cell?
  simp only [h, Nat.zero_add]
  simpa using hv
theorem fold7 {Z : List Value} (h : Z.length = 7) : List.foldl (fun (cs : Array Value) (x : Value × Nat) => cs.setIfInBounds x.snd x.fst) #[.int .i64 0, .int .i64 0, .int .i64 0, .string ⟨#[]⟩, .int .i64 0, .string ⟨#[]⟩, .string ⟨#[]⟩] Z.zipIdx = Z.toArray := by
  apply Array.toList_inj.1
  rw [fold_zip Z 0 _ (by simp [h])]
  simp [h]
theorem rc_oc (t : Tm) : ∀ u ∈ rc t, u.oneCell' = true := by
  intro u hu
  simp only [rc, List.mem_cons, List.not_mem_nil, or_false] at hu
  rcases hu with rfl | rfl | rfl | rfl | rfl | rfl | rfl <;> rfl
theorem step_append_g {P : Program} {ops : Array Oper} {o : Oper} {a : Act} {w : World} {K : Act → World → Prop} {Q : Exit → Act → World → Prop} {E : Prop}
    (hw : Region.wanted o (yielded ops a.tmps) = true) (d x : Operand) (dT sT : TypeId) (hop : o.op = Op.call { callee := Callee.builtin Builtin.append, args := #[d, x], argTypes := #[dT, sT] })
    (v u : Value) (hd : a.eval d = v) (hx : a.eval x = u) {v' : Value} {w' : World} (hr : (Builtin.append_ #[dT, sT] o.type #[v, u]).run P w = .ok v' w') (hK : K (a.put o.dst v') w') :
    if Region.wanted o (yielded ops a.tmps) = true then Oper.wp P o a w K Q else E := by
  rw [if_pos hw]
  unfold Oper.wp
  simp [execOp, hop, resolve, invoke, builtin, hd, hx, hr, Result.andThen]
  exact hK
/-- append of one term. -/
theorem Rv.app {n₀ R g c b : Nat} {w : World} {L : List Tm} {t : Tm} (h : Rv n₀ w R g c L) (hle : L.length ≤ 1000000) (hn : n₀ ≤ w.heap.size) (hb : w.heap[b]? = some (.cells (rc t).toArray 64 (0, 0))) :
    ∃ g' c' w', (Builtin.append_ #[65, 65] 65 #[.slice (some ⟨g, 0, none⟩) L.length c, .slice (some ⟨b, 0, none⟩) 1 1]).run Try.prog w = .ok (.slice (some ⟨g', 0, none⟩) (L.length + 1) c') w' ∧ w'.ownsRow n₀ 64 7 (.slice (some ⟨g', 0, none⟩) (L.length + 1) c') (L.length + 1) (rl (L ++ [t])) ∧ (∀ x : Nat, x < w.heap.size → x ≠ g → w'.heap[x]? = w.heap[x]?) ∧ Below n₀ w w' := by
  obtain ⟨i, hi, hz, hs, hby⟩ := inf80
  have hcell : ∀ j u, (rc t)[j]? = some u → w.cell? ((⟨b, 0, none⟩ : Addr).add j) = some u := by
    intro j u hu
    rw [Addr.add_mid]
    have := ranger hb j u hu
    simpa using this
  obtain ⟨v', w', hr, h1, h2, _, _⟩ := run_append_own_at (P := Try.prog) w n₀ 65 65 64 i (.agg (rc rt).toArray) 7 80 (by kernel_rfl) hi hz hs hby (by simp [Value.cells, rc_len]) (by omega) _ _ _ h.row ⟨b, 0, none⟩ 1 1 (rc t) (by rw [rc_len]) hcell (rc_oc t) (by unfold maxLen; omega) (by omega) hn
  obtain ⟨_, k2⟩ := kp_grown h.row h2
  rw [← rl_one t, ← rl_app] at h1
  have hcopy := h1
  obtain ⟨_, hx | ⟨g', cap, cur, rfl, _⟩⟩ := hcopy
  · omega
  · exact ⟨g', cap, w', hr, h1, fun x hx hne => h2.block x hx (by simp only [Value.ownBlock]; intro e; injection e with e; exact hne e), k2 hn⟩
theorem Rv.lg {n₀ R g c : Nat} {w : World} {L : List Tm} (h : Rv n₀ w R g c L) : g < w.heap.size ∧ g ≠ R ∧ n₀ ≤ g := by
  obtain ⟨_, h1 | ⟨g', cap, cur, e, h1, h2, _⟩⟩ := h.row
  · cases h1.1
  · injection e with e1
    injection e1 with e1
    injection e1 with e1
    subst e1
    refine ⟨(Array.getElem?_eq_some_iff.1 h2).1, ?_, h1⟩
    rintro rfl
    rw [h.hR] at h2
    injection h2 with h2
    injection h2 with _ h2 _
    cases h2
set_option maxRecDepth 100000 in
set_option maxHeartbeats 2000000 in
theorem rmake_c {n₀ R g c : Nat} {w : World} {L : List Tm} (h : Rv n₀ w R g c L) (hle : L.length ≤ 100000) (hn₀ : n₀ ≤ w.heap.size) (t : Tm) : Calls Try.prog 30 #[.pointer (some ⟨R, 0, none⟩), .agg (rc t).toArray] w (MkP n₀ R L t w) := by
  have HV : Aside _ := h
  obtain ⟨N, hN⟩ : ∃ N, L.length = N := ⟨_, rfl⟩
  have HLN : Aside _ := hN
  rw [hN] at hle
  have hbw : Below w.heap.size w ((w.alloc (.cells (rc t).toArray 64)).alloc (.cells (hl z16).toArray 28)) := (bel1 w _).alloc (by simp) _
  have HX3 : Aside (((w.alloc (.cells (rc t).toArray 64)).alloc (.cells (hl z16).toArray 28)).heap[w.heap.size]? = some (.cells (rc t).toArray 64 (0, 0))) := nth' (new' rfl)
  have HX4 : Aside (((w.alloc (.cells (rc t).toArray 64)).alloc (.cells (hl z16).toArray 28)).heap[w.heap.size + 1]? = some (.cells (hl z16).toArray 28 (0, 0))) := new' (by simp)
  have HBW : Aside _ := hbw
  have lR := (Array.getElem?_eq_some_iff.1 h.hR).1
  have HKD : Aside (∀ X : World, X.rangeAt w.heap.size 0 (rc t) → X.cell? ⟨w.heap.size, 0, none⟩ = some (.int .i64 (t.kd : Int))) := fun X hX => hX 0 _ rfl
  have lZ := rc_len t
  have mT : (Try.prog.info? 64).map (·.size) = some (rc t).length := i80
  have hmu := u80
  clear h hN hbw
  have mixed : Try.prog.follows Departure.mixedOrders = true := by kernel_rfl
  generalize hZt : rc t = Zt at *
  have HZT : Aside _ := hZt
  clear hZt
  go_enter Try.func30, Try.ntmps30
  go_wp2_with fail
  rw [hz28r]
  generalize (w.alloc (.cells Zt.toArray 64)).alloc (.cells (hl z16).toArray 28) = W1 at *
  go_loopg [5] (N + 1) (fun kx s5 wr => ∃ k : Nat, s5 = .int .i64 (k : Int) ∧ k ≤ N ∧ N - k ≤ kx ∧ Aside (Below w.heap.size w wr ∧ wr.heap[w.heap.size]? = some (.cells Zt.toArray 64 (0, 0)) ∧ wr.heap[w.heap.size + 1]? = some (.cells (hl z16).toArray 28 (0, 0)) ∧ (t.kd = 1 ∨ ∀ (j : Nat) (u : Tm), j < k → L[j]? = some u → rc u ≠ Zt)))
  case atStart => exact ⟨0, rfl, by omega, by omega, ⟨HBW.out, HX3.out, HX4.out, .inr fun j u hj => by omega⟩⟩
  case round =>
    obtain ⟨k, rfl, hk, hg, HK⟩ := hrel
    clear HBW HX3 HX4
    have HRr : Aside (Rv n₀ wr R g c L) := HV.out.bel HK.out.1
    have cR := HRr.out.cR
    rw [HLN.out] at cR
    by_cases hlt : k < N
    · have i1 : (k : Int) < (N : Int) := by omega
      have i0 : (0 : Int) ≤ (k : Int) := by omega
      have iw : IntKind.i64.wrap ((k : Int) + 1) = (k : Int) + 1 := by rw [IntKind.wrap_i64]; omega
      obtain ⟨s, hs⟩ : ∃ s, L[k]? = some s := ⟨L[k]'(by rw [HLN.out]; exact hlt), by simp [HLN.out, hlt]⟩
      obtain ⟨b, hb, hrun⟩ := eqr s t
      rw [HZT.out] at hb hrun
      have HS : Aside _ := hs
      have HBQ : Aside _ := hrun
      have HSR : Aside (wr.drew.cell? ⟨R, 0, none⟩ = some (.slice (some ⟨g, 0, none⟩) N c) ∧ wr.drew.rangeAt g (k * 7) (rc s) ∧ wr.drew.rangeAt w.heap.size 0 Zt) := ⟨cR, HRr.out.at' hs, ranger HK.out.2.1⟩
      have mS : (Try.prog.info? 64).map (·.size) = some (rc s).length := i80
      have HKd : Aside (Below w.heap.size w wr.drew ∧ wr.drew.heap[w.heap.size]? = some (.cells Zt.toArray 64 (0, 0)) ∧ wr.drew.heap[w.heap.size + 1]? = some (.cells (hl z16).toArray 28 (0, 0)) ∧ (t.kd = 1 ∨ ∀ (j : Nat) (u : Tm), j < k → L[j]? = some u → rc u ≠ Zt)) := ⟨HK.out.1.trans ((bel_drew wr).mono HK.out.1.size), HK.out.2.1, HK.out.2.2.1, HK.out.2.2.2⟩
      have HHB : Aside (b = true ↔ rc s = Zt) := hb
      have HNX : Aside ((t.kd = 1 ∨ rc s ≠ Zt) → (t.kd = 1 ∨ ∀ (j : Nat) (u : Tm), j < k + 1 → L[j]? = some u → rc u ≠ Zt)) := by
        rintro (h | h)
        · exact .inl h
        · rcases HK.out.2.2.2 with h2 | h2
          · exact .inl h2
          · refine .inr fun j u hj hu => ?_
            rcases (show j < k ∨ j = k by omega) with h3 | rfl
            · exact h2 j u h3 hu
            · rw [HS.out] at hu; injection hu with hu; subst hu; exact h
      clear hs hrun hb HK HRr
      generalize hZs : rc s = Zs at *
      have HZS : Aside _ := hZs
      clear hZs
      cases b with
      | false =>
        have HNO : Aside _ := HNX.out (.inr (fun e => absurd (HHB.out.2 e) (by simp)))
        go_wp2_with fail
        refine wp_region_held_drew (S := fun X => X.cell? ⟨R, 0, none⟩ = some (.slice (some ⟨g, 0, none⟩) N c) ∧ X.rangeAt g (k * 7) Zs ∧ X.rangeAt w.heap.size 0 Zt) (by kernel_rfl) HSR.out (fun hHeld => ?_)
        refine wpAnyH_take (i := 0) (v := .pointer (some ⟨R, 0, none⟩)) rfl (by kernel_rfl) (by kernel_rfl) (by kernel_rfl) (fun _ _ _ h => h) (Or.inl ⟨by rfl, by intro w hs; go_simp⟩) hHeld ?_
        refine norm_any' (fun K hK => ?_)
        go_simp
        refine hK _ _ ?_
        clear hK K
        refine wpAnyH_take (i := 1) (v := .pointer (some ⟨R, 0, none⟩)) rfl (by kernel_rfl) (by kernel_rfl) (by kernel_rfl) (fun _ _ _ h => h) (Or.inl ⟨by rfl, by intro w hs; go_simp⟩) hHeld ?_
        refine norm_any' (fun K hK => ?_)
        go_simp
        refine hK _ _ ?_
        clear hK K
        refine wpAnyH_take (i := 2) (v := .pointer (some ⟨R, 0, none⟩)) rfl (by kernel_rfl) (by kernel_rfl) (by kernel_rfl) (fun _ _ _ h => h) (Or.inl ⟨by rfl, by intro w hs; go_simp⟩) hHeld ?_
        refine norm_any' (fun K hK => ?_)
        go_simp
        refine hK _ _ ?_
        clear hK K
        refine wpAnyH_take (i := 3) (v := .slice (some ⟨g, 0, none⟩) N c) rfl (by kernel_rfl) (by kernel_rfl) (by kernel_rfl) (fun _ _ _ h => h) (Or.inl ⟨by rfl, by intro w hs; have := hs.1; go_simp⟩) hHeld ?_
        refine norm_any' (fun K hK => ?_)
        go_simp
        refine hK _ _ ?_
        clear hK K
        refine wpAnyH_take (i := 4) (v := .int .i64 (k : Int)) rfl (by kernel_rfl) (by kernel_rfl) (by kernel_rfl) (fun _ _ _ h => h) (Or.inl ⟨by rfl, by intro w hs; go_simp⟩) hHeld ?_
        refine norm_any' (fun K hK => ?_)
        go_simp
        refine hK _ _ ?_
        clear hK K
        refine wpAnyH_take (i := 5) (v := .pointer (some ⟨g, k * 7, none⟩)) rfl (by kernel_rfl) (by kernel_rfl) (by kernel_rfl) (fun _ _ _ h => h) (Or.inl ⟨by rfl, by intro w hs; go_simp⟩) hHeld ?_
        refine norm_any' (fun K hK => ?_)
        go_simp
        refine hK _ _ ?_
        clear hK K
        refine wpAnyH_take (i := 6) (v := .agg Zs.toArray) rfl (by kernel_rfl) (by kernel_rfl) (by kernel_rfl) (fun _ _ _ h => h) (yieldsIf_load_mid (by rfl) 64 _ rfl g (k * 7) rfl Zs _ (fun X h => h.2.1) hmu rfl mS) hHeld ?_
        refine norm_any' (fun K hK => ?_)
        go_simp
        refine hK _ _ ?_
        clear hK K
        refine wpAnyH_take (i := 7) (v := .agg Zt.toArray) rfl (by kernel_rfl) (by kernel_rfl) (by kernel_rfl) (fun _ _ _ h => h) (yieldsIf_load_mid (by rfl) 64 _ rfl w.heap.size 0 rfl Zt _ (fun X h => h.2.2) hmu rfl mT) hHeld ?_
        refine norm_any' (fun K hK => ?_)
        go_simp
        refine hK _ _ ?_
        clear hK K
        refine wpAnyH_take (i := 8) (v := .bool false) rfl (by kernel_rfl) (by kernel_rfl) (by kernel_rfl) (fun _ _ _ h => h) (yl_bin (by rfl) .eql 64 64 _ _ rfl Zs.toArray Zt.toArray rfl rfl hm80 _ HBQ.out) hHeld ?_
        refine norm_any' (fun K hK => ?_)
        go_simp
        refine hK _ _ ?_
        clear hK K
        refine wpAnyH_take (i := 9) (v := .bool false) rfl (by kernel_rfl) (by kernel_rfl) (by kernel_rfl) (fun _ _ _ h => h) (Or.inl ⟨by rfl, by intro w hs; go_simp⟩) hHeld ?_
        refine norm_any' (fun K hK => ?_)
        go_simp
        refine hK _ _ ?_
        clear hK K
        refine wpAnyH_take (i := 10) (v := undef) rfl (by kernel_rfl) (by kernel_rfl) (by kernel_rfl) (fun _ _ _ h => h) (Or.inr ⟨by rfl, rfl⟩) hHeld ?_
        refine norm_any' (fun K hK => ?_)
        go_simp
        refine hK _ _ ?_
        clear hK K
        refine wpAnyH_take (i := 11) (v := undef) rfl (by kernel_rfl) (by kernel_rfl) (by kernel_rfl) (fun _ _ _ h => h) (Or.inr ⟨by rfl, rfl⟩) hHeld ?_
        refine norm_any' (fun K hK => ?_)
        go_simp
        refine hK _ _ ?_
        clear hK K
        refine wpAnyH_take (i := 12) (v := undef) rfl (by kernel_rfl) (by kernel_rfl) (by kernel_rfl) (fun _ _ _ h => h) (Or.inr ⟨by rfl, rfl⟩) hHeld ?_
        refine norm_any' (fun K hK => ?_)
        go_simp
        refine hK _ _ ?_
        clear hK K
        refine wpAnyH_take (i := 13) (v := .bool false) rfl (by kernel_rfl) (by kernel_rfl) (by kernel_rfl) (fun _ _ _ h => h) (Or.inl ⟨by rfl, by intro w hs; go_simp⟩) hHeld ?_
        refine norm_any' (fun K hK => ?_)
        go_simp
        refine hK _ _ ?_
        clear hK K
        refine wpAnyH_done (by kernel_rfl) ?_ _
        clear hHeld HBQ HSR
        go_wp2
        go_roundg (N - (k + 1))
        case measure => omega
        case rel => exact ⟨k + 1, by simp, by omega, Nat.le_refl _, ⟨HKd.out.1, HKd.out.2.1, HKd.out.2.2.1, HNO.out⟩⟩
      | true =>
        by_cases hk1 : t.kd = 1
        · have q1 : (t.kd : Int) = 1 := by omega
          have HNO : Aside _ := HNX.out (.inl hk1)
          go_wp2_with fail
          refine wp_region_held_drew (S := fun X => X.cell? ⟨R, 0, none⟩ = some (.slice (some ⟨g, 0, none⟩) N c) ∧ X.rangeAt g (k * 7) Zs ∧ X.rangeAt w.heap.size 0 Zt) (by kernel_rfl) HSR.out (fun hHeld => ?_)
          refine wpAnyH_take (i := 0) (v := .pointer (some ⟨R, 0, none⟩)) rfl (by kernel_rfl) (by kernel_rfl) (by kernel_rfl) (fun _ _ _ h => h) (Or.inl ⟨by rfl, by intro w hs; go_simp⟩) hHeld ?_
          refine norm_any' (fun K hK => ?_)
          go_simp
          refine hK _ _ ?_
          clear hK K
          refine wpAnyH_take (i := 1) (v := .pointer (some ⟨R, 0, none⟩)) rfl (by kernel_rfl) (by kernel_rfl) (by kernel_rfl) (fun _ _ _ h => h) (Or.inl ⟨by rfl, by intro w hs; go_simp⟩) hHeld ?_
          refine norm_any' (fun K hK => ?_)
          go_simp
          refine hK _ _ ?_
          clear hK K
          refine wpAnyH_take (i := 2) (v := .pointer (some ⟨R, 0, none⟩)) rfl (by kernel_rfl) (by kernel_rfl) (by kernel_rfl) (fun _ _ _ h => h) (Or.inl ⟨by rfl, by intro w hs; go_simp⟩) hHeld ?_
          refine norm_any' (fun K hK => ?_)
          go_simp
          refine hK _ _ ?_
          clear hK K
          refine wpAnyH_take (i := 3) (v := .slice (some ⟨g, 0, none⟩) N c) rfl (by kernel_rfl) (by kernel_rfl) (by kernel_rfl) (fun _ _ _ h => h) (Or.inl ⟨by rfl, by intro w hs; have := hs.1; go_simp⟩) hHeld ?_
          refine norm_any' (fun K hK => ?_)
          go_simp
          refine hK _ _ ?_
          clear hK K
          refine wpAnyH_take (i := 4) (v := .int .i64 (k : Int)) rfl (by kernel_rfl) (by kernel_rfl) (by kernel_rfl) (fun _ _ _ h => h) (Or.inl ⟨by rfl, by intro w hs; go_simp⟩) hHeld ?_
          refine norm_any' (fun K hK => ?_)
          go_simp
          refine hK _ _ ?_
          clear hK K
          refine wpAnyH_take (i := 5) (v := .pointer (some ⟨g, k * 7, none⟩)) rfl (by kernel_rfl) (by kernel_rfl) (by kernel_rfl) (fun _ _ _ h => h) (Or.inl ⟨by rfl, by intro w hs; go_simp⟩) hHeld ?_
          refine norm_any' (fun K hK => ?_)
          go_simp
          refine hK _ _ ?_
          clear hK K
          refine wpAnyH_take (i := 6) (v := .agg Zs.toArray) rfl (by kernel_rfl) (by kernel_rfl) (by kernel_rfl) (fun _ _ _ h => h) (yieldsIf_load_mid (by rfl) 64 _ rfl g (k * 7) rfl Zs _ (fun X h => h.2.1) hmu rfl mS) hHeld ?_
          refine norm_any' (fun K hK => ?_)
          go_simp
          refine hK _ _ ?_
          clear hK K
          refine wpAnyH_take (i := 7) (v := .agg Zt.toArray) rfl (by kernel_rfl) (by kernel_rfl) (by kernel_rfl) (fun _ _ _ h => h) (yieldsIf_load_mid (by rfl) 64 _ rfl w.heap.size 0 rfl Zt _ (fun X h => h.2.2) hmu rfl mT) hHeld ?_
          refine norm_any' (fun K hK => ?_)
          go_simp
          refine hK _ _ ?_
          clear hK K
          refine wpAnyH_take (i := 8) (v := .bool true) rfl (by kernel_rfl) (by kernel_rfl) (by kernel_rfl) (fun _ _ _ h => h) (yl_bin (by rfl) .eql 64 64 _ _ rfl Zs.toArray Zt.toArray rfl rfl hm80 _ HBQ.out) hHeld ?_
          refine norm_any' (fun K hK => ?_)
          go_simp
          refine hK _ _ ?_
          clear hK K
          refine wpAnyH_take (i := 9) (v := .bool true) rfl (by kernel_rfl) (by kernel_rfl) (by kernel_rfl) (fun _ _ _ h => h) (Or.inl ⟨by rfl, by intro w hs; go_simp⟩) hHeld ?_
          refine norm_any' (fun K hK => ?_)
          go_simp
          refine hK _ _ ?_
          clear hK K
          refine wpAnyH_take (i := 10) (v := .pointer (some ⟨w.heap.size, 0, none⟩)) rfl (by kernel_rfl) (by kernel_rfl) (by kernel_rfl) (fun _ _ _ h => h) (Or.inl ⟨by rfl, by intro w hs; go_simp⟩) hHeld ?_
          refine norm_any' (fun K hK => ?_)
          go_simp
          refine hK _ _ ?_
          clear hK K
          refine wpAnyH_take (i := 11) (v := .int .i64 (t.kd : Int)) rfl (by kernel_rfl) (by kernel_rfl) (by kernel_rfl) (fun _ _ _ h => h) (Or.inl ⟨by rfl, by intro X hs; have := HKD.out X hs.2.2; go_simp⟩) hHeld ?_
          refine norm_any' (fun K hK => ?_)
          go_simp
          refine hK _ _ ?_
          clear hK K
          refine wpAnyH_take (i := 12) (v := .bool false) rfl (by kernel_rfl) (by kernel_rfl) (by kernel_rfl) (fun _ _ _ h => h) (Or.inl ⟨by rfl, by intro w hs; go_simp⟩) hHeld ?_
          refine norm_any' (fun K hK => ?_)
          go_simp
          refine hK _ _ ?_
          clear hK K
          refine wpAnyH_take (i := 13) (v := .bool false) rfl (by kernel_rfl) (by kernel_rfl) (by kernel_rfl) (fun _ _ _ h => h) (Or.inl ⟨by rfl, by intro w hs; go_simp⟩) hHeld ?_
          refine norm_any' (fun K hK => ?_)
          go_simp
          refine hK _ _ ?_
          clear hK K
          refine wpAnyH_done (by kernel_rfl) ?_ _
          clear hHeld HBQ HSR
          go_wp2
          go_roundg (N - (k + 1))
          case measure => omega
          case rel => exact ⟨k + 1, by simp, by omega, Nat.le_refl _, ⟨HKd.out.1, HKd.out.2.1, HKd.out.2.2.1, HNO.out⟩⟩
        · have q1 : ¬ ((t.kd : Int) = 1) := by omega
          have q2 : decide ((t.kd : Int) = 1) = false := by simpa using q1
          have q3 : ((t.kd : Int) == 1) = false := by simpa using q1
          have HE : Aside (rc s = rc t) := HZS.out.trans ((HHB.out.1 rfl).trans HZT.out.symm)
          go_wp2_with fail
          refine wp_region_held_drew (S := fun X => X.cell? ⟨R, 0, none⟩ = some (.slice (some ⟨g, 0, none⟩) N c) ∧ X.rangeAt g (k * 7) Zs ∧ X.rangeAt w.heap.size 0 Zt) (by kernel_rfl) HSR.out (fun hHeld => ?_)
          refine wpAnyH_take (i := 0) (v := .pointer (some ⟨R, 0, none⟩)) rfl (by kernel_rfl) (by kernel_rfl) (by kernel_rfl) (fun _ _ _ h => h) (Or.inl ⟨by rfl, by intro w hs; go_simp⟩) hHeld ?_
          refine norm_any' (fun K hK => ?_)
          go_simp
          refine hK _ _ ?_
          clear hK K
          refine wpAnyH_take (i := 1) (v := .pointer (some ⟨R, 0, none⟩)) rfl (by kernel_rfl) (by kernel_rfl) (by kernel_rfl) (fun _ _ _ h => h) (Or.inl ⟨by rfl, by intro w hs; go_simp⟩) hHeld ?_
          refine norm_any' (fun K hK => ?_)
          go_simp
          refine hK _ _ ?_
          clear hK K
          refine wpAnyH_take (i := 2) (v := .pointer (some ⟨R, 0, none⟩)) rfl (by kernel_rfl) (by kernel_rfl) (by kernel_rfl) (fun _ _ _ h => h) (Or.inl ⟨by rfl, by intro w hs; go_simp⟩) hHeld ?_
          refine norm_any' (fun K hK => ?_)
          go_simp
          refine hK _ _ ?_
          clear hK K
          refine wpAnyH_take (i := 3) (v := .slice (some ⟨g, 0, none⟩) N c) rfl (by kernel_rfl) (by kernel_rfl) (by kernel_rfl) (fun _ _ _ h => h) (Or.inl ⟨by rfl, by intro w hs; have := hs.1; go_simp⟩) hHeld ?_
          refine norm_any' (fun K hK => ?_)
          go_simp
          refine hK _ _ ?_
          clear hK K
          refine wpAnyH_take (i := 4) (v := .int .i64 (k : Int)) rfl (by kernel_rfl) (by kernel_rfl) (by kernel_rfl) (fun _ _ _ h => h) (Or.inl ⟨by rfl, by intro w hs; go_simp⟩) hHeld ?_
          refine norm_any' (fun K hK => ?_)
          go_simp
          refine hK _ _ ?_
          clear hK K
          refine wpAnyH_take (i := 5) (v := .pointer (some ⟨g, k * 7, none⟩)) rfl (by kernel_rfl) (by kernel_rfl) (by kernel_rfl) (fun _ _ _ h => h) (Or.inl ⟨by rfl, by intro w hs; go_simp⟩) hHeld ?_
          refine norm_any' (fun K hK => ?_)
          go_simp
          refine hK _ _ ?_
          clear hK K
          refine wpAnyH_take (i := 6) (v := .agg Zs.toArray) rfl (by kernel_rfl) (by kernel_rfl) (by kernel_rfl) (fun _ _ _ h => h) (yieldsIf_load_mid (by rfl) 64 _ rfl g (k * 7) rfl Zs _ (fun X h => h.2.1) hmu rfl mS) hHeld ?_
          refine norm_any' (fun K hK => ?_)
          go_simp
          refine hK _ _ ?_
          clear hK K
          refine wpAnyH_take (i := 7) (v := .agg Zt.toArray) rfl (by kernel_rfl) (by kernel_rfl) (by kernel_rfl) (fun _ _ _ h => h) (yieldsIf_load_mid (by rfl) 64 _ rfl w.heap.size 0 rfl Zt _ (fun X h => h.2.2) hmu rfl mT) hHeld ?_
          refine norm_any' (fun K hK => ?_)
          go_simp
          refine hK _ _ ?_
          clear hK K
          refine wpAnyH_take (i := 8) (v := .bool true) rfl (by kernel_rfl) (by kernel_rfl) (by kernel_rfl) (fun _ _ _ h => h) (yl_bin (by rfl) .eql 64 64 _ _ rfl Zs.toArray Zt.toArray rfl rfl hm80 _ HBQ.out) hHeld ?_
          refine norm_any' (fun K hK => ?_)
          go_simp
          refine hK _ _ ?_
          clear hK K
          refine wpAnyH_take (i := 9) (v := .bool true) rfl (by kernel_rfl) (by kernel_rfl) (by kernel_rfl) (fun _ _ _ h => h) (Or.inl ⟨by rfl, by intro w hs; go_simp⟩) hHeld ?_
          refine norm_any' (fun K hK => ?_)
          go_simp
          refine hK _ _ ?_
          clear hK K
          refine wpAnyH_take (i := 10) (v := .pointer (some ⟨w.heap.size, 0, none⟩)) rfl (by kernel_rfl) (by kernel_rfl) (by kernel_rfl) (fun _ _ _ h => h) (Or.inl ⟨by rfl, by intro w hs; go_simp⟩) hHeld ?_
          refine norm_any' (fun K hK => ?_)
          go_simp
          refine hK _ _ ?_
          clear hK K
          refine wpAnyH_take (i := 11) (v := .int .i64 (t.kd : Int)) rfl (by kernel_rfl) (by kernel_rfl) (by kernel_rfl) (fun _ _ _ h => h) (Or.inl ⟨by rfl, by intro X hs; have := HKD.out X hs.2.2; go_simp⟩) hHeld ?_
          refine norm_any' (fun K hK => ?_)
          go_simp
          refine hK _ _ ?_
          clear hK K
          refine wpAnyH_take (i := 12) (v := .bool true) rfl (by kernel_rfl) (by kernel_rfl) (by kernel_rfl) (fun _ _ _ h => h) (Or.inl ⟨by rfl, by intro w hs; go_simp⟩) hHeld ?_
          refine norm_any' (fun K hK => ?_)
          go_simp
          refine hK _ _ ?_
          clear hK K
          refine wpAnyH_take (i := 13) (v := .bool true) rfl (by kernel_rfl) (by kernel_rfl) (by kernel_rfl) (fun _ _ _ h => h) (Or.inl ⟨by rfl, by intro w hs; go_simp⟩) hHeld ?_
          refine norm_any' (fun K hK => ?_)
          go_simp
          refine hK _ _ ?_
          clear hK K
          refine wpAnyH_done (by kernel_rfl) ?_ _
          clear hHeld HBQ HSR
          have HNM : Aside (Calls Try.prog 14 #[.int .i64 (k : Int)] wr.drew fun e w' => e = .returned (hv (nameL k)) ∧ Below wr.drew.heap.size wr.drew w') := rname_c k (by omega) wr.drew
          have hnl := nameL_len k
          generalize hHk : nameL k = Hk at *
          have HHK : Aside _ := hHk
          clear hHk
          go_wp2_with fail
          refine Calls.mono HNM.out ?_
          rintro e Y1 ⟨rfl, hz⟩
          have HY4 : Aside (Y1.heap[w.heap.size + 1]? = some (.cells (hl z16).toArray 28 (0, 0))) := heap_bel HKd.out.2.2.1 hz
          have HBY : Aside (Below w.heap.size w Y1) := HKd.out.1.trans (hz.mono HKd.out.1.size)
          have HRS : Aside _ := setRow_heap Y1 (w.heap.size + 1) _ (hl Hk).toArray 28 (0, 0) HY4.out
          have HBF : Aside (Below w.heap.size w (Y1.setRow (w.heap.size + 1) (hl Hk).toArray)) := bel_set HBY.out (by omega) _
          clear hz HNM
          go_wp2_with (refine str rfl (.tmp 4) (.tmp 30) rfl (w.heap.size + 1) Hk rfl rfl z16 HY4.out hnl rfl ?_)
          refine bodyPost_ret (v := hv Hk) (res_r (fn := Try.f30) (p := 4) rfl _ _ (w.heap.size + 1) Hk rfl HRS.out hnl) rfl ?_
          refine ⟨.inl ⟨k, s, HS.out, HE.out, fun j u hj hu => ?_, hk1, by rw [HHK.out], g, c, HV.out.bel HBF.out⟩, Kx.of_bel HBF.out, HBF.out.mono hn₀⟩
          rcases HKd.out.2.2.2 with h | h
          · exact absurd h hk1
          · rw [HZT.out]; exact h j u hj hu
    · obtain rfl : k = N := by omega
      have i1 : ¬ ((k : Int) < (k : Int)) := by omega
      have HRd : Aside (Rv n₀ wr.drew R g c L) := HRr.out.bel (bel_drew wr)
      have lg := HRr.out.lg
      have lgw := HV.out.lg
      have hlr : w.heap.size + 1 < wr.heap.size := (Array.getElem?_eq_some_iff.1 HK.out.2.2.1).1
      have hRa := HRd.out.bel (bel1 wr.drew (.cells Zt.toArray 64))
      obtain ⟨g', c', W9, hrun, hown, hblk, hbel⟩ := hRa.app (t := t) (b := wr.drew.heap.size) (by rw [HLN.out]; omega) (by have := HK.out.1.size; simp; omega) (by rw [HZT.out]; exact heap_alloc_new wr.drew _)
      rw [HLN.out] at hrun hown
      have HRUN : Aside _ := hrun
      have szd : (wr.drew.alloc (.cells Zt.toArray 64)).heap.size = wr.heap.size + 1 := by simp
      have hR9 : W9.heap[R]? = some (.cells #[.slice (some ⟨g, 0, none⟩) k c] 67 (0, 0)) := by
        have := hRa.hR
        rw [HLN.out] at this
        exact (hblk R (by omega) (by omega)).trans this
      have hX9 : W9.heap[w.heap.size]? = some (.cells Zt.toArray 64 (0, 0)) := (hblk _ (by omega) (by omega)).trans (heap_bel (show wr.drew.heap[w.heap.size]? = _ from HK.out.2.1) (bel1 _ _))
      have hY9 : W9.heap[w.heap.size + 1]? = some (.cells (hl z16).toArray 28 (0, 0)) := (hblk _ (by omega) (by omega)).trans (heap_bel (show wr.drew.heap[w.heap.size + 1]? = _ from HK.out.2.2.1) (bel1 _ _))
      have cW9 : W9.cell? ⟨R, 0, none⟩ = some (.slice (some ⟨g, 0, none⟩) k c) := by simp [World.cell?, hR9]
      have fW9 : W9.frozen? ⟨R, 0, none⟩ = false := by simp [World.frozen?, hR9]
      have eW : W9.setCell ⟨R, 0, none⟩ (.slice (some ⟨g', 0, none⟩) (k + 1) c') = W9.setRow R #[.slice (some ⟨g', 0, none⟩) (k + 1) c'] := by
        rw [setCell_eq_setRow W9 R 0 _ 67 (0, 0) _ hR9]
        rfl
      have HF : Aside (Rv n₀ (W9.setCell ⟨R, 0, none⟩ (.slice (some ⟨g', 0, none⟩) (k + 1) c')) R g' c' (L ++ [t]) ∧ (W9.setCell ⟨R, 0, none⟩ (.slice (some ⟨g', 0, none⟩) (k + 1) c')).heap[w.heap.size + 1]? = some (.cells (hl z16).toArray 28 (0, 0)) ∧ (W9.setCell ⟨R, 0, none⟩ (.slice (some ⟨g', 0, none⟩) (k + 1) c')).heap[w.heap.size]? = some (.cells Zt.toArray 64 (0, 0)) ∧ Below n₀ w (W9.setCell ⟨R, 0, none⟩ (.slice (some ⟨g', 0, none⟩) (k + 1) c')) ∧ (∀ x : Nat, x < w.heap.size → x ≠ R → x ≠ g → (W9.setCell ⟨R, 0, none⟩ (.slice (some ⟨g', 0, none⟩) (k + 1) c')).heap[x]? = w.heap[x]?)) := by
        rw [eW]
        have hh := setRow_heap W9 R _ #[.slice (some ⟨g', 0, none⟩) (k + 1) c'] 67 (0, 0) hR9
        refine ⟨⟨by rw [List.length_append, HLN.out]; exact hh, ?_, HV.out.bR⟩, (setRow_other _ _ _ _ (by omega)).trans hY9, (setRow_other _ _ _ _ (by omega)).trans hX9, ?_, fun x hx h1 h2 => ?_⟩
        · have e : (L ++ [t]).length = k + 1 := by rw [List.length_append, HLN.out]; rfl
          rw [e]
          obtain ⟨h0, h1 | ⟨g2, cap, cur, e2, h1, h2, h3⟩⟩ := hown
          · exact ⟨h0, .inl h1⟩
          · refine ⟨h0, .inr ⟨g2, cap, cur, e2, h1, (setRow_other _ _ _ _ ?_).trans h2, h3⟩⟩
            rintro rfl
            rw [hR9] at h2
            injection h2 with h2
            injection h2 with _ h2 _
            cases h2
        · exact bel_set ((HK.out.1.mono hn₀).trans (((bel_drew wr).trans (bel1 wr.drew _)).mono (by have := HK.out.1.size; omega) |>.trans hbel)) HV.out.bR _
        · refine (setRow_other _ _ _ _ h1).trans ((hblk x (by omega) h2).trans ?_)
          exact ((((bel_drew wr).trans (bel1 wr.drew _)).block x (by omega))).trans (HK.out.1.block x hx)
      have HNO : Aside (t.kd = 1 ∨ ∀ u ∈ L, rc u ≠ rc t) := by
        rcases HK.out.2.2.2 with h | h
        · exact .inl h
        · refine .inr fun u hu => ?_
          obtain ⟨j, hj⟩ := List.getElem?_of_mem hu
          rw [HZT.out]
          exact h j u (by have := (List.getElem?_eq_some_iff.1 hj).1; rw [HLN.out] at this; exact this) hj
      have HR5 : Aside (wr.drew.rangeAt w.heap.size 0 Zt) := ranger HK.out.2.1
      have HR5' : Aside ((wr.drew.alloc (.cells Zt.toArray 64)).rangeAt w.heap.size 0 Zt) := ranger (heap_bel (show wr.drew.heap[w.heap.size]? = _ from HK.out.2.1) (bel1 _ _))
      have HR9 : Aside (W9.rangeAt w.heap.size 0 Zt) := ranger hX9
      have HRF : Aside ((W9.setCell ⟨R, 0, none⟩ (.slice (some ⟨g', 0, none⟩) (k + 1) c')).rangeAt w.heap.size 0 Zt) := ranger HF.out.2.2.1
      have cRd : wr.drew.cell? ⟨R, 0, none⟩ = some (.slice (some ⟨g, 0, none⟩) k c) := cR
      have cRa : (wr.drew.alloc (.cells Zt.toArray 64)).cell? ⟨R, 0, none⟩ = some (.slice (some ⟨g, 0, none⟩) k c) := by have := hRa.cR; rw [HLN.out] at this; exact this
      have hfold := fold7 lZ
      have lRr : R < wr.heap.size := by omega
      have lRd : R < wr.drew.heap.size := lRr
      clear hrun hown hblk hbel szd hR9 hX9 hY9 eW hRa HRd HRr lg lgw HK
      go_wp2_with fail
      refine wp_region_held_drew (S := fun X => X.rangeAt w.heap.size 0 Zt) (by kernel_rfl) HR5.out (fun hHeld => ?_)
      refine wpAnyH_take (i := 0) (v := .pointer (some ⟨R, 0, none⟩)) rfl (by kernel_rfl) (by kernel_rfl) (by kernel_rfl) (fun _ _ _ h => h) (Or.inl ⟨by rfl, by intro w hs; go_simp⟩) hHeld ?_
      refine norm_any' (fun K hK => ?_)
      go_simp
      refine hK _ _ ?_
      clear hK K
      refine wpAnyH_take (i := 1) (v := .pointer (some ⟨R, 0, none⟩)) rfl (by kernel_rfl) (by kernel_rfl) (by kernel_rfl) (fun _ _ _ h => h) (Or.inl ⟨by rfl, by intro w hs; go_simp⟩) hHeld ?_
      refine norm_any' (fun K hK => ?_)
      go_simp
      refine hK _ _ ?_
      clear hK K
      refine wpAnyH_take (i := 2) (v := .pointer (some ⟨R, 0, none⟩)) rfl (by kernel_rfl) (by kernel_rfl) (by kernel_rfl) (fun _ _ _ h => h) (Or.inl ⟨by rfl, by intro w hs; go_simp⟩) hHeld ?_
      refine norm_any' (fun K hK => ?_)
      go_simp
      refine hK _ _ ?_
      clear hK K
      refine wpAnyH_take (i := 3) (v := .pointer (some ⟨R, 0, none⟩)) rfl (by kernel_rfl) (by kernel_rfl) (by kernel_rfl) (fun _ _ _ h => h) (Or.inl ⟨by rfl, by intro w hs; go_simp⟩) hHeld ?_
      refine norm_any' (fun K hK => ?_)
      go_simp
      refine hK _ _ ?_
      clear hK K
      refine wpAnyH_take (i := 5) (v := .agg Zt.toArray) rfl (by kernel_rfl) (by kernel_rfl) (by kernel_rfl) (fun _ _ _ h => h) (yieldsIf_load_mid (by rfl) 64 _ rfl w.heap.size 0 rfl Zt _ (fun X h => h) hmu rfl mT) hHeld ?_
      refine norm_any' (fun K hK => ?_)
      go_simp
      refine hK _ _ ?_
      clear hK K
      refine wpAnyH_ready (rs := [4, 6]) (by kernel_rfl) (by simp) (AllReadyH.cons rfl (fun K hK => ?_) (AllReadyH.cons rfl (fun K hK => ?_) AllReadyH.nil))
      · skip
        go_simp
        refine hK.out _ _ HR5.out (fun hHeld => ?_)
        clear hK K
        refine norm_any' (fun K hK => ?_)
        go_simp
        refine hK _ _ ?_
        clear hK K
        refine wpAnyH_ready (rs := [6]) (by kernel_rfl) (by simp) (AllReadyH.cons rfl (fun K hK => ?_) AllReadyH.nil)
        go_simp
        refine hK.out _ _ HR5'.out (fun hHeld => ?_)
        clear hK K
        refine norm_any' (fun K hK => ?_)
        go_simp
        refine hK _ _ ?_
        clear hK K
        refine wpAnyH_ready (rs := [7]) (by kernel_rfl) (by simp) (AllReadyH.cons rfl (fun K hK => ?_) AllReadyH.nil)
        refine step_append_g (by rfl) _ _ 65 65 rfl _ _ (by rfl) (by rfl) HRUN.out ?_
        refine hK.out _ _ HR9.out (fun hHeld => ?_)
        clear hK K
        refine norm_any' (fun K hK => ?_)
        go_simp
        refine hK _ _ ?_
        clear hK K
        refine wpAnyH_take (i := 8) (v := .pointer (some ⟨R, 0, none⟩)) rfl (by kernel_rfl) (by kernel_rfl) (by kernel_rfl) (fun _ _ _ h => h) (Or.inl ⟨by rfl, by intro w hs; go_simp⟩) hHeld ?_
        refine norm_any' (fun K hK => ?_)
        go_simp
        refine hK _ _ ?_
        clear hK K
        refine wpAnyH_take (i := 9) (v := .pointer (some ⟨R, 0, none⟩)) rfl (by kernel_rfl) (by kernel_rfl) (by kernel_rfl) (fun _ _ _ h => h) (Or.inl ⟨by rfl, by intro w hs; go_simp⟩) hHeld ?_
        refine norm_any' (fun K hK => ?_)
        go_simp
        refine hK _ _ ?_
        clear hK K
        refine wpAnyH_ready (rs := [10]) (by kernel_rfl) (by simp) (AllReadyH.cons rfl (fun K hK => ?_) AllReadyH.nil)
        go_simp
        refine hK.out _ _ HRF.out (fun hHeld => ?_)
        clear hK K
        refine norm_any' (fun K hK => ?_)
        go_simp
        refine hK _ _ ?_
        clear hK K
        refine wpAnyH_done (by kernel_rfl) ?_ _
        clear hHeld HR5 HR5' HR9 HRF cRd cRa hfold HRUN cW9 fW9
        have cF := HF.out.1.cR
        rw [List.length_append, HLN.out] at cF
        have jw : IntKind.i64.wrap ((k : Int) + 1 - 1) = (k : Int) := by rw [IntKind.wrap_i64]; omega
        have jw2 : IntKind.i64.wrap (k : Int) = (k : Int) := by rw [IntKind.wrap_i64]; omega
        generalize W9.setCell ⟨R, 0, none⟩ (.slice (some ⟨g', 0, none⟩) (k + 1) c') = WF at *
        have HNM : Aside (Calls Try.prog 14 #[.int .i64 (k : Int)] WF fun e w' => e = .returned (hv (nameL k)) ∧ Below WF.heap.size WF w') := rname_c k (by omega) WF
        have hnl := nameL_len k
        generalize hHk : nameL k = Hk at *
        have HHK : Aside _ := hHk
        clear hHk
        go_wp2_with fail
        refine Calls.mono HNM.out ?_
        rintro e Y1 ⟨rfl, hz⟩
        have HY4 : Aside (Y1.heap[w.heap.size + 1]? = some (.cells (hl z16).toArray 28 (0, 0))) := heap_bel HF.out.2.1 hz
        have HRS : Aside _ := setRow_heap Y1 (w.heap.size + 1) _ (hl Hk).toArray 28 (0, 0) HY4.out
        have HZ : Aside _ := hz
        clear hz HNM cF
        go_wp2_with (refine str rfl (.tmp 4) (.tmp 47) rfl (w.heap.size + 1) Hk rfl rfl z16 HY4.out hnl rfl ?_)
        refine bodyPost_ret (v := hv Hk) (res_r (fn := Try.f30) (p := 4) rfl _ _ (w.heap.size + 1) Hk rfl HRS.out hnl) rfl ?_
        refine ⟨.inr ⟨HNO.out, by rw [HLN.out, HHK.out], g', c', (HF.out.1.bel HZ.out).keep fun b cs t hb ht => (setRow_other _ _ _ _ ?_).trans hb⟩, fun b ob hb h1 h2 => ?_, bel_set (HF.out.2.2.2.1.trans (HZ.out.mono HF.out.2.2.2.1.size |>.mono (by omega))) (by omega) _⟩
        · rintro rfl
          rw [HY4.out] at hb
          injection hb with hb
          injection hb with _ hb _
          subst hb
          rcases ht with h | h <;> cases h
        · have hlt := (Array.getElem?_eq_some_iff.1 hb).1
          have hxR : b ≠ R := by rintro rfl; have := HV.out.hR; rw [hb] at this; injection this with this; exact h1 _ this
          have hxg : b ≠ g := by
            rintro rfl
            obtain ⟨_, q1 | ⟨g2, cap, cur, e2, _, q2, _⟩⟩ := HV.out.row
            · cases q1.1
            · injection e2 with e2; injection e2 with e2; injection e2 with e2; subst e2; rw [hb] at q2; injection q2 with q2; exact h2 _ q2
          have q := (HF.out.2.2.2.2 b hlt hxR hxg).trans hb
          exact (setRow_other _ _ _ _ (by omega)).trans (heap_bel q HZ.out)
      · skip
        go_simp
        refine hK.out _ _ HR5'.out (fun hHeld => ?_)
        clear hK K
        refine norm_any' (fun K hK => ?_)
        go_simp
        refine hK _ _ ?_
        clear hK K
        refine wpAnyH_ready (rs := [4]) (by kernel_rfl) (by simp) (AllReadyH.cons rfl (fun K hK => ?_) AllReadyH.nil)
        go_simp
        refine hK.out _ _ HR5'.out (fun hHeld => ?_)
        clear hK K
        refine norm_any' (fun K hK => ?_)
        go_simp
        refine hK _ _ ?_
        clear hK K
        refine wpAnyH_ready (rs := [7]) (by kernel_rfl) (by simp) (AllReadyH.cons rfl (fun K hK => ?_) AllReadyH.nil)
        refine step_append_g (by rfl) _ _ 65 65 rfl _ _ (by rfl) (by rfl) HRUN.out ?_
        refine hK.out _ _ HR9.out (fun hHeld => ?_)
        clear hK K
        refine norm_any' (fun K hK => ?_)
        go_simp
        refine hK _ _ ?_
        clear hK K
        refine wpAnyH_take (i := 8) (v := .pointer (some ⟨R, 0, none⟩)) rfl (by kernel_rfl) (by kernel_rfl) (by kernel_rfl) (fun _ _ _ h => h) (Or.inl ⟨by rfl, by intro w hs; go_simp⟩) hHeld ?_
        refine norm_any' (fun K hK => ?_)
        go_simp
        refine hK _ _ ?_
        clear hK K
        refine wpAnyH_take (i := 9) (v := .pointer (some ⟨R, 0, none⟩)) rfl (by kernel_rfl) (by kernel_rfl) (by kernel_rfl) (fun _ _ _ h => h) (Or.inl ⟨by rfl, by intro w hs; go_simp⟩) hHeld ?_
        refine norm_any' (fun K hK => ?_)
        go_simp
        refine hK _ _ ?_
        clear hK K
        refine wpAnyH_ready (rs := [10]) (by kernel_rfl) (by simp) (AllReadyH.cons rfl (fun K hK => ?_) AllReadyH.nil)
        go_simp
        refine hK.out _ _ HRF.out (fun hHeld => ?_)
        clear hK K
        refine norm_any' (fun K hK => ?_)
        go_simp
        refine hK _ _ ?_
        clear hK K
        refine wpAnyH_done (by kernel_rfl) ?_ _
        clear hHeld HR5 HR5' HR9 HRF cRd cRa hfold HRUN cW9 fW9
        have cF := HF.out.1.cR
        rw [List.length_append, HLN.out] at cF
        have jw : IntKind.i64.wrap ((k : Int) + 1 - 1) = (k : Int) := by rw [IntKind.wrap_i64]; omega
        have jw2 : IntKind.i64.wrap (k : Int) = (k : Int) := by rw [IntKind.wrap_i64]; omega
        generalize W9.setCell ⟨R, 0, none⟩ (.slice (some ⟨g', 0, none⟩) (k + 1) c') = WF at *
        have HNM : Aside (Calls Try.prog 14 #[.int .i64 (k : Int)] WF fun e w' => e = .returned (hv (nameL k)) ∧ Below WF.heap.size WF w') := rname_c k (by omega) WF
        have hnl := nameL_len k
        generalize hHk : nameL k = Hk at *
        have HHK : Aside _ := hHk
        clear hHk
        go_wp2_with fail
        refine Calls.mono HNM.out ?_
        rintro e Y1 ⟨rfl, hz⟩
        have HY4 : Aside (Y1.heap[w.heap.size + 1]? = some (.cells (hl z16).toArray 28 (0, 0))) := heap_bel HF.out.2.1 hz
        have HRS : Aside _ := setRow_heap Y1 (w.heap.size + 1) _ (hl Hk).toArray 28 (0, 0) HY4.out
        have HZ : Aside _ := hz
        clear hz HNM cF
        go_wp2_with (refine str rfl (.tmp 4) (.tmp 47) rfl (w.heap.size + 1) Hk rfl rfl z16 HY4.out hnl rfl ?_)
        refine bodyPost_ret (v := hv Hk) (res_r (fn := Try.f30) (p := 4) rfl _ _ (w.heap.size + 1) Hk rfl HRS.out hnl) rfl ?_
        refine ⟨.inr ⟨HNO.out, by rw [HLN.out, HHK.out], g', c', (HF.out.1.bel HZ.out).keep fun b cs t hb ht => (setRow_other _ _ _ _ ?_).trans hb⟩, fun b ob hb h1 h2 => ?_, bel_set (HF.out.2.2.2.1.trans (HZ.out.mono HF.out.2.2.2.1.size |>.mono (by omega))) (by omega) _⟩
        · rintro rfl
          rw [HY4.out] at hb
          injection hb with hb
          injection hb with _ hb _
          subst hb
          rcases ht with h | h <;> cases h
        · have hlt := (Array.getElem?_eq_some_iff.1 hb).1
          have hxR : b ≠ R := by rintro rfl; have := HV.out.hR; rw [hb] at this; injection this with this; exact h1 _ this
          have hxg : b ≠ g := by
            rintro rfl
            obtain ⟨_, q1 | ⟨g2, cap, cur, e2, _, q2, _⟩⟩ := HV.out.row
            · cases q1.1
            · injection e2 with e2; injection e2 with e2; injection e2 with e2; subst e2; rw [hb] at q2; injection q2 with q2; exact h2 _ q2
          have q := (HF.out.2.2.2.2 b hlt hxR hxg).trans hb
          exact (setRow_other _ _ _ _ (by omega)).trans (heap_bel q HZ.out)
end Go.Proofs.Ytpjoaimbaboleaa
