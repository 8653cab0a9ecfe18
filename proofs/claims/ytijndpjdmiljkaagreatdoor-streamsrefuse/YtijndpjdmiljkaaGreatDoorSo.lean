/- streams: openTo. -/
import Derived.Test.YtijndpjdmiljkaaGreatDoorSl
namespace Go.Proofs.YtijndpjdmiljkaaGreatDoor
open Go.RowKit Go.Maps
set_option linter.unusedVariables false
set_option maxRecDepth 100000

theorem Gi.rt {n0 : Nat} {X Z : World} (hg : Gi n0 X Z) {b T : Nat} {cs : Array Value} (hr : Rt T cs X b) (hT : T ≠ 3) : Rt T cs Z b := by
  refine (hg.block b hr.lt (.inr fun cs' fr e => ?_)).trans hr
  have h' : X.heap[b]? = _ := hr
  rw [e] at h'
  simp only [Option.some.injEq, Obj.cells.injEq] at h'
  exact hT h'.2.1.symm
theorem step_append_g {P : Program} {ops : Array Oper} {o : Oper} {a : Act} {w : World} {K : Act → World → Prop} {Q : Exit → Act → World → Prop} {E : Prop}
    (hw : Region.wanted o (yielded ops a.tmps) = true) (d x : Operand) (dT sT : TypeId) (hop : o.op = Op.call { callee := Callee.builtin Builtin.append, args := #[d, x], argTypes := #[dT, sT] })
    (v u : Value) (hd : a.eval d = v) (hx : a.eval x = u) {v' : Value} {w' : World} (hr : (Builtin.append_ #[dT, sT] o.type #[v, u]).run P w = .ok v' w') (hK : K (a.put o.dst v') w') :
    if Region.wanted o (yielded ops a.tmps) = true then Oper.wp P o a w K Q else E := by
  rw [if_pos hw]
  unfold Oper.wp
  simp [execOp, hop, resolve, invoke, builtin, hd, hx, hr, Result.andThen]
  exact hK
theorem wpList_append_run' {P : Program} {ops : Array Oper} {rest : List Oper} {o : Oper} {a : Act} {w : World} {Q : Exit → Act → World → Prop}
    (hg : o.guard = none) (d x : Operand) (dT sT : TypeId) (hop : o.op = Op.call { callee := Callee.builtin Builtin.append, args := #[d, x], argTypes := #[dT, sT] })
    (v u : Value) (hd : a.eval d = v) (hx : a.eval x = u) {v' : Value} {w' : World} (hr : (Builtin.append_ #[dT, sT] o.type #[v, u]).run P w = .ok v' w') (hK : wpList P ops Q rest (a.put o.dst v') w') :
    wpList P ops Q (o :: rest) a w :=
  wpList_plain hg fun K hK' => (by
    unfold Oper.wp
    simp [execOp, hop, resolve, invoke, builtin, hd, hx, hr, Result.andThen]
    exact hK' _ _ hK)
theorem sid_le (p : Nat) (s u : Bool) : sid p s u ≤ 4 * (p : Int) + 3 := by
  cases s <;> cases u <;> simp [sid] <;> omega
def Tst.opn (st : Tst) (u : Bool) (ws : Value) (v : Tv) : Tst := if u then { st with ws := ws, t1 := v } else { st with ws := ws, t0 := v }
theorem Tb.setK {srv : Bool} {x y : Lm} {k : Bks} {st : Tst} {W Z : World} {ws : Value} (h : Tb srv x y k { st with ws := ws } W) (u : Bool) {v : Tv} (hv : Rt 176 v.p Z (k.tk u)) (hn : Tn (k.tk u) W Z) : Tb srv x y k (st.opn u ws v) Z := by
  have nd := h.nd
  simp only [Bks.l, List.nodup_cons, List.mem_cons, not_or] at nd
  obtain ⟨⟨n1, n2, n3, n4, n5, n6, n7, n8, n9, _⟩, ⟨m1, m2, m3, m4, m5, m6, m7, m8, _⟩, ⟨p1, p2, p3, p4, p5, p6, p7, _⟩, ⟨q1, q2, q3, q4, q5, q6, _⟩, ⟨r1, r2, r3, r4, r5, _⟩, ⟨s1, s2, s3, s4, _⟩, ⟨t1, t2, t3, _⟩, ⟨v1, v2, _⟩, ⟨w1, _⟩, _⟩ := nd
  cases u
  · exact ⟨hn.rt h.tab (fun e => p5 e), hn.rt h.hg (fun e => m6 e), hn.rt h.ht (fun e => n7 e), hn.rt h.hg0 (fun e => t1 e), hv, hn.rt h.hg1 (fun e => v1 e.symm), hn.rt h.ht1 (fun e => v2 e.symm), h.nd⟩
  · exact ⟨hn.rt h.tab (fun e => p7 e), hn.rt h.hg (fun e => m8 e), hn.rt h.ht (fun e => n9 e), hn.rt h.hg0 (fun e => t3 e), hn.rt h.ht0 (fun e => v2 e), hn.rt h.hg1 (fun e => w1 e), hv, h.nd⟩
set_option maxHeartbeats 4000000 in
theorem openTo_c {srv : Bool} {x y : Lm} {k : Bks} {st : Tst} {w : World} (hx : x.le ownM = true) (hy : y.le peerM = true) (hf : st.fine) {S : Nat} {cs : Array Value} {zs0 : List Int} {F0 : Int → Value} {n0 : Nat} {o0 : Option Addr} {cc0 : Nat} (hw : st.ws = .slice o0 zs0.length cc0) (h : Ow srv x y k st w S cs zs0 F0 n0 o0 cc0 w) (p c0 : Nat) (u : Bool) (i0 : cs[0]? = some (.int .i64 (sid p (!srv) u))) (hc0 : (st.tk u).c = (c0 : Int)) (hcp : c0 ≤ p) (hp : p < 100000) (hn0 : n0 < 1000000000000) (hz0 : zs0.length ≤ 1000000) :
    Calls Tryz.prog 124 #[.pointer (some ⟨k.T, 0, none⟩), .pointer (some ⟨S, 0, none⟩)] w fun e w' => e = .returned (.tuple #[]) ∧ ∃ (zs : List Int) (F : Int → Value) (n : Nat) (o : Option Addr) (c : Nat), Tb srv x y k (st.opn u (.slice o zs.length c) ((st.tk u).tak ((p : Int) - c0 + 1)).2) w' ∧ Sm w' k.sb n F ∧ F (sid p (!srv) u) = .pointer (some ⟨S, 0, none⟩) ∧ Rt 128 cs w' S ∧ (∃ W, Chg (fun j => j = k.T ∨ j = k.sb ∨ (k.T ≤ j ∧ ∃ cs fr, w.heap[j]? = some (.cells cs 3 fr))) w W ∧ Chg (fun j => j = k.tk u) W w') := by
  have hq : ((!srv) == srv) = false := by cases srv <;> rfl
  have HST : Hid ({ st with ws := .slice o0 zs0.length cc0 } = st) := by rw [← hw]; rfl
  have HOP : Hid (∀ X, Tb srv x y k st X → _) := fun X (hX : Tb srv x y k st X) => opened_c hX hf p (!srv) u (by omega)
  have HCA : Hid (∀ X, Tb srv x y k st X → _) := fun X (hX : Tb srv x y k st X) => came_c hX u
  have hop : decide ((p : Int) < st.had srv (!srv) u) = false := by
    unfold Tst.had
    rw [hq]
    simp only [Bool.false_eq_true, if_false, hc0]
    exact decide_eq_false (by omega)
  rw [hop] at HOP
  rw [hc0] at HCA
  have HBG : Hid (∀ X ws, Tb srv x y k { st with ws := ws } X → ∀ q : Nat, q < 200000 → Calls Tryz.prog 51 #[.pointer (some ⟨k.T, 0, none⟩), .int .i64 (sid q (!srv) u)] X fun e w' => ∃ S, e = .returned (.pointer (some ⟨S, 0, none⟩)) ∧ Below X.heap.size X w') := fun X ws hX q hq' => by
    cases u
    · exact (begin_pb hX hx hy q (!srv) (by omega) hq).mono fun e w' ⟨S, _, _, _, h1, h2, _⟩ => ⟨S, h1, h2.bel⟩
    · exact (begin_pu hX hx hy q (!srv) (by omega) hq).mono fun e w' ⟨S, _, _, _, h1, h2, _⟩ => ⟨S, h1, h2.bel⟩
  have HO : Hid _ := h
  have s0 : w.cell? ⟨S, 0, none⟩ = some (.int .i64 (sid p (!srv) u)) := (h.sc.cell 0).trans i0
  have htb : Tb srv x y k st w := HST.out ▸ h.tb
  clear hop hw h
  go_enter Tryz.func124, Tryz.ntmps124
  go_wp2_with fail
  refine Calls.mono (HOP.out _ htb) ?_
  rintro e X1 ⟨rfl, hb1⟩
  have HO1 : Hid _ := HO.out.go hb1
  have s1 : X1.cell? ⟨S, 0, none⟩ = some (.int .i64 (sid p (!srv) u)) := (HO1.out.sc.cell 0).trans i0
  clear hb1 s0 HO htb
  go_wp2_with fail
  refine Calls.mono (isUni_c p (!srv) u X1 (by omega)) ?_
  rintro e w' ⟨rfl, hw⟩
  subst w'
  go_wp2_with fail
  refine Calls.mono (kind_c k.T u X1) ?_
  rintro e w' ⟨rfl, hw⟩
  subst w'
  go_upto_region 2 with fail
  clear s1
  have HO2 : Hid _ := HO1.out.go (bel_drew X1)
  have s1 : Hid (X1.drew.cell? ⟨S, 0, none⟩ = some (.int .i64 (sid p (!srv) u))) := (HO2.out.sc.cell 0).trans i0
  refine wp_region_held_drew (S := fun X => X.cell? ⟨S, 0, none⟩ = some (.int .i64 (sid p (!srv) u))) (by kernel_rfl) s1.out (fun hHeld => ?_)
  generalize X1.drew = Y at *
  clear HO1
  refine wpAnyH_take (i := 0) (v := .pointer (some ⟨k.T, kof u, none⟩)) rfl (by kernel_rfl) (by kernel_rfl) (by kernel_rfl) (fun _ _ _ h => h) (Or.inl ⟨by rfl, by intro w hs; go_simp⟩) hHeld ?_
  refine norm_any' (fun K hK => ?_); go_simp; refine hK _ _ ?_; clear hK K
  refine wpAnyH_take (i := 2) (v := .pointer (some ⟨S, 0, none⟩)) rfl (by kernel_rfl) (by kernel_rfl) (by kernel_rfl) (fun _ _ _ h => h) (Or.inl ⟨by rfl, by intro w hs; go_simp⟩) hHeld ?_
  refine norm_any' (fun K hK => ?_); go_simp; refine hK _ _ ?_; clear hK K
  refine wpAnyH_take (i := 3) (v := .pointer (some ⟨S, 0, none⟩)) rfl (by kernel_rfl) (by kernel_rfl) (by kernel_rfl) (fun _ _ _ h => h) (Or.inl ⟨by rfl, by intro w hs; go_simp⟩) hHeld ?_
  refine norm_any' (fun K hK => ?_); go_simp; refine hK _ _ ?_; clear hK K
  refine wpAnyH_take (i := 4) (v := .pointer (some ⟨S, 0, none⟩)) rfl (by kernel_rfl) (by kernel_rfl) (by kernel_rfl) (fun _ _ _ h => h) (Or.inl ⟨by rfl, by intro w hs; go_simp⟩) hHeld ?_
  refine norm_any' (fun K hK => ?_); go_simp; refine hK _ _ ?_; clear hK K
  refine wpAnyH_take (i := 5) (v := .int .i64 (sid p (!srv) u)) rfl (by kernel_rfl) (by kernel_rfl) (by kernel_rfl) (fun _ _ _ h => h) (Or.inl ⟨by rfl, by intro w_ s1; go_simp⟩) hHeld ?_
  refine norm_any' (fun K hK => ?_); go_simp; refine hK _ _ ?_; clear hK K
  refine wpAnyH_ready (rs := [1]) (by kernel_rfl) (by simp) (AllReadyH.cons rfl (fun K hK => ?_) AllReadyH.nil)
  go_simp
  refine Calls.mono (HCA.out _ (HST.out ▸ HO2.out.tb)) ?_
  rintro e Y1 ⟨rfl, hb1⟩
  have HO3 : Hid _ := HO2.out.go hb1
  have s2 : Hid (Y1.cell? ⟨S, 0, none⟩ = some (.int .i64 (sid p (!srv) u))) := (HO3.out.sc.cell 0).trans i0
  clear hb1 HO2 s1
  refine hK.out _ _ s2.out (fun hHeld => ?_)
  clear hK K
  refine norm_any' (fun K hK => ?_); go_simp; refine hK _ _ ?_; clear hK K
  refine wpAnyH_ready (rs := [6]) (by kernel_rfl) (by simp) (AllReadyH.cons rfl (fun K hK => ?_) AllReadyH.nil)
  go_simp
  refine Calls.mono (place_c p (!srv) u _) ?_
  rintro e Y' ⟨rfl, hw⟩
  subst Y'
  refine hK.out _ _ s2.out (fun hHeld => ?_)
  clear hK K
  refine norm_any' (fun K hK => ?_); go_simp; refine hK _ _ ?_; clear hK K
  refine wpAnyH_take (i := 7) (v := .int .i64 (c0 : Int)) rfl (by kernel_rfl) (by kernel_rfl) (by kernel_rfl) (fun _ _ _ h => h) (Or.inl ⟨by rfl, by intro w hs; go_simp⟩) hHeld ?_
  refine norm_any' (fun K hK => ?_); go_simp; refine hK _ _ ?_; clear hK K
  refine wpAnyH_take (i := 8) (v := .int .i64 (p : Int)) rfl (by kernel_rfl) (by kernel_rfl) (by kernel_rfl) (fun _ _ _ h => h) (Or.inl ⟨by rfl, by intro w hs; go_simp⟩) hHeld ?_
  refine norm_any' (fun K hK => ?_); go_simp; refine hK _ _ ?_; clear hK K
  refine wpAnyH_done (by kernel_rfl) ?_ _
  clear s2
  have hwr : ∀ i : Nat, i ≤ p → IntKind.i64.wrap (((c0 + i : Nat) : Int) + 1) = ((c0 + (i + 1) : Nat) : Int) := fun i hi => by rw [wrp _ (by omega) (by omega)]; omega
  have HWR : Hid _ := hwr
  have HI0 : Hid _ := i0
  clear hwr
  go_wp2_with fail
  go_loopg [7] (p - c0 + 1) (fun kx s7 wr => ∃ i : Nat, s7 = .int .i64 ((c0 + i : Nat) : Int) ∧ c0 + i ≤ p ∧ p - c0 - i + 1 ≤ kx ∧ Hid (∃ (zs : List Int) (F : Int → Value) (n : Nat) (o : Option Addr) (c : Nat), Ow srv x y k st w S cs zs F n o c wr ∧ zs.length = zs0.length + i ∧ n = n0 + i))
  case atStart => exact ⟨0, rfl, by omega, by omega, zs0, F0, n0, o0, cc0, HO3.out, rfl, rfl⟩
  case round =>
    obtain ⟨i, rfl, hi, hk, HR⟩ := hrel
    obtain ⟨zs, F, n, o, c, ho, hzl, hnl⟩ := HR.out
    have HO4 : Hid _ := ho
    have HL : Hid (zs.length = zs0.length + i ∧ n = n0 + i) := ⟨hzl, hnl⟩
    clear ho HR hzl hnl
    by_cases hlt : c0 + i < p
    · have i1 : ((c0 + i : Nat) : Int) < (p : Int) := by omega
      as_aux_lemma =>
      go_upto_region 6 with fail
      have HO5 : Hid _ := HO4.out.go (bel_drew wr)
      have HS5 : Hid (wr.drew.cell? ⟨k.T, 0, none⟩ = some (.bool srv) ∧ wr.drew.cell? ⟨S, 0, none⟩ = some (.int .i64 (sid p (!srv) u))) := ⟨HO5.out.c0, (HO5.out.sc.cell 0).trans HI0.out⟩
      refine wp_region_held_drew (S := fun X => X.cell? ⟨k.T, 0, none⟩ = some (.bool srv) ∧ X.cell? ⟨S, 0, none⟩ = some (.int .i64 (sid p (!srv) u))) (by kernel_rfl) HS5.out (fun hHeld => ?_)
      generalize wr.drew = Z0 at *
      clear HO4
      refine wpAnyH_take (i := 0) (v := .int .i64 ((c0 + i : Nat) : Int)) rfl (by kernel_rfl) (by kernel_rfl) (by kernel_rfl) (fun _ _ _ h => h) (Or.inl ⟨by rfl, by intro w hs; go_simp⟩) hHeld ?_
      refine norm_any' (fun K hK => ?_); go_simp; refine hK _ _ ?_; clear hK K
      refine wpAnyH_take (i := 1) (v := .pointer (some ⟨k.T, 0, none⟩)) rfl (by kernel_rfl) (by kernel_rfl) (by kernel_rfl) (fun _ _ _ h => h) (Or.inl ⟨by rfl, by intro w hs; go_simp⟩) hHeld ?_
      refine norm_any' (fun K hK => ?_); go_simp; refine hK _ _ ?_; clear hK K
      refine wpAnyH_take (i := 2) (v := .pointer (some ⟨k.T, 0, none⟩)) rfl (by kernel_rfl) (by kernel_rfl) (by kernel_rfl) (fun _ _ _ h => h) (Or.inl ⟨by rfl, by intro w hs; go_simp⟩) hHeld ?_
      refine norm_any' (fun K hK => ?_); go_simp; refine hK _ _ ?_; clear hK K
      refine wpAnyH_take (i := 3) (v := .pointer (some ⟨k.T, 0, none⟩)) rfl (by kernel_rfl) (by kernel_rfl) (by kernel_rfl) (fun _ _ _ h => h) (Or.inl ⟨by rfl, by intro w hs; go_simp⟩) hHeld ?_
      refine norm_any' (fun K hK => ?_); go_simp; refine hK _ _ ?_; clear hK K
      refine wpAnyH_take (i := 4) (v := .bool srv) rfl (by kernel_rfl) (by kernel_rfl) (by kernel_rfl) (fun _ _ _ h => h) (Or.inl ⟨by rfl, by rintro w_ ⟨s0, s1⟩; go_simp⟩) hHeld ?_
      refine norm_any' (fun K hK => ?_); go_simp; refine hK _ _ ?_; clear hK K
      refine wpAnyH_take (i := 5) (v := .bool (!srv)) rfl (by kernel_rfl) (by kernel_rfl) (by kernel_rfl) (fun _ _ _ h => h) (Or.inl ⟨by rfl, by intro w hs; go_simp⟩) hHeld ?_
      refine norm_any' (fun K hK => ?_); go_simp; refine hK _ _ ?_; clear hK K
      refine wpAnyH_take (i := 6) (v := .pointer (some ⟨S, 0, none⟩)) rfl (by kernel_rfl) (by kernel_rfl) (by kernel_rfl) (fun _ _ _ h => h) (Or.inl ⟨by rfl, by intro w hs; go_simp⟩) hHeld ?_
      refine norm_any' (fun K hK => ?_); go_simp; refine hK _ _ ?_; clear hK K
      refine wpAnyH_take (i := 7) (v := .pointer (some ⟨S, 0, none⟩)) rfl (by kernel_rfl) (by kernel_rfl) (by kernel_rfl) (fun _ _ _ h => h) (Or.inl ⟨by rfl, by intro w hs; go_simp⟩) hHeld ?_
      refine norm_any' (fun K hK => ?_); go_simp; refine hK _ _ ?_; clear hK K
      refine wpAnyH_take (i := 8) (v := .pointer (some ⟨S, 0, none⟩)) rfl (by kernel_rfl) (by kernel_rfl) (by kernel_rfl) (fun _ _ _ h => h) (Or.inl ⟨by rfl, by intro w hs; go_simp⟩) hHeld ?_
      refine norm_any' (fun K hK => ?_); go_simp; refine hK _ _ ?_; clear hK K
      refine wpAnyH_take (i := 9) (v := .int .i64 (sid p (!srv) u)) rfl (by kernel_rfl) (by kernel_rfl) (by kernel_rfl) (fun _ _ _ h => h) (Or.inl ⟨by rfl, by rintro w_ ⟨s0, s1⟩; go_simp⟩) hHeld ?_
      refine norm_any' (fun K hK => ?_); go_simp; refine hK _ _ ?_; clear hK K
      refine wpAnyH_ready (rs := [10]) (by kernel_rfl) (by simp) (AllReadyH.cons rfl (fun K hK => ?_) AllReadyH.nil)
      go_simp
      refine Calls.mono (isUni_c p (!srv) u _ (by omega)) ?_
      rintro e Y' ⟨rfl, hw⟩
      subst Y'
      refine hK.out _ _ HS5.out (fun hHeld => ?_)
      clear hK K
      refine norm_any' (fun K hK => ?_); go_simp; refine hK _ _ ?_; clear hK K
      refine wpAnyH_ready (rs := [11]) (by kernel_rfl) (by simp) (AllReadyH.cons rfl (fun K hK => ?_) AllReadyH.nil)
      go_simp
      refine Calls.mono (number_c (c0 + i) (!srv) u _ (by omega)) ?_
      rintro e Y' ⟨rfl, hw⟩
      subst Y'
      refine hK.out _ _ HS5.out (fun hHeld => ?_)
      clear hK K
      refine norm_any' (fun K hK => ?_); go_simp; refine hK _ _ ?_; clear hK K
      refine wpAnyH_take (i := 12) (v := .int .i64 (sid (c0 + i) (!srv) u)) rfl (by kernel_rfl) (by kernel_rfl) (by kernel_rfl) (fun _ _ _ h => h) (Or.inl ⟨by rfl, by intro w hs; go_simp⟩) hHeld ?_
      refine norm_any' (fun K hK => ?_); go_simp; refine hK _ _ ?_; clear hK K
      refine wpAnyH_done (by kernel_rfl) ?_ _
      go_upto_region 7 with fail
      have HO6 : Hid _ := HO5.out.go (bel_drew Z0)
      have HS6 : Hid (Z0.drew.cell? ⟨k.T, 13, none⟩ = some (.map (some k.sb))) := HO6.out.c13
      refine wp_region_held_drew (S := fun X => X.cell? ⟨k.T, 13, none⟩ = some (.map (some k.sb))) (by kernel_rfl) HS6.out (fun hHeld => ?_)
      generalize Z0.drew = Z1 at *
      clear HO5 HS5
      refine wpAnyH_take (i := 0) (v := .pointer (some ⟨k.T, 0, none⟩)) rfl (by kernel_rfl) (by kernel_rfl) (by kernel_rfl) (fun _ _ _ h => h) (Or.inl ⟨by rfl, by intro w hs; go_simp⟩) hHeld ?_
      refine norm_any' (fun K hK => ?_); go_simp; refine hK _ _ ?_; clear hK K
      refine wpAnyH_take (i := 1) (v := .pointer (some ⟨k.T, 0, none⟩)) rfl (by kernel_rfl) (by kernel_rfl) (by kernel_rfl) (fun _ _ _ h => h) (Or.inl ⟨by rfl, by intro w hs; go_simp⟩) hHeld ?_
      refine norm_any' (fun K hK => ?_); go_simp; refine hK _ _ ?_; clear hK K
      refine wpAnyH_take (i := 2) (v := .pointer (some ⟨k.T, 13, none⟩)) rfl (by kernel_rfl) (by kernel_rfl) (by kernel_rfl) (fun _ _ _ h => h) (Or.inl ⟨by rfl, by intro w hs; go_simp⟩) hHeld ?_
      refine norm_any' (fun K hK => ?_); go_simp; refine hK _ _ ?_; clear hK K
      refine wpAnyH_take (i := 3) (v := .map (some k.sb)) rfl (by kernel_rfl) (by kernel_rfl) (by kernel_rfl) (fun _ _ _ h => h) (Or.inl ⟨by rfl, by intro w_ s0; go_simp⟩) hHeld ?_
      refine norm_any' (fun K hK => ?_); go_simp; refine hK _ _ ?_; clear hK K
      refine wpAnyH_take (i := 4) (v := .int .i64 (sid (c0 + i) (!srv) u)) rfl (by kernel_rfl) (by kernel_rfl) (by kernel_rfl) (fun _ _ _ h => h) (Or.inl ⟨by rfl, by intro w hs; go_simp⟩) hHeld ?_
      refine norm_any' (fun K hK => ?_); go_simp; refine hK _ _ ?_; clear hK K
      refine wpAnyH_take (i := 5) (v := .pointer (some ⟨k.T, 0, none⟩)) rfl (by kernel_rfl) (by kernel_rfl) (by kernel_rfl) (fun _ _ _ h => h) (Or.inl ⟨by rfl, by intro w hs; go_simp⟩) hHeld ?_
      refine norm_any' (fun K hK => ?_); go_simp; refine hK _ _ ?_; clear hK K
      refine wpAnyH_take (i := 6) (v := .int .i64 (sid (c0 + i) (!srv) u)) rfl (by kernel_rfl) (by kernel_rfl) (by kernel_rfl) (fun _ _ _ h => h) (Or.inl ⟨by rfl, by intro w hs; go_simp⟩) hHeld ?_
      refine norm_any' (fun K hK => ?_); go_simp; refine hK _ _ ?_; clear hK K
      refine wpAnyH_ready (rs := [7]) (by kernel_rfl) (by simp) (AllReadyH.cons rfl (fun K hK => ?_) AllReadyH.nil)
      go_simp
      refine Calls.mono (HBG.out _ _ HO6.out.tb (c0 + i) (by omega)) ?_
      rintro e Z2 ⟨S2, rfl, hb2⟩
      have HO7 : Hid _ := HO6.out.go hb2
      have HS7 : Hid (Z2.cell? ⟨k.T, 13, none⟩ = some (.map (some k.sb))) := HO7.out.c13
      clear hb2 HO6 HS6
      refine hK.out _ _ HS7.out (fun hHeld => ?_)
      clear hK K
      refine norm_any' (fun K hK => ?_); go_simp; refine hK _ _ ?_; clear hK K
      obtain ⟨W3, hrun, hsm, hch⟩ := HO7.out.sm.put (sid (c0 + i) (!srv) u) (by have := sid_0 (c0 + i) (!srv) u; omega) (by have := sid_le (c0 + i) (!srv) u; omega) (by have := HL.out; omega) (.pointer (some ⟨S2, 0, none⟩))
      have HO8 : Hid _ := HO7.out.map_ hsm hch
      refine wpAnyH_ready (rs := [8]) (by kernel_rfl) (by simp) (AllReadyH.cons rfl (fun K hK => ?_) AllReadyH.nil)
      go_simp
      clear hrun hsm hch HO7 HS7
      have HS8 : Hid (W3.cell? ⟨k.T, 13, none⟩ = some (.map (some k.sb))) := HO8.out.c13
      refine hK.out _ _ HS8.out (fun hHeld => ?_)
      clear hK K
      refine norm_any' (fun K hK => ?_); go_simp; refine hK _ _ ?_; clear hK K
      refine wpAnyH_done (by kernel_rfl) ?_ _
      obtain ⟨o2, c2, X4, hrun, hi4, hg4⟩ := app_i HO8.out.iy (Nat.le_of_lt HO8.out.tb.tab.lt) (sid (c0 + i) (!srv) u) (by have := HL.out; omega)
      have c23 := HO8.out.c23
      have HX : Hid _ := HO8.out.app hi4 hg4
      have d23 : X4.cell? ⟨k.T, 23, none⟩ = some (.slice o zs.length c) := (hg4.rt HO8.out.tb.tab (by decide)).cell 23
      have f23 : X4.frozen? ⟨k.T, 23, none⟩ = false := (hg4.rt HO8.out.tb.tab (by decide)).frozen 23
      have HL2 : Hid ((zs ++ [sid (c0 + i) (!srv) u]).length = zs0.length + (i + 1) ∧ n + 1 = n0 + (i + 1)) := ⟨by rw [List.length_append, HL.out.1]; simp; omega, by rw [HL.out.2]; omega⟩
      have hwi := HWR.out i (by omega)
      simp only [List.length_append, List.length_cons, List.length_nil, Nat.zero_add] at HX hrun
      have HRUN : Hid _ := hrun
      clear hi4 hg4 HO8 HS8 HL hrun
      go_wp2_with (refine wpList_append_run' rfl (.tmp 59) (.tmp 61) 45 45 rfl _ _ rfl rfl HRUN.out ?_)
      go_roundg (p - c0 - (i + 1) + 1)
      case measure => omega
      case rel => exact ⟨i + 1, rfl, by omega, Nat.le_refl _, _, _, _, _, _, HX.out, HL2.out⟩
    · have i1 : ¬ ((c0 + i : Nat) : Int) < (p : Int) := by omega
      have HIP : Hid (i ≤ p ∧ p < 100000) := ⟨by omega, hp⟩
      as_aux_lemma =>
      go_upto_region 9 with fail
      have HO6 : Hid _ := HO4.out.go (bel_drew wr)
      have HS6 : Hid (wr.drew.cell? ⟨k.T, 13, none⟩ = some (.map (some k.sb)) ∧ wr.drew.cell? ⟨S, 0, none⟩ = some (.int .i64 (sid p (!srv) u))) := ⟨HO6.out.c13, (HO6.out.sc.cell 0).trans HI0.out⟩
      refine wp_region_held_drew (S := fun X => X.cell? ⟨k.T, 13, none⟩ = some (.map (some k.sb)) ∧ X.cell? ⟨S, 0, none⟩ = some (.int .i64 (sid p (!srv) u))) (by kernel_rfl) HS6.out (fun hHeld => ?_)
      generalize wr.drew = Z1 at *
      clear HO4
      refine wpAnyH_take (i := 0) (v := .pointer (some ⟨k.T, 0, none⟩)) rfl (by kernel_rfl) (by kernel_rfl) (by kernel_rfl) (fun _ _ _ h => h) (Or.inl ⟨by rfl, by intro w hs; go_simp⟩) hHeld ?_
      refine norm_any' (fun K hK => ?_); go_simp; refine hK _ _ ?_; clear hK K
      refine wpAnyH_take (i := 1) (v := .pointer (some ⟨k.T, 0, none⟩)) rfl (by kernel_rfl) (by kernel_rfl) (by kernel_rfl) (fun _ _ _ h => h) (Or.inl ⟨by rfl, by intro w hs; go_simp⟩) hHeld ?_
      refine norm_any' (fun K hK => ?_); go_simp; refine hK _ _ ?_; clear hK K
      refine wpAnyH_take (i := 2) (v := .pointer (some ⟨k.T, 13, none⟩)) rfl (by kernel_rfl) (by kernel_rfl) (by kernel_rfl) (fun _ _ _ h => h) (Or.inl ⟨by rfl, by intro w hs; go_simp⟩) hHeld ?_
      refine norm_any' (fun K hK => ?_); go_simp; refine hK _ _ ?_; clear hK K
      refine wpAnyH_take (i := 3) (v := .map (some k.sb)) rfl (by kernel_rfl) (by kernel_rfl) (by kernel_rfl) (fun _ _ _ h => h) (Or.inl ⟨by rfl, by rintro w_ ⟨s0, s1⟩; go_simp⟩) hHeld ?_
      refine norm_any' (fun K hK => ?_); go_simp; refine hK _ _ ?_; clear hK K
      refine wpAnyH_take (i := 4) (v := .pointer (some ⟨S, 0, none⟩)) rfl (by kernel_rfl) (by kernel_rfl) (by kernel_rfl) (fun _ _ _ h => h) (Or.inl ⟨by rfl, by intro w hs; go_simp⟩) hHeld ?_
      refine norm_any' (fun K hK => ?_); go_simp; refine hK _ _ ?_; clear hK K
      refine wpAnyH_take (i := 5) (v := .pointer (some ⟨S, 0, none⟩)) rfl (by kernel_rfl) (by kernel_rfl) (by kernel_rfl) (fun _ _ _ h => h) (Or.inl ⟨by rfl, by intro w hs; go_simp⟩) hHeld ?_
      refine norm_any' (fun K hK => ?_); go_simp; refine hK _ _ ?_; clear hK K
      refine wpAnyH_take (i := 6) (v := .pointer (some ⟨S, 0, none⟩)) rfl (by kernel_rfl) (by kernel_rfl) (by kernel_rfl) (fun _ _ _ h => h) (Or.inl ⟨by rfl, by intro w hs; go_simp⟩) hHeld ?_
      refine norm_any' (fun K hK => ?_); go_simp; refine hK _ _ ?_; clear hK K
      refine wpAnyH_take (i := 7) (v := .int .i64 (sid p (!srv) u)) rfl (by kernel_rfl) (by kernel_rfl) (by kernel_rfl) (fun _ _ _ h => h) (Or.inl ⟨by rfl, by rintro w_ ⟨s0, s1⟩; go_simp⟩) hHeld ?_
      refine norm_any' (fun K hK => ?_); go_simp; refine hK _ _ ?_; clear hK K
      refine wpAnyH_take (i := 8) (v := .pointer (some ⟨S, 0, none⟩)) rfl (by kernel_rfl) (by kernel_rfl) (by kernel_rfl) (fun _ _ _ h => h) (Or.inl ⟨by rfl, by intro w hs; go_simp⟩) hHeld ?_
      refine norm_any' (fun K hK => ?_); go_simp; refine hK _ _ ?_; clear hK K
      obtain ⟨W3, hrun, hsm, hch⟩ := HO6.out.sm.put (sid p (!srv) u) (sid_0 _ _ _) (by have := sid_le p (!srv) u; have := HIP.out; omega) (by have := HL.out; have := HIP.out; omega) (.pointer (some ⟨S, 0, none⟩))
      have HO8 : Hid _ := HO6.out.map_ hsm hch
      refine wpAnyH_ready (rs := [9]) (by kernel_rfl) (by simp) (AllReadyH.cons rfl (fun K hK => ?_) AllReadyH.nil)
      go_simp
      clear hrun hsm hch HO6 HS6
      have HS8 : Hid (W3.cell? ⟨k.T, 13, none⟩ = some (.map (some k.sb)) ∧ W3.cell? ⟨S, 0, none⟩ = some (.int .i64 (sid p (!srv) u))) := ⟨HO8.out.c13, (HO8.out.sc.cell 0).trans HI0.out⟩
      refine hK.out _ _ HS8.out (fun hHeld => ?_)
      clear hK K
      refine norm_any' (fun K hK => ?_); go_simp; refine hK _ _ ?_; clear hK K
      refine wpAnyH_done (by kernel_rfl) ?_ _
      go_upto_region 10 with fail
      have HO9 : Hid _ := HO8.out.go (bel_drew W3)
      have HS9 : Hid (W3.drew.cell? ⟨k.T, 23, none⟩ = some (.slice o zs.length c) ∧ W3.drew.cell? ⟨S, 0, none⟩ = some (.int .i64 (sid p (!srv) u))) := ⟨HO9.out.c23, (HO9.out.sc.cell 0).trans HI0.out⟩
      refine wp_region_held_drew (S := fun X => X.cell? ⟨S, 0, none⟩ = some (.int .i64 (sid p (!srv) u))) (by kernel_rfl) HS9.out.2 (fun hHeld => ?_)
      generalize W3.drew = Z5 at *
      clear HO8 HS8
      refine wpAnyH_take (i := 0) (v := .pointer (some ⟨k.T, 0, none⟩)) rfl (by kernel_rfl) (by kernel_rfl) (by kernel_rfl) (fun _ _ _ h => h) (Or.inl ⟨by rfl, by intro w hs; go_simp⟩) hHeld ?_
      refine norm_any' (fun K hK => ?_); go_simp; refine hK _ _ ?_; clear hK K
      refine wpAnyH_take (i := 1) (v := .pointer (some ⟨k.T, 0, none⟩)) rfl (by kernel_rfl) (by kernel_rfl) (by kernel_rfl) (fun _ _ _ h => h) (Or.inl ⟨by rfl, by intro w hs; go_simp⟩) hHeld ?_
      refine norm_any' (fun K hK => ?_); go_simp; refine hK _ _ ?_; clear hK K
      refine wpAnyH_take (i := 2) (v := .pointer (some ⟨k.T, 0, none⟩)) rfl (by kernel_rfl) (by kernel_rfl) (by kernel_rfl) (fun _ _ _ h => h) (Or.inl ⟨by rfl, by intro w hs; go_simp⟩) hHeld ?_
      refine norm_any' (fun K hK => ?_); go_simp; refine hK _ _ ?_; clear hK K
      refine wpAnyH_take (i := 3) (v := .pointer (some ⟨k.T, 23, none⟩)) rfl (by kernel_rfl) (by kernel_rfl) (by kernel_rfl) (fun _ _ _ h => h) (Or.inl ⟨by rfl, by intro w hs; go_simp⟩) hHeld ?_
      refine norm_any' (fun K hK => ?_); go_simp; refine hK _ _ ?_; clear hK K
      refine wpAnyH_take (i := 5) (v := .pointer (some ⟨S, 0, none⟩)) rfl (by kernel_rfl) (by kernel_rfl) (by kernel_rfl) (fun _ _ _ h => h) (Or.inl ⟨by rfl, by intro w hs; go_simp⟩) hHeld ?_
      refine norm_any' (fun K hK => ?_); go_simp; refine hK _ _ ?_; clear hK K
      refine wpAnyH_take (i := 6) (v := .pointer (some ⟨S, 0, none⟩)) rfl (by kernel_rfl) (by kernel_rfl) (by kernel_rfl) (fun _ _ _ h => h) (Or.inl ⟨by rfl, by intro w hs; go_simp⟩) hHeld ?_
      refine norm_any' (fun K hK => ?_); go_simp; refine hK _ _ ?_; clear hK K
      refine wpAnyH_take (i := 7) (v := .pointer (some ⟨S, 0, none⟩)) rfl (by kernel_rfl) (by kernel_rfl) (by kernel_rfl) (fun _ _ _ h => h) (Or.inl ⟨by rfl, by intro w hs; go_simp⟩) hHeld ?_
      refine norm_any' (fun K hK => ?_); go_simp; refine hK _ _ ?_; clear hK K
      refine wpAnyH_take (i := 8) (v := .int .i64 (sid p (!srv) u)) rfl (by kernel_rfl) (by kernel_rfl) (by kernel_rfl) (fun _ _ _ h => h) (Or.inl ⟨by rfl, by intro w_ s1; go_simp⟩) hHeld ?_
      refine norm_any' (fun K hK => ?_); go_simp; refine hK _ _ ?_; clear hK K
      obtain ⟨o2, c2, X4, hrun, hi4, hg4⟩ := app_i HO9.out.iy (Nat.le_of_lt HO9.out.tb.tab.lt) (sid p (!srv) u) (by have := HL.out; have := HIP.out; omega)
      have HX : Hid _ := HO9.out.app hi4 hg4
      have HD : Hid (X4.cell? ⟨k.T, 23, none⟩ = some (.slice o zs.length c) ∧ X4.frozen? ⟨k.T, 23, none⟩ = false) := ⟨(hg4.rt HO9.out.tb.tab (by decide)).cell 23, (hg4.rt HO9.out.tb.tab (by decide)).frozen 23⟩
      simp only [List.length_append, List.length_cons, List.length_nil, Nat.zero_add] at HX hrun
      have HRUN : Hid _ := hrun
      have HS4 : Hid (X4.cell? ⟨S, 0, none⟩ = some (.int .i64 (sid p (!srv) u))) := ((hg4.rt HO9.out.sc (by decide)).cell 0).trans HI0.out
      have HSA : Hid ((Z5.alloc (.cells #[.int .i64 (sid p (!srv) u)] 3)).cell? ⟨S, 0, none⟩ = some (.int .i64 (sid p (!srv) u))) := cell_bel HS9.out.2 (bel1 _ _)
      have HTA : Hid ((Z5.alloc (.cells #[.int .i64 (sid p (!srv) u)] 3)).cell? ⟨k.T, 23, none⟩ = some (.slice o zs.length c)) := cell_bel HS9.out.1 (bel1 _ _)
      clear hi4 hg4 hrun
      refine wpAnyH_ready (rs := [4, 9]) (by kernel_rfl) (by simp) (AllReadyH.cons rfl (fun K hK => ?_) (AllReadyH.cons rfl (fun K hK => ?_) AllReadyH.nil))
      · have c23 := HS9.out.1
        go_simp
        clear c23
        refine hK.out _ _ HS9.out.2 (fun hHeld => ?_)
        clear hK K
        refine norm_any' (fun K hK => ?_); go_simp; refine hK _ _ ?_; clear hK K
        refine wpAnyH_ready (rs := [9]) (by kernel_rfl) (by simp) (AllReadyH.cons rfl (fun K hK => ?_) AllReadyH.nil)
        go_simp
        refine hK.out _ _ HSA.out (fun hHeld => ?_)
        clear hK K
        refine norm_any' (fun K hK => ?_); go_simp; refine hK _ _ ?_; clear hK K
        refine wpAnyH_ready (rs := [10]) (by kernel_rfl) (by simp) (AllReadyH.cons rfl (fun K hK => ?_) AllReadyH.nil)
        refine step_append_g (by rfl) _ _ 45 45 rfl _ _ (by rfl) (by rfl) HRUN.out ?_
        refine hK.out _ _ HS4.out (fun hHeld => ?_)
        clear hK K
        refine norm_any' (fun K hK => ?_); go_simp; refine hK _ _ ?_; clear hK K
        refine wpAnyH_take (i := 11) (v := .pointer (some ⟨k.T, 0, none⟩)) rfl (by kernel_rfl) (by kernel_rfl) (by kernel_rfl) (fun _ _ _ h => h) (Or.inl ⟨by rfl, by intro w hs; go_simp⟩) hHeld ?_
        refine norm_any' (fun K hK => ?_); go_simp; refine hK _ _ ?_; clear hK K
        refine wpAnyH_take (i := 12) (v := .pointer (some ⟨k.T, 23, none⟩)) rfl (by kernel_rfl) (by kernel_rfl) (by kernel_rfl) (fun _ _ _ h => h) (Or.inl ⟨by rfl, by intro w hs; go_simp⟩) hHeld ?_
        refine norm_any' (fun K hK => ?_); go_simp; refine hK _ _ ?_; clear hK K
        obtain ⟨d23, f23⟩ := HD.out
        refine wpAnyH_ready (rs := [13]) (by kernel_rfl) (by simp) (AllReadyH.cons rfl (fun K hK => ?_) AllReadyH.nil)
        go_simp
        refine hK.out _ _ ((HX.out.sc.cell 0).trans HI0.out) (fun hHeld => ?_)
        clear hK K d23 f23
        refine norm_any' (fun K hK => ?_); go_simp; refine hK _ _ ?_; clear hK K
        refine wpAnyH_done (by kernel_rfl) ?_ _
        have HW : Hid _ := HX.out
        clear HX HD HRUN HS4 HSA HTA HO9 HS9
        generalize X4.setCell ⟨k.T, 23, none⟩ (.slice o2 (zs.length + 1) c2) = X5 at *
        have ct := HW.out.tb.ct u
        have hta := ttake_c (k.tk u) (st.tk u) ((p : Int) - (c0 : Int) + 1) X5 (by have := HW.out.tb.htk u; cases u <;> exact this)
        have e1 : IntKind.i64.wrap ((p : Int) - (c0 : Int)) = (p : Int) - (c0 : Int) := wrp _ (by have := HIP.out; omega) (by have := HIP.out; omega)
        have e2 : IntKind.i64.wrap ((p : Int) - (c0 : Int) + 1) = (p : Int) - (c0 : Int) + 1 := wrp _ (by have := HIP.out; omega) (by have := HIP.out; omega)
        have HTK : Hid _ := hta
        clear hta
        go_wp2_with fail
        refine Calls.mono HTK.out ?_
        rintro e X6 ⟨rfl, htv, htn⟩
        have HV : Hid _ := htv
        have HN : Hid _ := htn
        clear htv htn
        go_wp2
        refine bodyPost_end (results_none rfl _ _ _) rfl ⟨rfl, _, _, _, _, _, HW.out.tb.setK u HV.out HN.out, HW.out.sm.kept ?_, ?_, ?_, X5, HW.out.ch, tn_chg HN.out⟩
        · refine HN.out.2.2.2.2 k.sb HW.out.sm.lt (fun e => ?_)
          have h1 : X5.heap[k.tk u]? = _ := (show Rt 176 (st.tk u).p X5 (k.tk u) by have := HW.out.tb.htk u; cases u <;> exact this)
          obtain ⟨D, ⟨es, ck, h2, _⟩, _⟩ := HW.out.sm
          rw [e, h1] at h2
          simp at h2
        · simp
        · refine Tn.rt (show Tn (k.tk u) X5 X6 from HN.out) HW.out.sc (fun e => ?_)
          have h1 : X5.heap[k.tk u]? = _ := (show Rt 176 (st.tk u).p X5 (k.tk u) by have := HW.out.tb.htk u; cases u <;> exact this)
          have h2 : X5.heap[S]? = _ := HW.out.sc
          rw [e, h1] at h2
          simp at h2
      · go_simp
        refine hK.out _ _ HSA.out (fun hHeld => ?_)
        clear hK K
        refine norm_any' (fun K hK => ?_); go_simp; refine hK _ _ ?_; clear hK K
        refine wpAnyH_ready (rs := [4]) (by kernel_rfl) (by simp) (AllReadyH.cons rfl (fun K hK => ?_) AllReadyH.nil)
        have c23 := HTA.out
        go_simp
        clear c23
        refine hK.out _ _ HSA.out (fun hHeld => ?_)
        clear hK K
        refine norm_any' (fun K hK => ?_); go_simp; refine hK _ _ ?_; clear hK K
        refine wpAnyH_ready (rs := [10]) (by kernel_rfl) (by simp) (AllReadyH.cons rfl (fun K hK => ?_) AllReadyH.nil)
        refine step_append_g (by rfl) _ _ 45 45 rfl _ _ (by rfl) (by rfl) HRUN.out ?_
        refine hK.out _ _ HS4.out (fun hHeld => ?_)
        clear hK K
        refine norm_any' (fun K hK => ?_); go_simp; refine hK _ _ ?_; clear hK K
        refine wpAnyH_take (i := 11) (v := .pointer (some ⟨k.T, 0, none⟩)) rfl (by kernel_rfl) (by kernel_rfl) (by kernel_rfl) (fun _ _ _ h => h) (Or.inl ⟨by rfl, by intro w hs; go_simp⟩) hHeld ?_
        refine norm_any' (fun K hK => ?_); go_simp; refine hK _ _ ?_; clear hK K
        refine wpAnyH_take (i := 12) (v := .pointer (some ⟨k.T, 23, none⟩)) rfl (by kernel_rfl) (by kernel_rfl) (by kernel_rfl) (fun _ _ _ h => h) (Or.inl ⟨by rfl, by intro w hs; go_simp⟩) hHeld ?_
        refine norm_any' (fun K hK => ?_); go_simp; refine hK _ _ ?_; clear hK K
        obtain ⟨d23, f23⟩ := HD.out
        refine wpAnyH_ready (rs := [13]) (by kernel_rfl) (by simp) (AllReadyH.cons rfl (fun K hK => ?_) AllReadyH.nil)
        go_simp
        refine hK.out _ _ ((HX.out.sc.cell 0).trans HI0.out) (fun hHeld => ?_)
        clear hK K d23 f23
        refine norm_any' (fun K hK => ?_); go_simp; refine hK _ _ ?_; clear hK K
        refine wpAnyH_done (by kernel_rfl) ?_ _
        have HW : Hid _ := HX.out
        clear HX HD HRUN HS4 HSA HTA HO9 HS9
        generalize X4.setCell ⟨k.T, 23, none⟩ (.slice o2 (zs.length + 1) c2) = X5 at *
        have ct := HW.out.tb.ct u
        have hta := ttake_c (k.tk u) (st.tk u) ((p : Int) - (c0 : Int) + 1) X5 (by have := HW.out.tb.htk u; cases u <;> exact this)
        have e1 : IntKind.i64.wrap ((p : Int) - (c0 : Int)) = (p : Int) - (c0 : Int) := wrp _ (by have := HIP.out; omega) (by have := HIP.out; omega)
        have e2 : IntKind.i64.wrap ((p : Int) - (c0 : Int) + 1) = (p : Int) - (c0 : Int) + 1 := wrp _ (by have := HIP.out; omega) (by have := HIP.out; omega)
        have HTK : Hid _ := hta
        clear hta
        go_wp2_with fail
        refine Calls.mono HTK.out ?_
        rintro e X6 ⟨rfl, htv, htn⟩
        have HV : Hid _ := htv
        have HN : Hid _ := htn
        clear htv htn
        go_wp2
        refine bodyPost_end (results_none rfl _ _ _) rfl ⟨rfl, _, _, _, _, _, HW.out.tb.setK u HV.out HN.out, HW.out.sm.kept ?_, ?_, ?_, X5, HW.out.ch, tn_chg HN.out⟩
        · refine HN.out.2.2.2.2 k.sb HW.out.sm.lt (fun e => ?_)
          have h1 : X5.heap[k.tk u]? = _ := (show Rt 176 (st.tk u).p X5 (k.tk u) by have := HW.out.tb.htk u; cases u <;> exact this)
          obtain ⟨D, ⟨es, ck, h2, _⟩, _⟩ := HW.out.sm
          rw [e, h1] at h2
          simp at h2
        · simp
        · refine Tn.rt (show Tn (k.tk u) X5 X6 from HN.out) HW.out.sc (fun e => ?_)
          have h1 : X5.heap[k.tk u]? = _ := (show Rt 176 (st.tk u).p X5 (k.tk u) by have := HW.out.tb.htk u; cases u <;> exact this)
          have h2 : X5.heap[S]? = _ := HW.out.sc
          rw [e, h1] at h2
          simp at h2
end Go.Proofs.YtijndpjdmiljkaaGreatDoor
