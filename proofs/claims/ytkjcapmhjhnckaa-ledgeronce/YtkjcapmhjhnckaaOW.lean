/- LedgerOnce: the law's walk. -/
import Derived.Test.YtkjcapmhjhnckaaOA
import Derived.Deep.CutRange
import Derived.Deep.DeepCutAuto
import Derived.Deep.CutBlock
namespace Go.Proofs.Ytkjcapmhjhnckaa
open Go.RowKit Go.Maps Go.Shelf
set_option linter.unusedVariables false
set_option maxRecDepth 100000

theorem step_append_g {P : Program} {ops : Array Oper} {o : Oper} {a : Act} {w : World} {K : Act → World → Prop} {Q : Exit → Act → World → Prop} {E : Prop}
    (hw : Region.wanted o (yielded ops a.tmps) = true) (d x : Operand) (dT sT : TypeId) (hop : o.op = Op.call { callee := Callee.builtin Builtin.append, args := #[d, x], argTypes := #[dT, sT] })
    (v u : Value) (hd : a.eval d = v) (hx : a.eval x = u) {v' : Value} {w' : World} (hr : (Builtin.append_ #[dT, sT] o.type #[v, u]).run P w = .ok v' w') (hK : K (a.put o.dst v') w') :
    if Region.wanted o (yielded ops a.tmps) = true then Oper.wp P o a w K Q else E := by
  rw [if_pos hw]
  unfold Oper.wp
  simp [execOp, hop, resolve, invoke, builtin, hd, hx, hr, Result.andThen]
  exact hK
def OnR (w : World) (r : Ending) (w' : World) : Prop := r = .returned (.bool true) ∧ Below w.heap.size w w'
/-- The law's state between two acts. -/
def Oq (w : World) (B i n c : Nat) (b : Int) (o : Option Addr) (X : World) : Prop := ∃ A L D, A.b = B ∧ OnW w A L (i + 1) o c D X ∧ OnF L (i + 1) D [] ∧ n = D.length ∧ b = L.z
/-- In the loop over what is told. -/
def Ok' (w : World) (B i : Nat) (P : List Pk) (og : Option Addr) (cg k n c : Nat) (b : Int) (o : Option Addr) (D : List Int) (L : Ls) (X : World) : Prop :=
  ∃ A, A.b = B ∧ OnW w A L (i + 2) o c (D ++ (P.take k).map fun p => p.n) X ∧ Pr X og cg P ∧ n = D.length + k ∧ b = L.z + ssum (P.drop k)
theorem Oq.bound {w : World} {B i n c : Nat} {b : Int} {o : Option Addr} {X : World} (h : Oq w B i n c b o X) (hi : i ≤ 2000000000000) : 0 ≤ b ∧ b ≤ 200000000000000000 := by
  obtain ⟨A, L, D, _, hw, _, _, rfl⟩ := h
  have := zs_bound hw.ok.fit.pk
  have h2 := hw.ok.lenO
  rw [hw.ok.z]
  omega
theorem on_start {w W1 : World} {A : Ad} (h : Lg W1 A ls0) (hb : Below w.heap.size w W1) (ho : ∀ k, A.own k → w.heap.size ≤ k) (hm : A.m = 0) {e : Ending} {W2 : World} (hr : SnR W1 A ls0 ⟨0, 0, 1, false⟩ e W2) : e = .returned (.int .i64 0) ∧ Oq w A.b 0 0 0 1 none W2 := by
  have h0 : snt ls0 ⟨0, 0, 1, false⟩ = 0 := by decide
  obtain ⟨rfl, _, hy⟩ := hr
  obtain ⟨A', hm', hl, hs⟩ := hy h0
  have hw : OnW w A ls0 0 none 0 [] W1 := ⟨h, ls0_ok, hb, ho, by omega, Rw.nil _ _ _, fun j hj => hj.no.elim⟩
  have hf : OnF ls0 0 [] [] := ⟨fun d hd => (by cases hd), ⟨fun q hq => (by cases hq), List.Pairwise.nil, fun q hq => (by cases hq), fun d hd => (by cases hd)⟩, fun q hq => (by cases hq), fun q hq => (by cases hq), by simp [ls0, ons]⟩
  exact ⟨by rw [h0], A', ls0.sent ⟨0, 0, 1, false⟩, [], hs.b, hw.step hl (sent_ok ls0_ok h0 (by omega)) hs (by rw [hm', hm]; omega), hf.sent ls0_ok h0, rfl, rfl⟩
theorem on_box {w X : World} {A : Ad} {L : Ls} {i : Nat} {o : Option Addr} {c : Nat} {D : List Int} (h : OnW w A L (i + 1) o c D X) (hf : OnF L (i + 1) D []) (r : ActR) (hr : r.ok w) :
    OnB w A L i o c D X.heap.size (X.heap.size + 1) r ((X.alloc (.cells r.cs.toArray 32)).alloc (.cells (rv none 0 0 none 0 0 0 0) 40)) := by
  have b1 := bel1 X (.cells r.cs.toArray 32)
  have b2 := bel1 (X.alloc (.cells r.cs.toArray 32)) (.cells (rv none 0 0 none 0 0 0 0) 40)
  have h8 := heap_alloc_new (X.alloc (.cells r.cs.toArray 32)) (.cells (rv none 0 0 none 0 0 0 0) 40)
  rw [World.size_alloc] at h8
  refine ⟨h.below (bel_trans b1 b2), hf, (b2.block _ (by simp)).trans (heap_alloc_new X _), h8, fun hA => ?_, fun hA => ?_, ?_, hr.sr⟩
  · have := h.lg.lt hA; omega
  · have := h.lg.lt hA; omega
  · have := h.bel.size; omega
theorem ok_push {w : World} {B i : Nat} {P : List Pk} {og : Option Addr} {cg k n c : Nat} {b : Int} {o : Option Addr} {D : List Int} {L : Ls} {X : World} (h : Ok' w B i P og cg k n c b o D L X) (hk : k < P.length) (hn : n ≤ 4000000000000) :
    ∃ g off c' w3, (∀ ty, (Builtin.append_ #[62, 62] ty #[.slice o n c, .slice (some ⟨X.heap.size, 0, none⟩) 1 1]).run Try.prog (X.alloc (.cells #[.int .i64 P[k].n] 3)) = .ok (.slice (some ⟨g, off, none⟩) (n + 1) c') w3) ∧ Ok' w B i P og cg (k + 1) (n + 1) c' (b - P[k].s) (some ⟨g, off, none⟩) D L w3 := by
  obtain ⟨A, hB, hw, hp, hn', hb⟩ := h
  have hlen : (D ++ (P.take k).map fun p => p.n).length = n := by rw [List.length_append, List.length_map, List.length_take, hn']; omega
  obtain ⟨g, off, c', w3, h1, h2, h3⟩ := hw.push P[k].n (by omega)
  rw [hlen] at h1
  have e1 : (D ++ (P.take k).map fun p => p.n) ++ [P[k].n] = D ++ (P.take (k + 1)).map fun p => p.n := by
    rw [List.take_succ_eq_append_getElem hk, List.map_append, List.append_assoc]; rfl
  rw [e1] at h2
  have e2 : ssum (P.drop k) = P[k].s + ssum (P.drop (k + 1)) := by rw [List.drop_eq_getElem_cons hk]; rfl
  refine ⟨g, off, c', w3, h1, A, hB, h2, Rw.chg hp h3 (fun j hj hj2 => ?_), by omega, by omega⟩
  obtain ⟨Z, hz⟩ := Rw.ty hp hj
  obtain ⟨Z', hz'⟩ := Rw.ty hw.td hj2
  rw [hz] at hz'
  simp at hz'
theorem ok_bound {w : World} {B i : Nat} {P : List Pk} {og : Option Addr} {cg k n c : Nat} {b : Int} {o : Option Addr} {D : List Int} {L : Ls} {X : World} (h : Ok' w B i P og cg k n c b o D L X) (hf : OnF L (i + 2) D P) (hi : i ≤ 2000000000000) : 0 ≤ b ∧ b ≤ 400000000000000000 := by
  obtain ⟨A, hB, hw, hp, hn', rfl⟩ := h
  have h1 := zs_bound hw.ok.fit.pk
  have h2 := hw.ok.lenO
  have h3 := ssum_bound (P := P.drop k) fun p hq => hf.pk p (List.mem_of_mem_drop hq)
  have h4 := hf.len
  have h5 : (P.drop k).length ≤ P.length := by rw [List.length_drop]; omega
  rw [hw.ok.z]
  omega
theorem ok_end {w : World} {B i : Nat} {P : List Pk} {og : Option Addr} {cg n c : Nat} {b : Int} {o : Option Addr} {D : List Int} {L : Ls} {X : World} (h : Ok' w B i P og cg P.length n c b o D L X) (hf : OnF L (i + 2) D P) : b = L.z ∧ Oq w B (i + 1) n c b o X ∧ ∃ A, A.b = B ∧ Lg X A L := by
  obtain ⟨A, hB, hw, hp, hn', rfl⟩ := h
  rw [List.take_length] at hw
  have e : L.z + ssum (P.drop P.length) = L.z := by rw [List.drop_length]; simp [ssum]
  rw [e]
  refine ⟨rfl, ⟨A, L, _, hB, hw, hf.done, ?_, rfl⟩, A, hB, hw.lg⟩
  rw [List.length_append, List.length_map]; exact hn'
set_option maxHeartbeats 2000000 in
theorem once_walk (R : List ActR) (la : Option Addr) (cap : Nat) (w : World) (hA : Ac w la R) (hl : R.length ≤ 1759218604441) : Calls Try.prog 5 #[.slice la R.length cap] w (OnR w) := by
  have hnew := new_c w
  have HA : Aside _ := hA
  obtain ⟨N, hN⟩ : ∃ N, R.length = N := ⟨_, rfl⟩
  have HN : Aside _ := hN
  rw [hN] at hl ⊢
  have HR : Aside (∀ w', Below w.heap.size w w' → OnR w (.returned (.bool true)) w') := fun w' h => ⟨rfl, h⟩
  generalize OnR w = RR at *
  clear hA hN
  go_enter Try.func5, Try.ntmps5
  go_wp2_with fail
  refine hnew.mono ?_
  rintro e W1 ⟨A, rfl, hl1, hb1, ho1, hm1⟩
  have hsn := sent_c hl1 ls0_ok (by omega) (by omega) ⟨0, 0, 1, false⟩
  have HST : Aside (∀ e W2, SnR W1 A ls0 ⟨0, 0, 1, false⟩ e W2 → e = .returned (.int .i64 0) ∧ Oq w A.b 0 0 0 1 none W2) := fun e W2 hr => on_start hl1 hb1 ho1 hm1 hr
  clear hl1 hb1 ho1 hm1 hnew
  go_wp2_with fail
  refine hsn.mono ?_
  intro e W2 hr
  obtain ⟨rfl, hq⟩ := HST.out e W2 hr
  have HQ : Aside _ := hq
  clear hq hr hsn HST
  generalize A.b = B at *
  clear A
  go_wp2_with fail
  go_loopg [4, 5, 6] N (fun kx s4 s5 s6 wr => ∃ (i n c : Nat) (b : Int) (o : Option Addr), s4 = .int .i64 b ∧ s5 = .slice o n c ∧ s6 = .int .i64 (i : Int) ∧ i ≤ N ∧ N - i ≤ kx ∧ Aside (Oq w B i n c b o wr))
  case atStart => exact ⟨0, 0, 0, 1, none, rfl, rfl, rfl, by omega, by omega, HQ.out⟩
  case round =>
    clear HQ
    obtain ⟨i, n, c, b, o, rfl, rfl, rfl, hi, hgk, HS⟩ := hrel
    have hbb := Oq.bound HS.out (by omega)
    by_cases hlt : i < N
    · have hir : i < R.length := by rw [HN.out]; exact hlt
      obtain ⟨A, L, D, hAB, hW, hF, hn, hb⟩ := HS.out
      obtain ⟨rb, ro, hla, hcells, hok⟩ := HA.out i hir
      have HBX := on_box hW hF R[i] hok
      have q0 : wr.cell? ⟨rb, ro + i * 8, none⟩ = some (.int .i64 R[i].k) := cell_bel (hcells 0 _ rfl) hW.bel
      have q1 : wr.cell? ⟨rb, ro + i * 8 + 1, none⟩ = some (.int .i64 R[i].n) := cell_bel (hcells 1 _ rfl) hW.bel
      have q2 : wr.cell? ⟨rb, ro + i * 8 + 2, none⟩ = some (.int .i64 R[i].a) := cell_bel (hcells 2 _ rfl) hW.bel
      have q3 : wr.cell? ⟨rb, ro + i * 8 + 3, none⟩ = some (.int .i64 R[i].s) := cell_bel (hcells 3 _ rfl) hW.bel
      have q4 : wr.cell? ⟨rb, ro + i * 8 + 4, none⟩ = some (.bool R[i].e) := cell_bel (hcells 4 _ rfl) hW.bel
      have q5 : wr.cell? ⟨rb, ro + i * 8 + 5, none⟩ = some (.slice R[i].la R[i].S.length R[i].cap) := cell_bel (hcells 5 _ rfl) hW.bel
      have q6 : wr.cell? ⟨rb, ro + i * 8 + 6, none⟩ = some (.int .i64 R[i].t) := cell_bel (hcells 6 _ rfl) hW.bel
      have q7 : wr.cell? ⟨rb, ro + i * 8 + 7, none⟩ = some (.int .i64 R[i].l) := cell_bel (hcells 7 _ rfl) hW.bel
      have hsl := hok.len
      clear hcells hok hW hF
      generalize R[i] = r at *
      clear hir
      obtain ⟨k, pn, pa, pz, pe, sl, S, sc, t, lt⟩ := r
      simp only at q0 q1 q2 q3 q4 q5 q6 q7 hsl
      have hcs : (ActR.cs ⟨k, pn, pa, pz, pe, sl, S, sc, t, lt⟩).toArray = #[.int .i64 k, .int .i64 pn, .int .i64 pa, .int .i64 pz, .bool pe, .slice sl S.length sc, .int .i64 t, .int .i64 lt] := rfl
      rw [hcs] at HBX
      obtain ⟨SN, hSN⟩ : ∃ SN, S.length = SN := ⟨_, rfl⟩
      have HSN : Aside _ := hSN
      rw [hSN] at q5 hsl HBX
      have e8 : wr.heap.size + 1 = (wr.alloc (.cells #[.int .i64 k, .int .i64 pn, .int .i64 pa, .int .i64 pz, .bool pe, .slice sl SN sc, .int .i64 t, .int .i64 lt] 32)).heap.size := by simp
      obtain ⟨W3, hW3⟩ : ∃ W3, wr.alloc (.cells #[.int .i64 k, .int .i64 pn, .int .i64 pa, .int .i64 pz, .bool pe, .slice sl SN sc, .int .i64 t, .int .i64 lt] 32) = W3 := ⟨_, rfl⟩
      unfold rv at HBX
      rw [hW3] at HBX e8
      obtain ⟨W4, hW4⟩ : ∃ W4, W3.alloc (.cells #[.slice none 0 0, .slice none 0 0, .int .i64 0, .int .i64 0] 40) = W4 := ⟨_, rfl⟩
      rw [hW4] at HBX
      have b7 := HBX.b7
      rw [hcs, hSN] at b7
      have b0 : W4.cell? ⟨wr.heap.size, 0, none⟩ = some (.int .i64 k) := by simp [World.cell?, b7]
      have B7 : Aside _ := b7
      have HB : Aside _ := HBX
      subst hla
      clear HBX b7 hcs hSN
      have i0 : (i : Int) < N := by omega
      have iw : IntKind.i64.wrap ((i : Int) + 1) = (i : Int) + 1 := wrp _ (by omega) (by omega)
      have e8' := e8.symm
      have HHB : Aside _ := hb
      have HHN : Aside _ := hn
      clear e8 hb hn HS
      go_upto_block 2 with fail
      clear hW3 hW4 q0 q1 q2 q3 q4 q5 q6 q7 e8'
      generalize wr.heap.size + 1 = B8 at *
      generalize wr.heap.size = B7' at *
      subst hAB
      go_cut [4] (fun s4 wx => ∃ b' : Int, s4 = .int .i64 b' ∧ Aside (Cu w A.b B8 i o c D b' wx))
      case first =>
        by_cases hk0 : k = 0
        · subst hk0
          have b1 : W4.cell? ⟨B7', 1, none⟩ = some (.int .i64 pn) := by simp [World.cell?, B7.out]
          have b2 : W4.cell? ⟨B7', 2, none⟩ = some (.int .i64 pa) := by simp [World.cell?, B7.out]
          have b3 : W4.cell? ⟨B7', 3, none⟩ = some (.int .i64 pz) := by simp [World.cell?, B7.out]
          have b4 : W4.cell? ⟨B7', 4, none⟩ = some (.bool pe) := by simp [World.cell?, B7.out]
          have hsn := sent_c HB.out.s.lg HB.out.s.ok (by omega) (by have := HB.out.s.m; omega) ⟨pn, pa, pz, pe⟩
          go_wp2_with fail
          refine hsn.mono ?_
          intro e W5 hr
          obtain ⟨rfl, h7, hno, hyes⟩ := act_sent HB.out (by omega) hr
          simp only [ActR.cs, HSN.out] at h7
          clear hr hsn b0 b1 b2 b3 b4
          by_cases hz : snt L ⟨pn, pa, pz, pe⟩ = 0
          · obtain ⟨hC, z0, z1⟩ := hyes hz
            have HC : Aside _ := hC
            have c3 : W5.cell? ⟨B7', 3, none⟩ = some (.int .i64 pz) := by simp [World.cell?, h7]
            have ib : IntKind.i64.wrap (b + pz) = b + pz := wrp _ (by simp only at z0; omega) (by simp only at z1; omega)
            rw [hz]
            clear hno hyes hC h7 hz
            go_wp2_with fail
            go_meet
            exact ⟨_, rfl, by rw [HHB.out]; exact HC.out⟩
          · have HC : Aside _ := hno hz
            clear hno hyes h7
            generalize snt L ⟨pn, pa, pz, pe⟩ = x at *
            go_wp2_with fail
            go_meet
            exact ⟨_, rfl, by rw [HHB.out]; exact HC.out⟩
        by_cases hk1 : k = 1
        · subst hk1
          have b5 : W4.cell? ⟨B7', 5, none⟩ = some (.slice sl SN sc) := by simp [World.cell?, B7.out]
          have b6 : W4.cell? ⟨B7', 6, none⟩ = some (.int .i64 t) := by simp [World.cell?, B7.out]
          have b7 : W4.cell? ⟨B7', 7, none⟩ = some (.int .i64 lt) := by simp [World.cell?, B7.out]
          have hac := HB.out.acked (by omega) (by show S.length ≤ _; rw [HSN.out]; omega) t lt
          simp only [HSN.out] at hac
          go_wp2_with fail
          refine hac.mono ?_
          rintro e W5 ⟨o1, n1, c1, o2, n2, c2, s1, s2, x, rfl, h8, hC⟩
          have HC : Aside _ := hC
          clear hC hac b0 b5 b6 b7
          go_wp2_with (refine wpList_store_row rfl 40 _ _ rfl B8 (rv o1 n1 c1 o2 n2 c2 s1 s2) rfl rfl 40 _ h8 (by kernel_rfl) rfl (rv_one _ _ _ _ _ _ _ _) ?_)
          go_meet
          exact ⟨_, rfl, by rw [HHB.out]; exact HC.out⟩
        by_cases hk2 : k = 2
        · subst hk2
          have b6 : W4.cell? ⟨B7', 6, none⟩ = some (.int .i64 t) := by simp [World.cell?, B7.out]
          have b7 : W4.cell? ⟨B7', 7, none⟩ = some (.int .i64 lt) := by simp [World.cell?, B7.out]
          have hac := HB.out.passed t lt
          go_wp2_with fail
          refine hac.mono ?_
          rintro e W5 ⟨o1, n1, c1, o2, n2, c2, s1, s2, x, rfl, h8, hC⟩
          have HC : Aside _ := hC
          clear hC hac b0 b6 b7
          go_wp2_with (refine wpList_store_row rfl 40 _ _ rfl B8 (rv o1 n1 c1 o2 n2 c2 s1 s2) rfl rfl 40 _ h8 (by kernel_rfl) rfl (rv_one _ _ _ _ _ _ _ _) ?_)
          go_meet
          exact ⟨_, rfl, by rw [HHB.out]; exact HC.out⟩
        by_cases hk3 : k = 3
        · subst hk3
          have hcl := clear_c HB.out.s.lg HB.out.s.ok
          go_wp2_with fail
          refine hcl.mono ?_
          intro e W5 hr
          obtain ⟨o1, n1, c1, rfl, k1, k2, hC⟩ := act_clear HB.out hr
          have HC : Aside _ := hC
          clear hC hcl hr b0
          go_wp2_with fail
          go_meet
          exact ⟨_, rfl, by rw [HHB.out]; exact HC.out⟩
        · go_wp2_with fail
          go_meet
          exact ⟨_, rfl, by rw [HHB.out]; exact cu_none HB.out⟩
      case rest =>
      obtain ⟨b', rfl, HC⟩ := hcut
      clear HB B7 HHB hbb
      have hn := HHN.out
      obtain ⟨A2, L2, P, o1, n1, c1, o2, n2, c2, g, off, c', Y, g2, off2, c3, Z, hAb, hW, hF, hz, hlen, k0, k1, hap1, hap2, hbY, hbZ, hpZ⟩ := HC.out.two (by omega)
      have HAP1 : Aside _ := hap1
      have HAP2 : Aside _ := hap2
      have HF : Aside _ := hF
      have HS0 : Aside (wc.cell? ⟨B8, 0, none⟩ = some (.slice o1 n1 c1) ∧ wc.cell? ⟨B8, 1, none⟩ = some (.slice o2 n2 c2)) := ⟨k0, k1⟩
      have HSA : Aside (((wc.drew.alloc (.cells #[] 29)).cell? ⟨B8, 0, none⟩ = some (.slice o1 n1 c1)) ∧ ((wc.drew.alloc (.cells #[] 29)).cell? ⟨B8, 1, none⟩ = some (.slice o2 n2 c2))) := ⟨cell_bel (w := wc.drew) k0 (bel1 wc.drew _), cell_bel (w := wc.drew) k1 (bel1 wc.drew _)⟩
      have HSY : Aside ((Y.cell? ⟨B8, 0, none⟩ = some (.slice o1 n1 c1)) ∧ (Y.cell? ⟨B8, 1, none⟩ = some (.slice o2 n2 c2))) := ⟨cell_bel k0 hbY, cell_bel k1 hbY⟩
      have HSZ : Aside ((Z.cell? ⟨B8, 0, none⟩ = some (.slice o1 n1 c1)) ∧ (Z.cell? ⟨B8, 1, none⟩ = some (.slice o2 n2 c2))) := ⟨cell_bel k0 hbZ, cell_bel k1 hbZ⟩
      have hWZ := hW.below hbZ
      have HO0 : Aside (Ok' w A.b i P (some ⟨g2, off2, none⟩) c3 0 n c b' o D L2 Z) := ⟨A2, hAb, by simpa using hWZ, hpZ, by omega, by simpa using hz⟩
      have hDl : n ≤ 4000000000000 := by have := hF.len; omega
      have hPl : P.length ≤ 4000000000000 := by have := hF.len; omega
      have hag := again_c hWZ.td hpZ (by omega) hPl hF.fr.old hF.fr.one
      rw [← hn, hlen] at hag
      have HLEN : Aside _ := hlen
      clear HC hap1 hap2 hbY hbZ hpZ hW hWZ hF hz hlen k0 k1 hPl hn
      go_wp2_with fail

      refine wp_region_held_drew (S := fun X => X.cell? ⟨B8, 0, none⟩ = some (.slice o1 n1 c1) ∧ X.cell? ⟨B8, 1, none⟩ = some (.slice o2 n2 c2)) (by kernel_rfl) HS0.out (fun hHeld => ?_)
      refine wpAnyH_take (i := 1) (v := .pointer (some ⟨B8, 0, none⟩)) rfl (by kernel_rfl) (by kernel_rfl) (by kernel_rfl) (fun _ _ _ h => h) (Or.inl ⟨by rfl, by intro w hs; go_simp⟩) hHeld ?_
      refine norm_any' (fun K hK => ?_)
      go_simp
      refine hK _ _ ?_
      clear hK K
      refine wpAnyH_take (i := 2) (v := .slice o1 n1 c1) rfl (by kernel_rfl) (by kernel_rfl) (by kernel_rfl) (fun _ _ _ h => h) (Or.inl ⟨by rfl, by rintro w ⟨s0, s1⟩; go_simp⟩) hHeld ?_
      refine norm_any' (fun K hK => ?_)
      go_simp
      refine hK _ _ ?_
      clear hK K
      refine wpAnyH_take (i := 4) (v := .pointer (some ⟨B8, 1, none⟩)) rfl (by kernel_rfl) (by kernel_rfl) (by kernel_rfl) (fun _ _ _ h => h) (Or.inl ⟨by rfl, by intro w hs; go_simp⟩) hHeld ?_
      refine norm_any' (fun K hK => ?_)
      go_simp
      refine hK _ _ ?_
      clear hK K
      refine wpAnyH_take (i := 5) (v := .slice o2 n2 c2) rfl (by kernel_rfl) (by kernel_rfl) (by kernel_rfl) (fun _ _ _ h => h) (Or.inl ⟨by rfl, by rintro w ⟨s0, s1⟩; go_simp⟩) hHeld ?_
      refine norm_any' (fun K hK => ?_)
      go_simp
      refine hK _ _ ?_
      clear hK K
      refine wpAnyH_ready (rs := [0]) (by kernel_rfl) (by simp) (AllReadyH.cons rfl (fun K hK => ?_) AllReadyH.nil)
      go_simp
      skip
      refine hK.out _ _ HSA.out (fun hHeld => ?_)
      clear hK K
      refine norm_any' (fun K hK => ?_)
      go_simp
      refine hK _ _ ?_
      clear hK K
      refine wpAnyH_ready (rs := [3]) (by kernel_rfl) (by simp) (AllReadyH.cons rfl (fun K hK => ?_) AllReadyH.nil)
      refine step_append_g (by rfl) _ _ 38 38 rfl _ _ (by rfl) (by rfl) HAP1.out ?_
      refine hK.out _ _ HSY.out (fun hHeld => ?_)
      clear hK K
      refine norm_any' (fun K hK => ?_)
      go_simp
      refine hK _ _ ?_
      clear hK K
      refine wpAnyH_ready (rs := [6]) (by kernel_rfl) (by simp) (AllReadyH.cons rfl (fun K hK => ?_) AllReadyH.nil)
      refine step_append_g (by rfl) _ _ 38 38 rfl _ _ (by rfl) (by rfl) HAP2.out ?_
      refine hK.out _ _ HSZ.out (fun hHeld => ?_)
      clear hK K
      refine norm_any' (fun K hK => ?_)
      go_simp
      refine hK _ _ ?_
      clear hK K
      refine wpAnyH_take (i := 7) (v := .slice (some ⟨g2, off2, none⟩) (n1 + n2) c3) rfl (by kernel_rfl) (by kernel_rfl) (by kernel_rfl) (fun _ _ _ h => h) (Or.inl ⟨by rfl, by intro w hs; go_simp⟩) hHeld ?_
      refine norm_any' (fun K hK => ?_)
      go_simp
      refine hK _ _ ?_
      clear hK K
      refine wpAnyH_done (by kernel_rfl) ?_ _
      clear hHeld

      clear HSA HSY HSZ HS0 HAP1 HAP2
      go_wp2_with fail
      refine hag.mono ?_
      rintro e Z2 ⟨rfl, hbz⟩
      have HO1 : Aside (Ok' w A.b i P (some ⟨g2, off2, none⟩) c3 0 n c b' o D L2 Z2) := by
        obtain ⟨A2, h1, h2, h3, h4, h5⟩ := HO0.out
        exact ⟨A2, h1, h2.below hbz, h3.bel hbz, h4, h5⟩
      clear hbz hag HO0
      obtain ⟨NP, hNP⟩ : ∃ NP, n1 + n2 = NP := ⟨_, rfl⟩
      rw [hNP] at HLEN
      have hNPi : ((n1 : Int) + n2) = NP := by omega
      have hNPb : NP + n ≤ 4000000000000 := by have h1 := HF.out.len; have h2 := HLEN.out; have h3 := HHN.out; omega
      simp only [hNP]
      clear hNP
      go_wp2_with fail
      go_loopg [4, 5, 10] NP (fun kx s4 s5 s10 wr => ∃ (k n' c' : Nat) (b : Int) (o : Option Addr), s4 = .int .i64 b ∧ s5 = .slice o n' c' ∧ s10 = .int .i64 (k : Int) ∧ k ≤ NP ∧ NP - k ≤ kx ∧ n' = n + k ∧ Aside (Ok' w A.b i P (some ⟨g2, off2, none⟩) c3 k n' c' b o D L2 wr))
      case atStart => exact ⟨0, n, c, b', o, rfl, rfl, rfl, by omega, by omega, rfl, HO1.out⟩
      case round =>
        clear HO1
        obtain ⟨k, n', c', b, o, rfl, rfl, rfl, hk, hgk2, hn', HO⟩ := hrel
        have HNK : Aside _ := hn'
        have hnb : n' ≤ 4000000000000 := by omega
        clear hn'
        by_cases hkt : k < NP
        · have hkP : k < P.length := by rw [HLEN.out]; exact hkt
          obtain ⟨ga, oa, hga, p0, -, p2, -⟩ := (show Pr _ _ _ _ from (by obtain ⟨_, _, _, h3, _⟩ := HO.out; exact h3)).cells hkP
          injection hga with hga
          injection hga with hg1 hg2
          subst hg1 hg2
          obtain ⟨g', off', c2', w3, hap, hO3⟩ := ok_push HO.out hkP (by omega)
          obtain ⟨g'', o'', hga', -, -, p2', -⟩ := (show Pr _ _ _ _ from (by obtain ⟨_, _, _, h3, _⟩ := hO3; exact h3)).cells hkP
          injection hga' with hga'
          injection hga' with hg1 hg2
          subst hg1 hg2
          have bb := ok_bound HO.out HF.out (by omega)
          have pok := HF.out.pk _ (List.getElem_mem hkP)
          have z0 := pok.s0
          have z1 := pok.s1
          have HAP : Aside _ := hap 62
          have HO3 : Aside _ := hO3
          clear hap hO3 pok
          generalize P[k] = x at *
          obtain ⟨xn, xa, xz, xe⟩ := x
          simp only at p0 p2 p2' z0 z1
          have j0 : (k : Int) < NP := by omega
          have jw : IntKind.i64.wrap ((k : Int) + 1) = (k : Int) + 1 := wrp _ (by omega) (by omega)
          have jb : IntKind.i64.wrap (b - xz) = b - xz := wrp _ (by omega) (by omega)
          clear HO
          go_wp2_with (refine appr rfl _ _ 62 62 rfl _ _ rfl rfl HAP.out (Hid.out ?_))
          refine mkHid ?_
          go_wp2
          go_roundg (NP - (k + 1))
          case measure => omega
          case rel => exact ⟨k + 1, n' + 1, c2', _, _, rfl, rfl, rfl, by omega, Nat.le_refl _, by have := HNK.out; omega, HO3.out⟩
        · obtain rfl : k = NP := by omega
          have j0 : ¬ (k : Int) < k := by omega
          have hO := HO.out
          rw [← HLEN.out] at hO
          obtain ⟨hbz, hQ, A3, hA3, hl3⟩ := ok_end hO HF.out
          have hfl := flight_c hl3
          rw [← hbz, hA3] at hfl
          have HQ3 : Aside _ := hQ
          clear hO HO hbz hQ hl3
          go_wp2_with fail
          refine hfl.mono ?_
          rintro e W6 ⟨rfl, hb6⟩
          have HQ6 : Aside (Oq w A.b (i + 1) n' c' b o W6) := by
            obtain ⟨A4, L4, D4, h1, h2, h3⟩ := HQ3.out
            exact ⟨A4, L4, D4, h1, h2.below hb6, h3⟩
          clear hb6 HQ3 hfl
          go_wp2
          go_roundg (N - (i + 1))
          case measure => omega
          case rel => exact ⟨i + 1, n', c', b, o, rfl, rfl, rfl, by omega, Nat.le_refl _, HQ6.out⟩
    · obtain rfl : i = N := by omega
      have i0 : ¬ (i : Int) < i := by omega
      obtain ⟨A, L, D, hAB, hW, hF, hn, hb⟩ := HS.out
      have hcl := clear_c hW.lg hW.ok
      have HE : Aside (∀ e X, ClR wr A L e X → ∃ (o1 : Option Addr) (n1 c1 : Nat), e = .returned (.slice o1 n1 c1) ∧ Below w.heap.size w X ∧ Nr X o c D ∧ Pr X o1 c1 (ons L.O) ∧ n1 = (ons L.O).length) := by
        rintro e X ⟨A', o1, c1, rfl, hm, hl2, hs, p1, _⟩
        have h2 := hW.step hl2 (clr_ok hW.ok) hs (by rw [hm]; exact hW.m)
        exact ⟨o1, _, c1, rfl, h2.bel, h2.td, p1, rfl⟩
      have hzs : b = ssum (ons L.O) := by rw [hb, hW.ok.z, zs_ons]
      have HFR : Aside ((∀ p ∈ ons L.O, p.n ∉ D) ∧ ((ons L.O).map fun p => p.n).Nodup ∧ (∀ p ∈ ons L.O, p.ok) ∧ (ons L.O).length ≤ 4000000000000 ∧ D.length ≤ 4000000000000) := by
        have hlen := hF.len
        simp only [List.length_nil] at hlen
        refine ⟨fun p hp hd => hF.fr.keep _ hd (List.mem_map_of_mem hp), ons_nodup hW.ok.fit.rise, fun p hp => ?_, by omega, by omega⟩
        obtain ⟨x, hx, rfl⟩ := mem_ons hp
        exact hW.ok.fit.pk x hx
      subst hAB
      have HHN : Aside _ := hn
      clear hW hF HS hn hb
      have HHZ : Aside _ := hzs
      clear hzs
      go_wp2_with fail
      refine hcl.mono ?_
      intro e X hr
      obtain ⟨o1, n1, c1, rfl, hbX, htd, hp1, hn1⟩ := HE.out e X hr
      clear hr HE hcl
      obtain ⟨Q, hQ⟩ : ∃ Q, ons L.O = Q := ⟨_, rfl⟩
      rw [hQ] at hp1 hn1 HHZ HFR
      clear hQ
      have HP1 : Aside (Pr X o1 c1 Q) := hp1
      have HBX : Aside _ := hbX
      have HTD : Aside _ := htd
      have HN1 : Aside _ := hn1
      have hn1b : n1 ≤ 4000000000000 := by rw [hn1]; exact HFR.out.2.2.2.1
      have HZ0 : Aside (b = ssum (Q.drop 0)) := by show b = _; rw [List.drop_zero]; exact HHZ.out
      clear hp1 hbX htd hn1 HHZ
      go_wp2_with fail
      go_loopg [4, 15] n1 (fun kx s4 s15 wr => ∃ (k : Nat) (b : Int), s4 = .int .i64 b ∧ s15 = .int .i64 (k : Int) ∧ k ≤ n1 ∧ n1 - k ≤ kx ∧ Aside (wr = X ∧ b = ssum (Q.drop k)))
      case atStart => exact ⟨0, b, rfl, rfl, by omega, by omega, rfl, HZ0.out⟩
      case round =>
        clear HZ0 hbb
        obtain ⟨k, b, rfl, rfl, hk, hgk2, HO⟩ := hrel
        obtain ⟨hwr, hbs⟩ := HO.out
        subst hwr
        have hsb := ssum_bound (P := Q.drop k) fun p hq => HFR.out.2.2.1 p (List.mem_of_mem_drop hq)
        rw [List.length_drop, ← hbs] at hsb
        by_cases hkt : k < n1
        · have hkP : k < Q.length := by rw [← HN1.out]; exact hkt
          obtain ⟨ga, oa, hga, p0, -, p2, -⟩ := Pr.cells HP1.out hkP
          have pok := HFR.out.2.2.1 _ (List.getElem_mem hkP)
          have z0 := pok.s0
          have z1 := pok.s1
          have hQl := HFR.out.2.2.2.1
          have HS2 : Aside (ssum (Q.drop k) = Q[k].s + ssum (Q.drop (k + 1))) := by
            show ssum (Q.drop k) = _
            rw [List.drop_eq_getElem_cons hkP]; rfl
          generalize Q[k] = x at *
          obtain ⟨xn, xa, xz, xe⟩ := x
          simp only at p0 p2 z0 z1
          subst hga
          have j0 : (k : Int) < n1 := by omega
          have jw : IntKind.i64.wrap ((k : Int) + 1) = (k : Int) + 1 := wrp _ (by omega) (by omega)
          have jb : IntKind.i64.wrap (b - xz) = b - xz := wrp _ (by omega) (by omega)
          have HBS : Aside _ := hbs
          clear hbs HO hsb pok
          go_wp2
          go_roundg (n1 - (k + 1))
          case measure => omega
          case rel => exact ⟨k + 1, _, rfl, rfl, by omega, Nat.le_refl _, rfl, by rw [HBS.out, HS2.out]; omega⟩
        · obtain rfl : k = n1 := by omega
          have j0 : ¬ (k : Int) < k := by omega
          have hb0 : b = 0 := by rw [hbs, HN1.out, List.drop_length]; rfl
          subst hb0
          have hag := again_c HTD.out HP1.out HFR.out.2.2.2.2 HFR.out.2.2.2.1 HFR.out.1 HFR.out.2.1
          rw [← HHN.out, ← HN1.out] at hag
          clear hbs HO hsb
          go_wp2_with fail
          refine hag.mono ?_
          rintro e X2 ⟨rfl, hb2⟩
          have HF2 : Aside _ := HR.out X2 (HBX.out.trans (hb2.mono HBX.out.size))
          clear hag hb2
          go_wp2
          exact HF2.out
end Go.Proofs.Ytkjcapmhjhnckaa
