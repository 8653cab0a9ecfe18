/- The law's same: two messages of like fields. -/
import Derived.Test.YtcchlicokglmnaaBh
import Derived.Deep.MidRow
namespace Go.Proofs.Ytcchlicokglmnaa
open Go.ChangeShapes Go.WideShapes Go.ChangeAt Go.RowKit Go.Lib
set_option linter.unusedVariables false

theorem su22 : Try.prog.underlying 22 = some (.array 16 5) := by kernel_rfl
theorem si22 : (Try.prog.info? 22).map (·.size) = some 16 := by kernel_rfl
theorem su23 : Try.prog.underlying 23 = some (.array 16 5) := by kernel_rfl
theorem si23 : (Try.prog.info? 23).map (·.size) = some 16 := by kernel_rfl
theorem ldh {ops : Array Oper} {rest : List Oper} {o : Oper} {a : Act} {w : World} {Q : Exit → Act → World → Prop} (t : TypeId) (ht : t = 22 ∨ t = 23) (hw : Region.wanted o (yielded ops a.tmps) = true) (x : Operand) (ho : o.op = .load t x) (b off : Nat) (hx : a.eval x = .pointer (some ⟨b, off, none⟩)) (l : List UInt8) (hl : l.length = 16) (hc : w.rangeAt b off (bc l))
    (h : wpList Try.prog ops Q rest (a.put o.dst (.agg (bc l).toArray)) w) : wpList Try.prog ops Q (o :: rest) a w :=
  wpList_step fun K hK => by
    simp only [hw, if_true]
    rcases ht with rfl | rfl
    · exact wp_load_mid 22 x ho b off hx (bc l) _ hc su22 rfl (si22.trans (by simp [bc, hl])) (hK _ _ h)
    · exact wp_load_mid 23 x ho b off hx (bc l) _ hc su23 rfl (si23.trans (by simp [bc, hl])) (hK _ _ h)
theorem eqh (l : List UInt8) (hl : l.length = 16) (w : World) : (Op.equalIn 10000 23 (.agg (bc l).toArray) (.agg (bc l).toArray)).run Try.prog w = .ok true w := by
  have := equalIn_h 23 su23 9998 l l hl hl w
  rw [show (l == l) = true by simp] at this
  exact this
theorem cell_m {W : World} {M t j : Nat} {m : Msg} {x : Value} (hr : W.heap[M]? = some (.cells m.cells.toArray t (0, 0))) (hj : m.cells[j]? = some x) : W.cell? ⟨M, j, none⟩ = some x := by
  unfold World.cell?
  simp only [hr]
  simpa using hj
theorem str_m {w : World} {ao : Option Addr} {l : List UInt8} {c : Nat} (hs : Sl w ao l) (hn : ao = none → l.length = 0 ∧ c = 0) : (convert 25 9 (.slice ao l.length c)).run Try.prog w = .ok (.string ⟨l.toArray⟩) w := str_any hs rfl hn
set_option maxRecDepth 100000 in
set_option maxHeartbeats 2000000 in
theorem same_c (m n : Msg) (w : World) (hm : m.ok w) (hn : n.ok w) (e0 : m.kind = n.kind) (e1 : m.random = n.random) (e2 : m.share = n.share) (e3 : m.name = n.name) (e4 : m.protos = n.protos) (e5 : m.params = n.params) (e6 : m.ticket = n.ticket) (e7 : m.binder = n.binder) (e8 : m.early = n.early) (e9 : m.again = n.again) (e10 : m.mark = n.mark) (e11 : m.life = n.life) :
    Calls Try.prog 15 #[.agg m.cells.toArray, .agg n.cells.toArray] w fun e w' => e = .returned (.bool true) ∧ Below w.heap.size w w' := by
  have a1 := heap_alloc_new w (.cells m.cells.toArray 27)
  have b1 := bl1 w (.cells m.cells.toArray 27)
  have b2 := bl1 (w.alloc (.cells m.cells.toArray 27)) (.cells n.cells.toArray 34)
  have a2 := heap_alloc_new (w.alloc (.cells m.cells.toArray 27)) (.cells n.cells.toArray 34)
  have hbb : Below w.heap.size w ((w.alloc (.cells m.cells.toArray 27)).alloc (.cells n.cells.toArray 34)) := b1.trans (b2.mono b1.size)
  have R1 : ((w.alloc (.cells m.cells.toArray 27)).alloc (.cells n.cells.toArray 34)).heap[w.heap.size]? = some (.cells m.cells.toArray 27 (0, 0)) := (b2.block _ (lt_block a1)).trans a1
  have R2 : ((w.alloc (.cells m.cells.toArray 27)).alloc (.cells n.cells.toArray 34)).heap[w.heap.size + 1]? = some (.cells n.cells.toArray 34 (0, 0)) := by simpa using a2
  have hm' := hm.bel hbb
  have hn' := hn.bel hbb
  have HB : Hid _ := hbb
  clear a1 a2 b1 b2 hbb hm hn
  have q1 := Msg.get hm'.ln
  have q2 := Msg.get hn'.ln
  have s1 := Msg.hs hm'.ln R1
  have s2 := Msg.hs hn'.ln R2
  have HA1 : Hid _ := s1.1.range
  have HA2 : Hid _ := s1.2.1.range
  have HA3 : Hid _ := s1.2.2.1.range
  have HA4 : Hid _ := s1.2.2.2.range
  have HB1 : Hid _ := s2.1.range
  have HB2 : Hid _ := s2.2.1.range
  have HB3 : Hid _ := s2.2.2.1.range
  have HB4 : Hid _ := s2.2.2.2.range
  rw [← e1] at HB1
  rw [← e2] at HB2
  rw [← e7] at HB3
  rw [← e10] at HB4
  have c0 := cell_m R1 q1.1
  have c33 := cell_m R1 q1.2.1
  have c34 := cell_m R1 q1.2.2.1
  have c35 := cell_m R1 q1.2.2.2.1
  have c36 := cell_m R1 q1.2.2.2.2.1
  have c53 := cell_m R1 q1.2.2.2.2.2.1
  have c54 := cell_m R1 q1.2.2.2.2.2.2.1
  have c71 := cell_m R1 q1.2.2.2.2.2.2.2
  have d0 := cell_m R2 q2.1
  have d33 := cell_m R2 q2.2.1
  have d34 := cell_m R2 q2.2.2.1
  have d35 := cell_m R2 q2.2.2.2.1
  have d36 := cell_m R2 q2.2.2.2.2.1
  have d53 := cell_m R2 q2.2.2.2.2.2.1
  have d54 := cell_m R2 q2.2.2.2.2.2.2.1
  have d71 := cell_m R2 q2.2.2.2.2.2.2.2
  rw [← e0] at d0
  rw [← e3] at d33
  rw [← e4] at d34
  rw [← e5] at d35
  rw [← e6] at d36
  rw [← e8] at d53
  rw [← e9] at d54
  rw [← e11] at d71
  have sp := str_m hm'.pa hm'.pn
  have st := str_m hm'.ti hm'.tn
  have sp' := str_m hn'.pa hn'.pn
  have st' := str_m hn'.ti hn'.tn
  rw [← e5] at sp'
  rw [← e6] at st'
  have HN1 : Hid _ := hm'.nm
  have HN2 : Hid (Nms ((w.alloc (.cells m.cells.toArray 27)).alloc (.cells n.cells.toArray 34)) n.po m.protos) := by show Nms _ _ _; rw [e4]; exact hn'.nm
  have HP63 : Hid (m.protos.length ≤ 9223372036854775807) := hm'.p63
  have lr := hm'.ln.r
  have ls := hm'.ln.s
  have lb := hm'.ln.b
  have lk := hm'.ln.k
  have qr := eqh m.random lr
  have qs := eqh m.share ls
  have qb := eqh m.binder lb
  have qk := eqh m.mark lk
  clear e0 e1 e2 e3 e4 e5 e6 e7 e8 e9 e10 e11 q1 q2 s1 s2 hm' hn' R1 R2
  generalize m.cells.toArray = MC at *
  generalize n.cells.toArray = NC at *
  obtain ⟨kind, random, share, name, po, protos, pc, ao, params, ac, to, ticket, tc, binder, early, again, mark, life⟩ := m
  obtain ⟨nkind, nrandom, nshare, nname, npo, nprotos, npc, nao, nparams, nac, nto, nticket, ntc, nbinder, nearly, nagain, nmark, nlife⟩ := n
  simp only at *
  obtain ⟨PN, hPN⟩ : ∃ PN, protos.length = PN := ⟨_, rfl⟩
  go_enter Try.func15, Try.ntmps15
  go_wp2_with (first
    | refine ldh 23 (.inr rfl) (by rfl) (.tmp 12) rfl w.heap.size 1 rfl random lr HA1.out ?_
    | refine ldh 22 (.inl rfl) (by rfl) (.tmp 14) rfl (w.heap.size + 1) 1 rfl random lr HB1.out ?_
    | refine ldh 23 (.inr rfl) (by rfl) (.tmp 19) rfl w.heap.size 17 rfl share ls HA2.out ?_
    | refine ldh 22 (.inl rfl) (by rfl) (.tmp 21) rfl (w.heap.size + 1) 17 rfl share ls HB2.out ?_)
  generalize (w.alloc (.cells MC 27)).alloc (.cells NC 34) = W at *
  have CB : Hid (∀ (X : World), Below W.heap.size W X → ∀ (b j : Nat) (v : Value), W.cell? ⟨b, j, none⟩ = some v → X.cell? ⟨b, j, none⟩ = some v) := fun X hb b j v h => (World.cell?_of_block (a := ⟨b, j, none⟩) (hb.block b (World.block_lt_of_cell? W _ h))).trans h
  rw [hPN] at c34 d34
  have C34 : Hid _ := c34
  have D34 : Hid _ := d34
  have C53 : Hid _ := c53
  have C54 : Hid _ := c54
  have C71 : Hid _ := c71
  have D53 : Hid _ := d53
  have D54 : Hid _ := d54
  have D71 : Hid _ := d71
  have HPN : Hid (PN ≤ 9223372036854775807) := by show _ ≤ _; rw [← hPN]; exact HP63.out
  have HPL : Hid (protos.length = PN) := hPN
  have QB : Hid _ := qb
  have QK : Hid _ := qk
  clear c0 c33 c34 c35 c36 c53 c54 c71 d0 d33 d34 d35 d36 d53 d54 d71 sp st sp' st' qr qs qb qk hPN HP63 HA1 HA2 HB1 HB2
  go_loopg [5] (PN + 1) (fun kx s5 wr => ∃ j : Nat, s5 = .int .i64 (j : Int) ∧ j ≤ PN ∧ PN - j ≤ kx ∧ Hid (Below W.heap.size W wr))
  case atStart => exact ⟨0, rfl, by omega, by omega, Below.refl _ _⟩
  case round =>
    obtain ⟨j, rfl, hj, hkx, HBW⟩ := hrel
    by_cases hlt : j < PN
    · have j1 : (j : Int) < (PN : Int) := by omega
      have j1' : decide ((j : Int) < (PN : Int)) = true := by simpa using j1
      have j0 : (0 : Int) ≤ (j : Int) := by omega
      have jw : IntKind.i64.wrap ((j : Int) + 1) = ((j + 1 : Nat) : Int) := by have := HPN.out; rw [IntKind.wrap_i64]; omega
      obtain ⟨eb, eo, hpo, hpc⟩ := HN1.out j (by rw [HPL.out]; exact hlt)
      obtain ⟨fb, fo, hqo, hqc⟩ := HN2.out j (by rw [HPL.out]; exact hlt)
      obtain ⟨S, hS⟩ : ∃ S, protos[j]'(by rw [HPL.out]; exact hlt) = S := ⟨_, rfl⟩
      rw [hS] at hpc hqc
      subst hpo
      subst hqo
      have hbd : Below W.heap.size W wr.drew := HBW.out.trans ((bld wr).mono HBW.out.size)
      have c34 := CB.out wr HBW.out _ _ _ C34.out
      have HHD : Hid (wr.drew.cell? ⟨w.heap.size, 34, none⟩ = some (.slice (some ⟨eb, eo, none⟩) PN pc) ∧ wr.drew.cell? ⟨w.heap.size + 1, 34, none⟩ = some (.slice (some ⟨fb, fo, none⟩) PN npc) ∧ wr.drew.cell? ⟨eb, eo + j, none⟩ = some (.string S) ∧ wr.drew.cell? ⟨fb, fo + j, none⟩ = some (.string S)) := ⟨CB.out _ hbd _ _ _ C34.out, CB.out _ hbd _ _ _ D34.out, CB.out _ hbd _ _ _ hpc, CB.out _ hbd _ _ _ hqc⟩
      have HBD : Hid _ := hbd
      clear hpc hqc hS hbd HN1 HN2
      as_aux_lemma =>
      go_wp2_with fail
      refine wp_region_held_drew (S := fun X => X.cell? ⟨w.heap.size, 34, none⟩ = some (.slice (some ⟨eb, eo, none⟩) PN pc) ∧ X.cell? ⟨w.heap.size + 1, 34, none⟩ = some (.slice (some ⟨fb, fo, none⟩) PN npc) ∧ X.cell? ⟨eb, eo + j, none⟩ = some (.string S) ∧ X.cell? ⟨fb, fo + j, none⟩ = some (.string S)) (by kernel_rfl) HHD.out (fun hHeld => ?_)
      generalize wr.drew = Y at *
      refine wpAnyH_take (i := 0) (v := .pointer (some ⟨w.heap.size, 34, none⟩)) rfl (by kernel_rfl) (by kernel_rfl) (by kernel_rfl) (fun _ _ _ h => h) (Or.inl ⟨by rfl, by intro w hs; go_simp⟩) hHeld ?_
      refine norm_any' (fun K hK => ?_)
      go_simp
      refine hK _ _ ?_
      clear hK K
      refine wpAnyH_take (i := 1) (v := .slice (some ⟨eb, eo, none⟩) PN pc) rfl (by kernel_rfl) (by kernel_rfl) (by kernel_rfl) (fun _ _ _ h => h) (Or.inl ⟨by rfl, by intro w hs; have q := hs.1; go_simp⟩) hHeld ?_
      refine norm_any' (fun K hK => ?_)
      go_simp
      refine hK _ _ ?_
      clear hK K
      refine wpAnyH_take (i := 2) (v := .int .i64 (j : Int)) rfl (by kernel_rfl) (by kernel_rfl) (by kernel_rfl) (fun _ _ _ h => h) (Or.inl ⟨by rfl, by intro w hs; go_simp⟩) hHeld ?_
      refine norm_any' (fun K hK => ?_)
      go_simp
      refine hK _ _ ?_
      clear hK K
      refine wpAnyH_take (i := 3) (v := .pointer (some ⟨eb, eo + j, none⟩)) rfl (by kernel_rfl) (by kernel_rfl) (by kernel_rfl) (fun _ _ _ h => h) (Or.inl ⟨by rfl, by intro w hs; go_simp⟩) hHeld ?_
      refine norm_any' (fun K hK => ?_)
      go_simp
      refine hK _ _ ?_
      clear hK K
      refine wpAnyH_take (i := 4) (v := .string S) rfl (by kernel_rfl) (by kernel_rfl) (by kernel_rfl) (fun _ _ _ h => h) (Or.inl ⟨by rfl, by intro w hs; have q := hs.2.2.1; go_simp⟩) hHeld ?_
      refine norm_any' (fun K hK => ?_)
      go_simp
      refine hK _ _ ?_
      clear hK K
      refine wpAnyH_take (i := 5) (v := .pointer (some ⟨w.heap.size + 1, 34, none⟩)) rfl (by kernel_rfl) (by kernel_rfl) (by kernel_rfl) (fun _ _ _ h => h) (Or.inl ⟨by rfl, by intro w hs; go_simp⟩) hHeld ?_
      refine norm_any' (fun K hK => ?_)
      go_simp
      refine hK _ _ ?_
      clear hK K
      refine wpAnyH_take (i := 6) (v := .slice (some ⟨fb, fo, none⟩) PN npc) rfl (by kernel_rfl) (by kernel_rfl) (by kernel_rfl) (fun _ _ _ h => h) (Or.inl ⟨by rfl, by intro w hs; have q := hs.2.1; go_simp⟩) hHeld ?_
      refine norm_any' (fun K hK => ?_)
      go_simp
      refine hK _ _ ?_
      clear hK K
      refine wpAnyH_take (i := 7) (v := .int .i64 (j : Int)) rfl (by kernel_rfl) (by kernel_rfl) (by kernel_rfl) (fun _ _ _ h => h) (Or.inl ⟨by rfl, by intro w hs; go_simp⟩) hHeld ?_
      refine norm_any' (fun K hK => ?_)
      go_simp
      refine hK _ _ ?_
      clear hK K
      refine wpAnyH_take (i := 8) (v := .pointer (some ⟨fb, fo + j, none⟩)) rfl (by kernel_rfl) (by kernel_rfl) (by kernel_rfl) (fun _ _ _ h => h) (Or.inl ⟨by rfl, by intro w hs; go_simp⟩) hHeld ?_
      refine norm_any' (fun K hK => ?_)
      go_simp
      refine hK _ _ ?_
      clear hK K
      refine wpAnyH_take (i := 9) (v := .string S) rfl (by kernel_rfl) (by kernel_rfl) (by kernel_rfl) (fun _ _ _ h => h) (Or.inl ⟨by rfl, by intro w hs; have q := hs.2.2.2; go_simp⟩) hHeld ?_
      refine norm_any' (fun K hK => ?_)
      go_simp
      refine hK _ _ ?_
      clear hK K
      refine wpAnyH_take (i := 10) (v := .bool false) rfl (by kernel_rfl) (by kernel_rfl) (by kernel_rfl) (fun _ _ _ h => h) (Or.inl ⟨by rfl, by intro w hs; go_simp⟩) hHeld ?_
      refine norm_any' (fun K hK => ?_)
      go_simp
      refine hK _ _ ?_
      clear hK K
      refine wpAnyH_done (by kernel_rfl) ?_ _
      clear hHeld
      go_wp2_with fail
      go_roundg (PN - (j + 1))
      case measure => omega
      case rel => exact ⟨j + 1, rfl, by omega, Nat.le_refl _, HBD.out⟩
    · have j1 : ¬ (j : Int) < (PN : Int) := by omega
      have j1' : decide ((j : Int) < (PN : Int)) = false := by simpa using j1
      have c34 := CB.out wr HBW.out _ _ _ C34.out
      have c53 := CB.out wr HBW.out _ _ _ C53.out
      have c54 := CB.out wr HBW.out _ _ _ C54.out
      have c71 := CB.out wr HBW.out _ _ _ C71.out
      have d53 := CB.out wr HBW.out _ _ _ D53.out
      have d54 := CB.out wr HBW.out _ _ _ D54.out
      have d71 := CB.out wr HBW.out _ _ _ D71.out
      have RB : Hid (∀ (b o : Nat) (cs : List Value), W.rangeAt b o cs → wr.rangeAt b o cs) := fun b o cs h j v hv => CB.out wr HBW.out _ _ _ (h j v hv)
      have HX3 : Hid _ := RB.out _ _ _ HA3.out
      have HX4 : Hid _ := RB.out _ _ _ HA4.out
      have HY3 : Hid _ := RB.out _ _ _ HB3.out
      have HY4 : Hid _ := RB.out _ _ _ HB4.out
      have qb := QB.out
      have qk := QK.out
      have HEND : Hid (Below w.heap.size w wr) := HB.out.trans (HBW.out.mono HB.out.size)
      clear HA3 HA4 HB3 HB4 RB QB QK HN1 HN2
      as_aux_lemma =>
      go_wp2_with (first
        | refine ldh 23 (.inr rfl) (by rfl) (.tmp 77) rfl w.heap.size 37 rfl binder lb HX3.out ?_
        | refine ldh 22 (.inl rfl) (by rfl) (.tmp 79) rfl (w.heap.size + 1) 37 rfl binder lb HY3.out ?_
        | refine ldh 23 (.inr rfl) (by rfl) (.tmp 97) rfl w.heap.size 55 rfl mark lk HX4.out ?_
        | refine ldh 22 (.inl rfl) (by rfl) (.tmp 99) rfl (w.heap.size + 1) 55 rfl mark lk HY4.out ?_)
      go_ret
      exact ⟨rfl, HEND.out⟩
end Go.Proofs.Ytcchlicokglmnaa
