/- The reference's known, protos, may. The reference's may. The reference's may of a client. -/
import Derived.Test.YtcchlicokglmnaaRa
namespace Go.Proofs.Ytcchlicokglmnaa
open Go.ChangeShapes Go.WideShapes Go.ChangeAt Go.RowKit Go.Lib
set_option linter.unusedVariables false

set_option maxRecDepth 10000 in
theorem known_c (k : Int) (w : World) : Calls Try.prog 19 #[.int .i64 k] w fun e w' => e = .returned (.bool (isK k)) ∧ w' = w := by
  have fin : ∀ b, isK k = b → (.returned (.bool b) : Ending) = .returned (.bool (isK k)) := fun b h => by rw [h]
  by_cases h1 : k = 1
  · subst h1
    clear fin
    go_enter Try.func19, Try.ntmps19
    go_wp2_with fail
    go_ret
    exact ⟨rfl, rfl⟩
  have b1 : (k == 1) = false := by simpa using h1
  have d1 : decide (k = 1) = false := by simpa using h1
  by_cases h2 : k = 2
  · subst h2
    clear fin
    go_enter Try.func19, Try.ntmps19
    go_wp2_with fail
    go_ret
    exact ⟨rfl, rfl⟩
  have b2 : (k == 2) = false := by simpa using h2
  have d2 : decide (k = 2) = false := by simpa using h2
  by_cases h4 : k = 4
  · subst h4
    clear fin
    go_enter Try.func19, Try.ntmps19
    go_wp2_with fail
    go_ret
    exact ⟨rfl, rfl⟩
  have b4 : (k == 4) = false := by simpa using h4
  have d4 : decide (k = 4) = false := by simpa using h4
  by_cases h8 : k = 8
  · subst h8
    clear fin
    go_enter Try.func19, Try.ntmps19
    go_wp2_with fail
    go_ret
    exact ⟨rfl, rfl⟩
  have b8 : (k == 8) = false := by simpa using h8
  have d8 : decide (k = 8) = false := by simpa using h8
  by_cases h11 : k = 11
  · subst h11
    clear fin
    go_enter Try.func19, Try.ntmps19
    go_wp2_with fail
    go_ret
    exact ⟨rfl, rfl⟩
  have b11 : (k == 11) = false := by simpa using h11
  have d11 : decide (k = 11) = false := by simpa using h11
  by_cases h15 : k = 15
  · subst h15
    clear fin
    go_enter Try.func19, Try.ntmps19
    go_wp2_with fail
    go_ret
    exact ⟨rfl, rfl⟩
  have b15 : (k == 15) = false := by simpa using h15
  have d15 : decide (k = 15) = false := by simpa using h15
  by_cases h20 : k = 20
  · subst h20
    clear fin
    go_enter Try.func19, Try.ntmps19
    go_wp2_with fail
    go_ret
    exact ⟨rfl, rfl⟩
  have b20 : (k == 20) = false := by simpa using h20
  have d20 : decide (k = 20) = false := by simpa using h20
  have F := mkHid (fin false (by simp [isK, h1, h2, h4, h8, h11, h15, h20]))
  clear fin
  go_enter Try.func19, Try.ntmps19
  go_wp2_with fail
  go_ret
  exact ⟨F.out, rfl⟩
/-- Names that may be. -/
def nmB (S : ByteArray) : Bool := decide (1 ≤ S.size ∧ S.size ≤ 255)
def proB (Ns : List ByteArray) (most : Int) : Bool := Ns.all nmB && decide (1 ≤ Ns.length) && decide ((Ns.length : Int) ≤ most)
set_option maxRecDepth 10000 in
set_option maxHeartbeats 1000000 in
theorem rprotos_c (ao : Option Addr) (cp : Nat) (Ns : List ByteArray) (w : World) (h : Nms w ao Ns) (h63 : Ns.length ≤ 9223372036854775806) (hS63 : ∀ S ∈ Ns, S.size ≤ 9223372036854775807) (most : Int) : Calls Try.prog 32 #[.slice ao Ns.length cp, .int .i64 most] w fun e w' => e = .returned (.bool (proB Ns most)) ∧ w' = w := by
  have HN : Hid (Nms w ao Ns) := h
  obtain ⟨N, hN⟩ : ∃ N, Ns.length = N := ⟨_, rfl⟩
  rw [hN] at h63 ⊢
  have HL : Hid _ := hN
  have HS : Hid _ := hS63
  obtain ⟨pb, hpb⟩ : ∃ pb, pb = proB Ns most := ⟨_, rfl⟩
  rw [← hpb]
  have HP : Hid _ := hpb
  clear h hN hS63 hpb
  go_enter Try.func32, Try.ntmps32
  go_wp2_with fail
  go_loopg [5] (N + 1) (fun kx s5 wr => ∃ i : Nat, s5 = .int .i64 (i : Int) ∧ i ≤ N ∧ N - i ≤ kx ∧ wr = w ∧ Hid ((Ns.take i).all nmB = true))
  case atStart => exact ⟨0, rfl, by omega, by omega, rfl, by show _ = _; simp⟩
  case round =>
    obtain ⟨i, rfl, hi1, hg, rfl, HA⟩ := hrel
    by_cases hlt : i < N
    · have i1 : (i : Int) < (N : Int) := by omega
      have i1' : decide ((i : Int) < (N : Int)) = true := by simpa using i1
      have i0' : (0 : Int) ≤ (i : Int) := by omega
      have iw : IntKind.i64.wrap ((i : Int) + 1) = ((i + 1 : Nat) : Int) := by rw [IntKind.wrap_i64]; omega
      have hl : i < Ns.length := by rw [HL.out]; exact hlt
      obtain ⟨b, off, hao, hcell⟩ := HN.out i hl
      subst hao
      obtain ⟨S, hS⟩ : ∃ S, Ns[i] = S := ⟨_, rfl⟩
      rw [hS] at hcell
      have HNX : Hid ((Ns.take (i + 1)).all nmB = ((Ns.take i).all nmB && nmB S)) := by
        show _ = _
        rw [List.take_succ_eq_append_getElem hl, hS]; simp
      have HIN : Hid (S ∈ Ns) := by show S ∈ Ns; rw [← hS]; exact List.getElem_mem _
      clear hS hl
      by_cases h1 : S.size < 1
      · have c1 : (S.size : Int) < 1 := by omega
        have c1' : decide ((S.size : Int) < 1) = true := by simpa using c1
        have F : Hid (pb = false) := by
          show pb = false
          rw [HP.out]
          have : Ns.all nmB = false := by
            rw [List.all_eq_false]
            exact ⟨S, HIN.out, by simp [nmB]; omega⟩
          simp [proB, this]
        go_wp2_with fail
        go_ret
        exact ⟨by rw [F.out]; rfl, rfl⟩
      · by_cases h2 : 255 < S.size
        · have c1 : ¬ (S.size : Int) < 1 := by omega
          have c1' : decide ((S.size : Int) < 1) = false := by simpa using c1
          have c2 : (255 : Int) < (S.size : Int) := by omega
          have c2' : decide ((255 : Int) < (S.size : Int)) = true := by simpa using c2
          have F : Hid (pb = false) := by
            show pb = false
            rw [HP.out]
            have : Ns.all nmB = false := by
              rw [List.all_eq_false]
              exact ⟨S, HIN.out, by simp [nmB]; omega⟩
            simp [proB, this]
          go_wp2_with fail
          go_ret
          exact ⟨by rw [F.out]; rfl, rfl⟩
        · have c1 : ¬ (S.size : Int) < 1 := by omega
          have c1' : decide ((S.size : Int) < 1) = false := by simpa using c1
          have c2 : ¬ (255 : Int) < (S.size : Int) := by omega
          have c2' : decide ((255 : Int) < (S.size : Int)) = false := by simpa using c2
          have HA2 : Hid ((Ns.take (i + 1)).all nmB = true) := by
            show _ = _
            rw [HNX.out, HA.out]
            simp [nmB]; omega
          go_wp2_with fail
          go_roundg (N - (i + 1))
          case measure => omega
          case rel => exact ⟨i + 1, rfl, by omega, Nat.le_refl _, rfl, HA2.out⟩
    · have i1 : ¬ (i : Int) < (N : Int) := by omega
      have i1' : decide ((i : Int) < (N : Int)) = false := by simpa using i1
      have hall : Ns.all nmB = true := by
        have := HA.out
        rw [show i = Ns.length by rw [HL.out]; omega, List.take_length] at this
        exact this
      by_cases h1 : 1 ≤ N
      · have c1 : (1 : Int) ≤ (N : Int) := by omega
        have c1' : decide ((1 : Int) ≤ (N : Int)) = true := by simpa using c1
        have F : Hid (pb = decide ((N : Int) ≤ most)) := by
          show pb = _
          rw [HP.out]; simp [proB, hall, HL.out, h1]
        generalize hq : decide ((N : Int) ≤ most) = bq at *
        go_wp2_with fail
        go_ret
        exact ⟨by rw [F.out]; rfl, rfl⟩
      · have c1 : ¬ (1 : Int) ≤ (N : Int) := by omega
        have c1' : decide ((1 : Int) ≤ (N : Int)) = false := by simpa using c1
        have F : Hid (pb = false) := by
          show pb = _
          rw [HP.out]
          have : ¬ 1 ≤ Ns.length := by rw [HL.out]; exact h1
          simp [proB, this]
        go_wp2_with fail
        go_ret
        exact ⟨by rw [F.out]; rfl, rfl⟩
end Go.Proofs.Ytcchlicokglmnaa
namespace Go.Proofs.Ytcchlicokglmnaa
open Go.ChangeShapes Go.WideShapes Go.ChangeAt Go.RowKit Go.Lib
set_option linter.unusedVariables false

theorem u22 : Try.prog.underlying 22 = some (.array 16 5) := by kernel_rfl
theorem i22 : (Try.prog.info? 22).map (·.size) = some 16 := by kernel_rfl
theorem ldmg22 {ops : Array Oper} {rest : List Oper} {o : Oper} {a : Act} {w : World} {Q : Exit → Act → World → Prop} (hw : Region.wanted o (yielded ops a.tmps) = true) (x : Operand) (ho : o.op = .load 22 x) (b off : Nat) (hx : a.eval x = .pointer (some ⟨b, off, none⟩)) (cs : List Value) (hc : w.rangeAt b off cs) (hi : (Try.prog.info? 22).map (·.size) = some cs.length)
    (h : wpList Try.prog ops Q rest (a.put o.dst (.agg cs.toArray)) w) : wpList Try.prog ops Q (o :: rest) a w :=
  wpList_step fun K hK => by
    simp only [hw, if_true]
    exact wp_load_mid 22 x ho b off hx cs _ hc u22 rfl hi (hK _ _ h)
/-- Whether a message may be, by the reference. -/
def mayB (m : Msg) : Bool :=
  if m.kind = 1 then (decide (m.name.size ≤ 255) && (proB m.protos 8 && (decide (m.params.length ≤ 4096) && (decide (m.ticket.length ≤ 512) && (decide (0 < m.ticket.length) || (!m.early && (m.binder == z16)))))))
  else if m.kind = 4 then (decide (0 ≤ m.life) && (decide (m.life ≤ 4294967295) && (decide (1 ≤ m.ticket.length) && decide (m.ticket.length ≤ 512))))
  else if m.kind = 8 then (proB m.protos 1 && decide (m.params.length ≤ 4096))
  else if m.kind = 11 then decide (m.name.size ≤ 255)
  else true

set_option maxRecDepth 100000 in
set_option maxHeartbeats 400000 in
theorem may_4 (m : Msg) (w : World) (hok : m.ok w) (h63 : m.protos.length ≤ 9223372036854775806) (hk : m.kind = 4) : Calls Try.prog 20 #[.agg m.cells.toArray] w fun e w' => e = .returned (.bool (mayB m)) ∧ Below w.heap.size w w' := by
  have hb1 := bl1 w (.cells m.cells.toArray 34)
  have hrow := heap_alloc_new w (.cells m.cells.toArray 34)
  obtain ⟨g0, g33, g34, g35, g36, g53, g54, g71⟩ := Msg.get hok.ln
  have hR : Hid ((w.alloc (.cells m.cells.toArray 34)).rangeAt w.heap.size 37 (bc m.binder)) := (Msg.hs hok.ln hrow).2.2.1.range
  have cell : ∀ j v, m.cells[j]? = some v → (w.alloc (.cells m.cells.toArray 34)).cell? ⟨w.heap.size, j, none⟩ = some v := fun j v h => by unfold World.cell?; rw [hrow]; simpa using h
  have c0 := cell _ _ g0
  have c33 := cell _ _ g33
  have c34 := cell _ _ g34
  have c35 := cell _ _ g35
  have c36 := cell _ _ g36
  have c53 := cell _ _ g53
  have c71 := cell _ _ g71
  have HPR : Hid (∀ most, Calls Try.prog 32 #[.slice m.po m.protos.length m.pc, .int .i64 most] (w.alloc (.cells m.cells.toArray 34)) fun e w' => e = .returned (.bool (proB m.protos most)) ∧ w' = w.alloc (.cells m.cells.toArray 34)) := fun most => rprotos_c m.po m.pc m.protos _ (Nms_bel hok.nm hb1) h63 hok.s63 most
  have HB : Hid _ := hb1
  have m22 : (Try.prog.info? 22).map (·.size) = some (bc m.binder).length := i22.trans (by simp [bc_length, hok.ln.b])
  have eqh : Hid (∀ X, (Op.equalIn 10000 22 (.agg (bc m.binder).toArray) (.agg #[.int .u8 0, .int .u8 0, .int .u8 0, .int .u8 0, .int .u8 0, .int .u8 0, .int .u8 0, .int .u8 0, .int .u8 0, .int .u8 0, .int .u8 0, .int .u8 0, .int .u8 0, .int .u8 0, .int .u8 0, .int .u8 0]) ).run Try.prog X = .ok (m.binder == z16) X) := fun X => equalIn_h 22 u22 9998 m.binder z16 hok.ln.b rfl X
  obtain ⟨mb, hmb⟩ : ∃ mb, mb = mayB m := ⟨_, rfl⟩
  rw [← hmb]
  have HM : Hid _ := hmb
  clear hmb cell g0 g33 g34 g35 g36 g53 g54 g71 hrow hb1 hok
  obtain ⟨kind, hkind⟩ : ∃ kind, kind = m.kind := ⟨_, rfl⟩
  obtain ⟨A, hA⟩ : ∃ A, m.cells.toArray = A := ⟨_, rfl⟩
  rw [hA] at hR c0 c33 c34 c35 c36 c53 c71 HPR HB ⊢
  rw [← hkind] at c0
  have HK : Hid _ := hkind
  clear hkind hA
  obtain ⟨W1, hW1⟩ : ∃ W1, w.alloc (.cells A 34) = W1 := ⟨_, rfl⟩
  rw [hW1] at hR c0 c33 c34 c35 c36 c53 c71 HPR HB
  obtain rfl : kind = 4 := by rw [HK.out]; exact hk
  · skip
    by_cases l0 : 0 ≤ m.life
    · have l0d : decide (0 ≤ m.life) = true := decide_eq_true l0
      by_cases l1 : m.life ≤ 4294967295
      · have l1d : decide (m.life ≤ 4294967295) = true := decide_eq_true l1
        by_cases t0 : (1 : Int) ≤ (m.ticket.length : Int)
        · have t0d : decide ((1 : Int) ≤ (m.ticket.length : Int)) = true := decide_eq_true t0
          have t0n : 1 ≤ m.ticket.length := by omega
          have t0p : 0 < m.ticket.length := by omega
          by_cases t1 : (m.ticket.length : Int) ≤ 512
          · have t1d : decide ((m.ticket.length : Int) ≤ 512) = true := decide_eq_true t1
            have t1n : m.ticket.length ≤ 512 := by omega
            as_aux_lemma =>
            have F : Hid (mb = true) := by show mb = _; rw [HM.out]; simp [mayB, ← HK.out, l0, l1, t0n, t1n]
            clear HM HK eqh
            go_enter Try.func20, Try.ntmps20
            go_wp2_with (fail)
            try rw [hW1]
            go_ret
            exact ⟨by rw [F.out]; rfl, HB.out⟩
          · have t1d : decide ((m.ticket.length : Int) ≤ 512) = false := decide_eq_false t1
            have t1n : ¬ m.ticket.length ≤ 512 := by omega
            as_aux_lemma =>
            have F : Hid (mb = false) := by show mb = _; rw [HM.out]; simp [mayB, ← HK.out, l0, l1, t0n, t1n]
            clear HM HK eqh
            go_enter Try.func20, Try.ntmps20
            go_wp2_with (fail)
            try rw [hW1]
            go_ret
            exact ⟨by rw [F.out]; rfl, HB.out⟩
        · have t0d : decide ((1 : Int) ≤ (m.ticket.length : Int)) = false := decide_eq_false t0
          have t0n : ¬ 1 ≤ m.ticket.length := by omega
          as_aux_lemma =>
          have F : Hid (mb = false) := by show mb = _; rw [HM.out]; simp [mayB, ← HK.out, l0, l1, t0n]
          clear HM HK eqh
          go_enter Try.func20, Try.ntmps20
          go_wp2_with (fail)
          try rw [hW1]
          go_ret
          exact ⟨by rw [F.out]; rfl, HB.out⟩
      · have l1d : decide (m.life ≤ 4294967295) = false := decide_eq_false l1
        as_aux_lemma =>
        have F : Hid (mb = false) := by show mb = _; rw [HM.out]; simp [mayB, ← HK.out, l0, l1]
        clear HM HK eqh
        go_enter Try.func20, Try.ntmps20
        go_wp2_with (fail)
        try rw [hW1]
        go_ret
        exact ⟨by rw [F.out]; rfl, HB.out⟩
    · have l0d : decide (0 ≤ m.life) = false := decide_eq_false l0
      as_aux_lemma =>
      have F : Hid (mb = false) := by show mb = _; rw [HM.out]; simp [mayB, ← HK.out, l0]
      clear HM HK eqh
      go_enter Try.func20, Try.ntmps20
      go_wp2_with (fail)
      try rw [hW1]
      go_ret
      exact ⟨by rw [F.out]; rfl, HB.out⟩
set_option maxRecDepth 100000 in
set_option maxHeartbeats 400000 in
theorem may_8 (m : Msg) (w : World) (hok : m.ok w) (h63 : m.protos.length ≤ 9223372036854775806) (hk : m.kind = 8) : Calls Try.prog 20 #[.agg m.cells.toArray] w fun e w' => e = .returned (.bool (mayB m)) ∧ Below w.heap.size w w' := by
  have hb1 := bl1 w (.cells m.cells.toArray 34)
  have hrow := heap_alloc_new w (.cells m.cells.toArray 34)
  obtain ⟨g0, g33, g34, g35, g36, g53, g54, g71⟩ := Msg.get hok.ln
  have hR : Hid ((w.alloc (.cells m.cells.toArray 34)).rangeAt w.heap.size 37 (bc m.binder)) := (Msg.hs hok.ln hrow).2.2.1.range
  have cell : ∀ j v, m.cells[j]? = some v → (w.alloc (.cells m.cells.toArray 34)).cell? ⟨w.heap.size, j, none⟩ = some v := fun j v h => by unfold World.cell?; rw [hrow]; simpa using h
  have c0 := cell _ _ g0
  have c33 := cell _ _ g33
  have c34 := cell _ _ g34
  have c35 := cell _ _ g35
  have c36 := cell _ _ g36
  have c53 := cell _ _ g53
  have c71 := cell _ _ g71
  have HPR : Hid (∀ most, Calls Try.prog 32 #[.slice m.po m.protos.length m.pc, .int .i64 most] (w.alloc (.cells m.cells.toArray 34)) fun e w' => e = .returned (.bool (proB m.protos most)) ∧ w' = w.alloc (.cells m.cells.toArray 34)) := fun most => rprotos_c m.po m.pc m.protos _ (Nms_bel hok.nm hb1) h63 hok.s63 most
  have HB : Hid _ := hb1
  have m22 : (Try.prog.info? 22).map (·.size) = some (bc m.binder).length := i22.trans (by simp [bc_length, hok.ln.b])
  have eqh : Hid (∀ X, (Op.equalIn 10000 22 (.agg (bc m.binder).toArray) (.agg #[.int .u8 0, .int .u8 0, .int .u8 0, .int .u8 0, .int .u8 0, .int .u8 0, .int .u8 0, .int .u8 0, .int .u8 0, .int .u8 0, .int .u8 0, .int .u8 0, .int .u8 0, .int .u8 0, .int .u8 0, .int .u8 0]) ).run Try.prog X = .ok (m.binder == z16) X) := fun X => equalIn_h 22 u22 9998 m.binder z16 hok.ln.b rfl X
  obtain ⟨mb, hmb⟩ : ∃ mb, mb = mayB m := ⟨_, rfl⟩
  rw [← hmb]
  have HM : Hid _ := hmb
  clear hmb cell g0 g33 g34 g35 g36 g53 g54 g71 hrow hb1 hok
  obtain ⟨kind, hkind⟩ : ∃ kind, kind = m.kind := ⟨_, rfl⟩
  obtain ⟨A, hA⟩ : ∃ A, m.cells.toArray = A := ⟨_, rfl⟩
  rw [hA] at hR c0 c33 c34 c35 c36 c53 c71 HPR HB ⊢
  rw [← hkind] at c0
  have HK : Hid _ := hkind
  clear hkind hA
  obtain ⟨W1, hW1⟩ : ∃ W1, w.alloc (.cells A 34) = W1 := ⟨_, rfl⟩
  rw [hW1] at hR c0 c33 c34 c35 c36 c53 c71 HPR HB
  obtain rfl : kind = 8 := by rw [HK.out]; exact hk
  · skip
    obtain ⟨pb, hpb⟩ : ∃ pb, proB m.protos 1 = pb := ⟨_, rfl⟩
    cases pb
    · skip
      as_aux_lemma =>
      have F : Hid (mb = false) := by show mb = _; rw [HM.out]; simp [mayB, ← HK.out, hpb]
      clear HM HK eqh
      go_enter Try.func20, Try.ntmps20
      go_wp2_with (fail)
      try rw [hW1]
      refine (HPR.out 1).mono ?_
      rintro e w2 ⟨rfl, rfl⟩
      go_wp2_with fail
      go_ret
      exact ⟨by rw [F.out]; rfl, HB.out⟩
    · by_cases a1 : (m.params.length : Int) ≤ 4096
      · have a1d : decide ((m.params.length : Int) ≤ 4096) = true := decide_eq_true a1
        have a1n : m.params.length ≤ 4096 := by omega
        as_aux_lemma =>
        have F : Hid (mb = true) := by show mb = _; rw [HM.out]; simp [mayB, ← HK.out, hpb, a1n]
        clear HM HK eqh
        go_enter Try.func20, Try.ntmps20
        go_wp2_with (fail)
        try rw [hW1]
        refine (HPR.out 1).mono ?_
        rintro e w2 ⟨rfl, rfl⟩
        go_wp2_with fail
        go_ret
        exact ⟨by rw [F.out]; rfl, HB.out⟩
      · have a1d : decide ((m.params.length : Int) ≤ 4096) = false := decide_eq_false a1
        have a1n : ¬ m.params.length ≤ 4096 := by omega
        as_aux_lemma =>
        have F : Hid (mb = false) := by show mb = _; rw [HM.out]; simp [mayB, ← HK.out, hpb, a1n]
        clear HM HK eqh
        go_enter Try.func20, Try.ntmps20
        go_wp2_with (fail)
        try rw [hW1]
        refine (HPR.out 1).mono ?_
        rintro e w2 ⟨rfl, rfl⟩
        go_wp2_with fail
        go_ret
        exact ⟨by rw [F.out]; rfl, HB.out⟩
set_option maxRecDepth 100000 in
set_option maxHeartbeats 400000 in
theorem may_11 (m : Msg) (w : World) (hok : m.ok w) (h63 : m.protos.length ≤ 9223372036854775806) (hk : m.kind = 11) : Calls Try.prog 20 #[.agg m.cells.toArray] w fun e w' => e = .returned (.bool (mayB m)) ∧ Below w.heap.size w w' := by
  have hb1 := bl1 w (.cells m.cells.toArray 34)
  have hrow := heap_alloc_new w (.cells m.cells.toArray 34)
  obtain ⟨g0, g33, g34, g35, g36, g53, g54, g71⟩ := Msg.get hok.ln
  have hR : Hid ((w.alloc (.cells m.cells.toArray 34)).rangeAt w.heap.size 37 (bc m.binder)) := (Msg.hs hok.ln hrow).2.2.1.range
  have cell : ∀ j v, m.cells[j]? = some v → (w.alloc (.cells m.cells.toArray 34)).cell? ⟨w.heap.size, j, none⟩ = some v := fun j v h => by unfold World.cell?; rw [hrow]; simpa using h
  have c0 := cell _ _ g0
  have c33 := cell _ _ g33
  have c34 := cell _ _ g34
  have c35 := cell _ _ g35
  have c36 := cell _ _ g36
  have c53 := cell _ _ g53
  have c71 := cell _ _ g71
  have HPR : Hid (∀ most, Calls Try.prog 32 #[.slice m.po m.protos.length m.pc, .int .i64 most] (w.alloc (.cells m.cells.toArray 34)) fun e w' => e = .returned (.bool (proB m.protos most)) ∧ w' = w.alloc (.cells m.cells.toArray 34)) := fun most => rprotos_c m.po m.pc m.protos _ (Nms_bel hok.nm hb1) h63 hok.s63 most
  have HB : Hid _ := hb1
  have m22 : (Try.prog.info? 22).map (·.size) = some (bc m.binder).length := i22.trans (by simp [bc_length, hok.ln.b])
  have eqh : Hid (∀ X, (Op.equalIn 10000 22 (.agg (bc m.binder).toArray) (.agg #[.int .u8 0, .int .u8 0, .int .u8 0, .int .u8 0, .int .u8 0, .int .u8 0, .int .u8 0, .int .u8 0, .int .u8 0, .int .u8 0, .int .u8 0, .int .u8 0, .int .u8 0, .int .u8 0, .int .u8 0, .int .u8 0]) ).run Try.prog X = .ok (m.binder == z16) X) := fun X => equalIn_h 22 u22 9998 m.binder z16 hok.ln.b rfl X
  obtain ⟨mb, hmb⟩ : ∃ mb, mb = mayB m := ⟨_, rfl⟩
  rw [← hmb]
  have HM : Hid _ := hmb
  clear hmb cell g0 g33 g34 g35 g36 g53 g54 g71 hrow hb1 hok
  obtain ⟨kind, hkind⟩ : ∃ kind, kind = m.kind := ⟨_, rfl⟩
  obtain ⟨A, hA⟩ : ∃ A, m.cells.toArray = A := ⟨_, rfl⟩
  rw [hA] at hR c0 c33 c34 c35 c36 c53 c71 HPR HB ⊢
  rw [← hkind] at c0
  have HK : Hid _ := hkind
  clear hkind hA
  obtain ⟨W1, hW1⟩ : ∃ W1, w.alloc (.cells A 34) = W1 := ⟨_, rfl⟩
  rw [hW1] at hR c0 c33 c34 c35 c36 c53 c71 HPR HB
  obtain rfl : kind = 11 := by rw [HK.out]; exact hk
  · skip
    by_cases n1 : (m.name.size : Int) ≤ 255
    · have n1d : decide ((m.name.size : Int) ≤ 255) = true := decide_eq_true n1
      have n1n : m.name.size ≤ 255 := by omega
      as_aux_lemma =>
      have F : Hid (mb = true) := by show mb = _; rw [HM.out]; simp [mayB, ← HK.out, n1n]
      clear HM HK eqh
      go_enter Try.func20, Try.ntmps20
      go_wp2_with (fail)
      try rw [hW1]
      go_ret
      exact ⟨by rw [F.out]; rfl, HB.out⟩
    · have n1d : decide ((m.name.size : Int) ≤ 255) = false := decide_eq_false n1
      have n1n : ¬ m.name.size ≤ 255 := by omega
      as_aux_lemma =>
      have F : Hid (mb = false) := by show mb = _; rw [HM.out]; simp [mayB, ← HK.out, n1n]
      clear HM HK eqh
      go_enter Try.func20, Try.ntmps20
      go_wp2_with (fail)
      try rw [hW1]
      go_ret
      exact ⟨by rw [F.out]; rfl, HB.out⟩
set_option maxRecDepth 100000 in
set_option maxHeartbeats 400000 in
theorem may_0 (m : Msg) (w : World) (hok : m.ok w) (h63 : m.protos.length ≤ 9223372036854775806) (h1 : m.kind ≠ 1) (h4 : m.kind ≠ 4) (h8 : m.kind ≠ 8) (h11 : m.kind ≠ 11) : Calls Try.prog 20 #[.agg m.cells.toArray] w fun e w' => e = .returned (.bool (mayB m)) ∧ Below w.heap.size w w' := by
  have hb1 := bl1 w (.cells m.cells.toArray 34)
  have hrow := heap_alloc_new w (.cells m.cells.toArray 34)
  obtain ⟨g0, g33, g34, g35, g36, g53, g54, g71⟩ := Msg.get hok.ln
  have hR : Hid ((w.alloc (.cells m.cells.toArray 34)).rangeAt w.heap.size 37 (bc m.binder)) := (Msg.hs hok.ln hrow).2.2.1.range
  have cell : ∀ j v, m.cells[j]? = some v → (w.alloc (.cells m.cells.toArray 34)).cell? ⟨w.heap.size, j, none⟩ = some v := fun j v h => by unfold World.cell?; rw [hrow]; simpa using h
  have c0 := cell _ _ g0
  have c33 := cell _ _ g33
  have c34 := cell _ _ g34
  have c35 := cell _ _ g35
  have c36 := cell _ _ g36
  have c53 := cell _ _ g53
  have c71 := cell _ _ g71
  have HPR : Hid (∀ most, Calls Try.prog 32 #[.slice m.po m.protos.length m.pc, .int .i64 most] (w.alloc (.cells m.cells.toArray 34)) fun e w' => e = .returned (.bool (proB m.protos most)) ∧ w' = w.alloc (.cells m.cells.toArray 34)) := fun most => rprotos_c m.po m.pc m.protos _ (Nms_bel hok.nm hb1) h63 hok.s63 most
  have HB : Hid _ := hb1
  have m22 : (Try.prog.info? 22).map (·.size) = some (bc m.binder).length := i22.trans (by simp [bc_length, hok.ln.b])
  have eqh : Hid (∀ X, (Op.equalIn 10000 22 (.agg (bc m.binder).toArray) (.agg #[.int .u8 0, .int .u8 0, .int .u8 0, .int .u8 0, .int .u8 0, .int .u8 0, .int .u8 0, .int .u8 0, .int .u8 0, .int .u8 0, .int .u8 0, .int .u8 0, .int .u8 0, .int .u8 0, .int .u8 0, .int .u8 0]) ).run Try.prog X = .ok (m.binder == z16) X) := fun X => equalIn_h 22 u22 9998 m.binder z16 hok.ln.b rfl X
  obtain ⟨mb, hmb⟩ : ∃ mb, mb = mayB m := ⟨_, rfl⟩
  rw [← hmb]
  have HM : Hid _ := hmb
  clear hmb cell g0 g33 g34 g35 g36 g53 g54 g71 hrow hb1 hok
  obtain ⟨kind, hkind⟩ : ∃ kind, kind = m.kind := ⟨_, rfl⟩
  obtain ⟨A, hA⟩ : ∃ A, m.cells.toArray = A := ⟨_, rfl⟩
  rw [hA] at hR c0 c33 c34 c35 c36 c53 c71 HPR HB ⊢
  rw [← hkind] at c0
  have HK : Hid _ := hkind
  clear hkind hA
  obtain ⟨W1, hW1⟩ : ∃ W1, w.alloc (.cells A 34) = W1 := ⟨_, rfl⟩
  rw [hW1] at hR c0 c33 c34 c35 c36 c53 c71 HPR HB
  have k1 : ¬ kind = 1 := by rw [HK.out]; exact h1
  have k4 : ¬ kind = 4 := by rw [HK.out]; exact h4
  have k8 : ¬ kind = 8 := by rw [HK.out]; exact h8
  have k11 : ¬ kind = 11 := by rw [HK.out]; exact h11
  have b1 : (kind == 1) = false := by simpa using k1
  have b4 : (kind == 4) = false := by simpa using k4
  have b8 : (kind == 8) = false := by simpa using k8
  have b11 : (kind == 11) = false := by simpa using k11
  as_aux_lemma =>
  have F : Hid (mb = true) := by show mb = _; rw [HM.out]; simp [mayB, ← HK.out, k1, k4, k8, k11]
  clear HM HK eqh
  go_enter Try.func20, Try.ntmps20
  go_wp2_with (fail)
  try rw [hW1]
  go_ret
  exact ⟨by rw [F.out]; rfl, HB.out⟩
end Go.Proofs.Ytcchlicokglmnaa
namespace Go.Proofs.Ytcchlicokglmnaa
open Go.ChangeShapes Go.WideShapes Go.ChangeAt Go.RowKit Go.Lib
set_option linter.unusedVariables false

set_option maxRecDepth 100000 in
set_option maxHeartbeats 2000000 in
theorem may_1 (m : Msg) (w : World) (hok : m.ok w) (h63 : m.protos.length ≤ 9223372036854775806) (hk : m.kind = 1) : Calls Try.prog 20 #[.agg m.cells.toArray] w fun e w' => e = .returned (.bool (mayB m)) ∧ Below w.heap.size w w' := by
  have hb1 := bl1 w (.cells m.cells.toArray 34)
  have hrow := heap_alloc_new w (.cells m.cells.toArray 34)
  obtain ⟨g0, g33, g34, g35, g36, g53, g54, g71⟩ := Msg.get hok.ln
  have hR : Hid ((w.alloc (.cells m.cells.toArray 34)).rangeAt w.heap.size 37 (bc m.binder)) := (Msg.hs hok.ln hrow).2.2.1.range
  have cell : ∀ j v, m.cells[j]? = some v → (w.alloc (.cells m.cells.toArray 34)).cell? ⟨w.heap.size, j, none⟩ = some v := fun j v h => by unfold World.cell?; rw [hrow]; simpa using h
  have c0 := cell _ _ g0
  have c33 := cell _ _ g33
  have c34 := cell _ _ g34
  have c35 := cell _ _ g35
  have c36 := cell _ _ g36
  have c53 := cell _ _ g53
  have c71 := cell _ _ g71
  have HPR : Hid (∀ most, Calls Try.prog 32 #[.slice m.po m.protos.length m.pc, .int .i64 most] (w.alloc (.cells m.cells.toArray 34)) fun e w' => e = .returned (.bool (proB m.protos most)) ∧ w' = w.alloc (.cells m.cells.toArray 34)) := fun most => rprotos_c m.po m.pc m.protos _ (Nms_bel hok.nm hb1) h63 hok.s63 most
  have HB : Hid _ := hb1
  have m22 : (Try.prog.info? 22).map (·.size) = some (bc m.binder).length := i22.trans (by simp [bc_length, hok.ln.b])
  have eqh : Hid (∀ X, (Op.equalIn 10000 22 (.agg (bc m.binder).toArray) (.agg #[.int .u8 0, .int .u8 0, .int .u8 0, .int .u8 0, .int .u8 0, .int .u8 0, .int .u8 0, .int .u8 0, .int .u8 0, .int .u8 0, .int .u8 0, .int .u8 0, .int .u8 0, .int .u8 0, .int .u8 0, .int .u8 0]) ).run Try.prog X = .ok (m.binder == z16) X) := fun X => equalIn_h 22 u22 9998 m.binder z16 hok.ln.b rfl X
  obtain ⟨mb, hmb⟩ : ∃ mb, mb = mayB m := ⟨_, rfl⟩
  rw [← hmb]
  have HM : Hid _ := hmb
  clear hmb cell g0 g33 g34 g35 g36 g53 g54 g71 hrow hb1 hok
  obtain ⟨kind, hkind⟩ : ∃ kind, kind = m.kind := ⟨_, rfl⟩
  obtain ⟨A, hA⟩ : ∃ A, m.cells.toArray = A := ⟨_, rfl⟩
  rw [hA] at hR c0 c33 c34 c35 c36 c53 c71 HPR HB ⊢
  rw [← hkind] at c0
  have HK : Hid _ := hkind
  clear hkind hA
  obtain ⟨W1, hW1⟩ : ∃ W1, w.alloc (.cells A 34) = W1 := ⟨_, rfl⟩
  rw [hW1] at hR c0 c33 c34 c35 c36 c53 c71 HPR HB
  obtain rfl : kind = 1 := by rw [HK.out]; exact hk
  · skip
    obtain ⟨bq, hbq⟩ : ∃ bq, (m.binder == z16) = bq := ⟨_, rfl⟩
    obtain ⟨pb, hpb⟩ : ∃ pb, proB m.protos 8 = pb := ⟨_, rfl⟩
    rw [hbq] at eqh
    have eq2 := eqh.out
    by_cases z1 : (0 : Int) < (m.ticket.length : Int)
    · have z1d : decide ((0 : Int) < (m.ticket.length : Int)) = true := decide_eq_true z1
      have z1n : 0 < m.ticket.length := by omega
      have z1e : decide (0 < m.ticket.length) = true := decide_eq_true z1n
      by_cases n1 : (m.name.size : Int) ≤ 255
      · have n1d : decide ((m.name.size : Int) ≤ 255) = true := decide_eq_true n1
        have n1n : m.name.size ≤ 255 := by omega
        cases pb
        · skip
          as_aux_lemma =>
          have F : Hid (mb = false) := by show mb = _; rw [HM.out]; simp [mayB, ← HK.out, n1n, hpb]
          clear HM HK eqh
          go_enter Try.func20, Try.ntmps20
          go_wp2_with (fail)
          try rw [hW1]
          refine (HPR.out 8).mono ?_
          rintro e w2 ⟨rfl, rfl⟩
          go_wp2_with fail
          go_ret
          exact ⟨by rw [F.out]; rfl, HB.out⟩
        · by_cases a1 : (m.params.length : Int) ≤ 4096
          · have a1d : decide ((m.params.length : Int) ≤ 4096) = true := decide_eq_true a1
            have a1n : m.params.length ≤ 4096 := by omega
            by_cases t1 : (m.ticket.length : Int) ≤ 512
            · have t1d : decide ((m.ticket.length : Int) ≤ 512) = true := decide_eq_true t1
              have t1n : m.ticket.length ≤ 512 := by omega
              as_aux_lemma =>
              have F : Hid (mb = true) := by show mb = _; rw [HM.out]; simp [mayB, ← HK.out, n1n, hpb, a1n, t1n, z1n]
              clear HM HK eqh
              go_enter Try.func20, Try.ntmps20
              go_wp2_with (fail)
              try rw [hW1]
              refine (HPR.out 8).mono ?_
              rintro e w2 ⟨rfl, rfl⟩
              go_wp2_with fail
              go_ret
              exact ⟨by rw [F.out]; rfl, HB.out⟩
            · have t1d : decide ((m.ticket.length : Int) ≤ 512) = false := decide_eq_false t1
              have t1n : ¬ m.ticket.length ≤ 512 := by omega
              as_aux_lemma =>
              have F : Hid (mb = false) := by show mb = _; rw [HM.out]; simp [mayB, ← HK.out, n1n, hpb, a1n, t1n]
              clear HM HK eqh
              go_enter Try.func20, Try.ntmps20
              go_wp2_with (fail)
              try rw [hW1]
              refine (HPR.out 8).mono ?_
              rintro e w2 ⟨rfl, rfl⟩
              go_wp2_with fail
              go_ret
              exact ⟨by rw [F.out]; rfl, HB.out⟩
          · have a1d : decide ((m.params.length : Int) ≤ 4096) = false := decide_eq_false a1
            have a1n : ¬ m.params.length ≤ 4096 := by omega
            as_aux_lemma =>
            have F : Hid (mb = false) := by show mb = _; rw [HM.out]; simp [mayB, ← HK.out, n1n, hpb, a1n]
            clear HM HK eqh
            go_enter Try.func20, Try.ntmps20
            go_wp2_with (fail)
            try rw [hW1]
            refine (HPR.out 8).mono ?_
            rintro e w2 ⟨rfl, rfl⟩
            go_wp2_with fail
            go_ret
            exact ⟨by rw [F.out]; rfl, HB.out⟩
      · have n1d : decide ((m.name.size : Int) ≤ 255) = false := decide_eq_false n1
        have n1n : ¬ m.name.size ≤ 255 := by omega
        as_aux_lemma =>
        have F : Hid (mb = false) := by show mb = _; rw [HM.out]; simp [mayB, ← HK.out, n1n]
        clear HM HK eqh
        go_enter Try.func20, Try.ntmps20
        go_wp2_with (fail)
        try rw [hW1]
        go_ret
        exact ⟨by rw [F.out]; rfl, HB.out⟩
    · have z1d : decide ((0 : Int) < (m.ticket.length : Int)) = false := decide_eq_false z1
      have z1n : ¬ 0 < m.ticket.length := by omega
      have z1e : decide (0 < m.ticket.length) = false := decide_eq_false z1n
      obtain ⟨ea, hea⟩ : ∃ ea, m.early = ea := ⟨_, rfl⟩
      rw [hea] at c53
      cases ea
      · skip
        by_cases n1 : (m.name.size : Int) ≤ 255
        · have n1d : decide ((m.name.size : Int) ≤ 255) = true := decide_eq_true n1
          have n1n : m.name.size ≤ 255 := by omega
          cases pb
          · skip
            as_aux_lemma =>
            have F : Hid (mb = false) := by show mb = _; rw [HM.out]; simp [mayB, ← HK.out, n1n, hpb]
            clear HM HK eqh
            go_enter Try.func20, Try.ntmps20
            go_wp2_with (refine ldmg22 rfl (.tmp 17) rfl w.heap.size 37 rfl (bc m.binder) hR.out m22 (Hid.out ?_))
            try rw [hW1]
            refine mkHid ?_
            go_wp2_with fail
            refine (HPR.out 8).mono ?_
            rintro e w2 ⟨rfl, rfl⟩
            go_wp2_with fail
            go_ret
            exact ⟨by rw [F.out]; rfl, HB.out⟩
          · by_cases a1 : (m.params.length : Int) ≤ 4096
            · have a1d : decide ((m.params.length : Int) ≤ 4096) = true := decide_eq_true a1
              have a1n : m.params.length ≤ 4096 := by omega
              by_cases t1 : (m.ticket.length : Int) ≤ 512
              · have t1d : decide ((m.ticket.length : Int) ≤ 512) = true := decide_eq_true t1
                have t1n : m.ticket.length ≤ 512 := by omega
                as_aux_lemma =>
                have F : Hid (mb = bq) := by show mb = _; rw [HM.out]; simp [mayB, ← HK.out, n1n, hpb, a1n, t1n, z1n, hea, hbq]
                clear HM HK eqh
                go_enter Try.func20, Try.ntmps20
                go_wp2_with (refine ldmg22 rfl (.tmp 17) rfl w.heap.size 37 rfl (bc m.binder) hR.out m22 (Hid.out ?_))
                try rw [hW1]
                refine mkHid ?_
                go_wp2_with fail
                refine (HPR.out 8).mono ?_
                rintro e w2 ⟨rfl, rfl⟩
                go_wp2_with fail
                go_ret
                exact ⟨by rw [F.out]; rfl, HB.out⟩
              · have t1d : decide ((m.ticket.length : Int) ≤ 512) = false := decide_eq_false t1
                have t1n : ¬ m.ticket.length ≤ 512 := by omega
                exact absurd t1 (by omega)
            · have a1d : decide ((m.params.length : Int) ≤ 4096) = false := decide_eq_false a1
              have a1n : ¬ m.params.length ≤ 4096 := by omega
              as_aux_lemma =>
              have F : Hid (mb = false) := by show mb = _; rw [HM.out]; simp [mayB, ← HK.out, n1n, hpb, a1n]
              clear HM HK eqh
              go_enter Try.func20, Try.ntmps20
              go_wp2_with (refine ldmg22 rfl (.tmp 17) rfl w.heap.size 37 rfl (bc m.binder) hR.out m22 (Hid.out ?_))
              try rw [hW1]
              refine mkHid ?_
              go_wp2_with fail
              refine (HPR.out 8).mono ?_
              rintro e w2 ⟨rfl, rfl⟩
              go_wp2_with fail
              go_ret
              exact ⟨by rw [F.out]; rfl, HB.out⟩
        · have n1d : decide ((m.name.size : Int) ≤ 255) = false := decide_eq_false n1
          have n1n : ¬ m.name.size ≤ 255 := by omega
          as_aux_lemma =>
          have F : Hid (mb = false) := by show mb = _; rw [HM.out]; simp [mayB, ← HK.out, n1n]
          clear HM HK eqh
          go_enter Try.func20, Try.ntmps20
          go_wp2_with (refine ldmg22 rfl (.tmp 17) rfl w.heap.size 37 rfl (bc m.binder) hR.out m22 (Hid.out ?_))
          try rw [hW1]
          refine mkHid ?_
          go_wp2_with fail
          go_ret
          exact ⟨by rw [F.out]; rfl, HB.out⟩
      · skip
        by_cases n1 : (m.name.size : Int) ≤ 255
        · have n1d : decide ((m.name.size : Int) ≤ 255) = true := decide_eq_true n1
          have n1n : m.name.size ≤ 255 := by omega
          cases pb
          · skip
            as_aux_lemma =>
            have F : Hid (mb = false) := by show mb = _; rw [HM.out]; simp [mayB, ← HK.out, n1n, hpb]
            clear HM HK eqh
            go_enter Try.func20, Try.ntmps20
            go_wp2_with (fail)
            try rw [hW1]
            refine (HPR.out 8).mono ?_
            rintro e w2 ⟨rfl, rfl⟩
            go_wp2_with fail
            go_ret
            exact ⟨by rw [F.out]; rfl, HB.out⟩
          · by_cases a1 : (m.params.length : Int) ≤ 4096
            · have a1d : decide ((m.params.length : Int) ≤ 4096) = true := decide_eq_true a1
              have a1n : m.params.length ≤ 4096 := by omega
              by_cases t1 : (m.ticket.length : Int) ≤ 512
              · have t1d : decide ((m.ticket.length : Int) ≤ 512) = true := decide_eq_true t1
                have t1n : m.ticket.length ≤ 512 := by omega
                as_aux_lemma =>
                have F : Hid (mb = false) := by show mb = _; rw [HM.out]; simp [mayB, ← HK.out, n1n, hpb, a1n, t1n, z1n, hea]
                clear HM HK eqh
                go_enter Try.func20, Try.ntmps20
                go_wp2_with (fail)
                try rw [hW1]
                refine (HPR.out 8).mono ?_
                rintro e w2 ⟨rfl, rfl⟩
                go_wp2_with fail
                go_ret
                exact ⟨by rw [F.out]; rfl, HB.out⟩
              · have t1d : decide ((m.ticket.length : Int) ≤ 512) = false := decide_eq_false t1
                have t1n : ¬ m.ticket.length ≤ 512 := by omega
                exact absurd t1 (by omega)
            · have a1d : decide ((m.params.length : Int) ≤ 4096) = false := decide_eq_false a1
              have a1n : ¬ m.params.length ≤ 4096 := by omega
              as_aux_lemma =>
              have F : Hid (mb = false) := by show mb = _; rw [HM.out]; simp [mayB, ← HK.out, n1n, hpb, a1n]
              clear HM HK eqh
              go_enter Try.func20, Try.ntmps20
              go_wp2_with (fail)
              try rw [hW1]
              refine (HPR.out 8).mono ?_
              rintro e w2 ⟨rfl, rfl⟩
              go_wp2_with fail
              go_ret
              exact ⟨by rw [F.out]; rfl, HB.out⟩
        · have n1d : decide ((m.name.size : Int) ≤ 255) = false := decide_eq_false n1
          have n1n : ¬ m.name.size ≤ 255 := by omega
          as_aux_lemma =>
          have F : Hid (mb = false) := by show mb = _; rw [HM.out]; simp [mayB, ← HK.out, n1n]
          clear HM HK eqh
          go_enter Try.func20, Try.ntmps20
          go_wp2_with (fail)
          try rw [hW1]
          go_ret
          exact ⟨by rw [F.out]; rfl, HB.out⟩

end Go.Proofs.Ytcchlicokglmnaa
