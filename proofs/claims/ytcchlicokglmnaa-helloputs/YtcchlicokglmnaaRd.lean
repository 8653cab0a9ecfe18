/- The reference's may of a client. -/
import Derived.Test.YtcchlicokglmnaaRc
namespace Go.Proofs.Ytcchlicokglmnaa
open Go.ChangeShapes Go.WideShapes Go.ChangeAt Go.RowKit Go.Lib
set_option linter.unusedVariables false

set_option maxRecDepth 100000 in
set_option maxHeartbeats 2000000 in
theorem may_1 (m : Msg) (w : World) (hok : m.ok w) (h63 : m.protos.length ≤ 9223372036854775806) (hk : m.kind = 1) : Calls Try.prog 20 #[.agg m.cells.toArray] w fun e w' => e = .returned (.bool (mayB m)) ∧ Below w.heap.size w w' := by
  have hb1 := bl1 w (.cells m.cells.toArray 34)
  have hrow := heap_alloc_new w (.cells m.cells.toArray 34)
  obtain ⟨g0, g33, g34, g35, g36, g53, g54, g71⟩ := Msg.get hok.ln
  have hR : Hid ((w.alloc (.cells m.cells.toArray 34)).rangeAt w.heap.size 37 (bc m.binder)) := (Msg.hs hok.ln hrow).2.2.1.range
  have cell : ∀ j v, m.cells[j]? = some v → (w.alloc (.cells m.cells.toArray 34)).cell? ⟨w.heap.size, j, none⟩ = some v := fun j v h => by unfold World.cell?; rw [hrow]; simpa using h
  have c0 := cell _ _ g0
  have c33 := cell _ _ g33
  have c34 := cell _ _ g34
  have c35 := cell _ _ g35
  have c36 := cell _ _ g36
  have c53 := cell _ _ g53
  have c71 := cell _ _ g71
  have HPR : Hid (∀ most, Calls Try.prog 32 #[.slice m.po m.protos.length m.pc, .int .i64 most] (w.alloc (.cells m.cells.toArray 34)) fun e w' => e = .returned (.bool (proB m.protos most)) ∧ w' = w.alloc (.cells m.cells.toArray 34)) := fun most => rprotos_c m.po m.pc m.protos _ (Nms_bel hok.nm hb1) h63 hok.s63 most
  have HB : Hid _ := hb1
  have m22 : (Try.prog.info? 22).map (·.size) = some (bc m.binder).length := i22.trans (by simp [bc_length, hok.ln.b])
  have eqh : Hid (∀ X, (Op.equalIn 10000 22 (.agg (bc m.binder).toArray) (.agg #[.int .u8 0, .int .u8 0, .int .u8 0, .int .u8 0, .int .u8 0, .int .u8 0, .int .u8 0, .int .u8 0, .int .u8 0, .int .u8 0, .int .u8 0, .int .u8 0, .int .u8 0, .int .u8 0, .int .u8 0, .int .u8 0]) ).run Try.prog X = .ok (m.binder == z16) X) := fun X => equalIn_h 22 u22 9998 m.binder z16 hok.ln.b rfl X
  obtain ⟨mb, hmb⟩ : ∃ mb, mb = mayB m := ⟨_, rfl⟩
  rw [← hmb]
  have HM : Hid _ := hmb
  clear hmb cell g0 g33 g34 g35 g36 g53 g54 g71 hrow hb1 hok
  obtain ⟨kind, hkind⟩ : ∃ kind, kind = m.kind := ⟨_, rfl⟩
  obtain ⟨A, hA⟩ : ∃ A, m.cells.toArray = A := ⟨_, rfl⟩
  rw [hA] at hR c0 c33 c34 c35 c36 c53 c71 HPR HB ⊢
  rw [← hkind] at c0
  have HK : Hid _ := hkind
  clear hkind hA
  obtain ⟨W1, hW1⟩ : ∃ W1, w.alloc (.cells A 34) = W1 := ⟨_, rfl⟩
  rw [hW1] at hR c0 c33 c34 c35 c36 c53 c71 HPR HB
  obtain rfl : kind = 1 := by rw [HK.out]; exact hk
  · skip
    obtain ⟨bq, hbq⟩ : ∃ bq, (m.binder == z16) = bq := ⟨_, rfl⟩
    obtain ⟨pb, hpb⟩ : ∃ pb, proB m.protos 8 = pb := ⟨_, rfl⟩
    rw [hbq] at eqh
    have eq2 := eqh.out
    by_cases z1 : (0 : Int) < (m.ticket.length : Int)
    · have z1d : decide ((0 : Int) < (m.ticket.length : Int)) = true := decide_eq_true z1
      have z1n : 0 < m.ticket.length := by omega
      have z1e : decide (0 < m.ticket.length) = true := decide_eq_true z1n
      by_cases n1 : (m.name.size : Int) ≤ 255
      · have n1d : decide ((m.name.size : Int) ≤ 255) = true := decide_eq_true n1
        have n1n : m.name.size ≤ 255 := by omega
        cases pb
        · skip
          as_aux_lemma =>
          have F : Hid (mb = false) := by show mb = _; rw [HM.out]; simp [mayB, ← HK.out, n1n, hpb]
          clear HM HK eqh
          go_enter Try.func20, Try.ntmps20
          go_wp2_with (fail)
          try rw [hW1]
          refine (HPR.out 8).mono ?_
          rintro e w2 ⟨rfl, rfl⟩
          go_wp2_with fail
          go_ret
          exact ⟨by rw [F.out]; rfl, HB.out⟩
        · by_cases a1 : (m.params.length : Int) ≤ 4096
          · have a1d : decide ((m.params.length : Int) ≤ 4096) = true := decide_eq_true a1
            have a1n : m.params.length ≤ 4096 := by omega
            by_cases t1 : (m.ticket.length : Int) ≤ 512
            · have t1d : decide ((m.ticket.length : Int) ≤ 512) = true := decide_eq_true t1
              have t1n : m.ticket.length ≤ 512 := by omega
              as_aux_lemma =>
              have F : Hid (mb = true) := by show mb = _; rw [HM.out]; simp [mayB, ← HK.out, n1n, hpb, a1n, t1n, z1n]
              clear HM HK eqh
              go_enter Try.func20, Try.ntmps20
              go_wp2_with (fail)
              try rw [hW1]
              refine (HPR.out 8).mono ?_
              rintro e w2 ⟨rfl, rfl⟩
              go_wp2_with fail
              go_ret
              exact ⟨by rw [F.out]; rfl, HB.out⟩
            · have t1d : decide ((m.ticket.length : Int) ≤ 512) = false := decide_eq_false t1
              have t1n : ¬ m.ticket.length ≤ 512 := by omega
              as_aux_lemma =>
              have F : Hid (mb = false) := by show mb = _; rw [HM.out]; simp [mayB, ← HK.out, n1n, hpb, a1n, t1n]
              clear HM HK eqh
              go_enter Try.func20, Try.ntmps20
              go_wp2_with (fail)
              try rw [hW1]
              refine (HPR.out 8).mono ?_
              rintro e w2 ⟨rfl, rfl⟩
              go_wp2_with fail
              go_ret
              exact ⟨by rw [F.out]; rfl, HB.out⟩
          · have a1d : decide ((m.params.length : Int) ≤ 4096) = false := decide_eq_false a1
            have a1n : ¬ m.params.length ≤ 4096 := by omega
            as_aux_lemma =>
            have F : Hid (mb = false) := by show mb = _; rw [HM.out]; simp [mayB, ← HK.out, n1n, hpb, a1n]
            clear HM HK eqh
            go_enter Try.func20, Try.ntmps20
            go_wp2_with (fail)
            try rw [hW1]
            refine (HPR.out 8).mono ?_
            rintro e w2 ⟨rfl, rfl⟩
            go_wp2_with fail
            go_ret
            exact ⟨by rw [F.out]; rfl, HB.out⟩
      · have n1d : decide ((m.name.size : Int) ≤ 255) = false := decide_eq_false n1
        have n1n : ¬ m.name.size ≤ 255 := by omega
        as_aux_lemma =>
        have F : Hid (mb = false) := by show mb = _; rw [HM.out]; simp [mayB, ← HK.out, n1n]
        clear HM HK eqh
        go_enter Try.func20, Try.ntmps20
        go_wp2_with (fail)
        try rw [hW1]
        go_ret
        exact ⟨by rw [F.out]; rfl, HB.out⟩
    · have z1d : decide ((0 : Int) < (m.ticket.length : Int)) = false := decide_eq_false z1
      have z1n : ¬ 0 < m.ticket.length := by omega
      have z1e : decide (0 < m.ticket.length) = false := decide_eq_false z1n
      obtain ⟨ea, hea⟩ : ∃ ea, m.early = ea := ⟨_, rfl⟩
      rw [hea] at c53
      cases ea
      · skip
        by_cases n1 : (m.name.size : Int) ≤ 255
        · have n1d : decide ((m.name.size : Int) ≤ 255) = true := decide_eq_true n1
          have n1n : m.name.size ≤ 255 := by omega
          cases pb
          · skip
            as_aux_lemma =>
            have F : Hid (mb = false) := by show mb = _; rw [HM.out]; simp [mayB, ← HK.out, n1n, hpb]
            clear HM HK eqh
            go_enter Try.func20, Try.ntmps20
            go_wp2_with (refine ldmg22 rfl (.tmp 17) rfl w.heap.size 37 rfl (bc m.binder) hR.out m22 (Hid.out ?_))
            try rw [hW1]
            refine mkHid ?_
            go_wp2_with fail
            refine (HPR.out 8).mono ?_
            rintro e w2 ⟨rfl, rfl⟩
            go_wp2_with fail
            go_ret
            exact ⟨by rw [F.out]; rfl, HB.out⟩
          · by_cases a1 : (m.params.length : Int) ≤ 4096
            · have a1d : decide ((m.params.length : Int) ≤ 4096) = true := decide_eq_true a1
              have a1n : m.params.length ≤ 4096 := by omega
              by_cases t1 : (m.ticket.length : Int) ≤ 512
              · have t1d : decide ((m.ticket.length : Int) ≤ 512) = true := decide_eq_true t1
                have t1n : m.ticket.length ≤ 512 := by omega
                as_aux_lemma =>
                have F : Hid (mb = bq) := by show mb = _; rw [HM.out]; simp [mayB, ← HK.out, n1n, hpb, a1n, t1n, z1n, hea, hbq]
                clear HM HK eqh
                go_enter Try.func20, Try.ntmps20
                go_wp2_with (refine ldmg22 rfl (.tmp 17) rfl w.heap.size 37 rfl (bc m.binder) hR.out m22 (Hid.out ?_))
                try rw [hW1]
                refine mkHid ?_
                go_wp2_with fail
                refine (HPR.out 8).mono ?_
                rintro e w2 ⟨rfl, rfl⟩
                go_wp2_with fail
                go_ret
                exact ⟨by rw [F.out]; rfl, HB.out⟩
              · have t1d : decide ((m.ticket.length : Int) ≤ 512) = false := decide_eq_false t1
                have t1n : ¬ m.ticket.length ≤ 512 := by omega
                exact absurd t1 (by omega)
            · have a1d : decide ((m.params.length : Int) ≤ 4096) = false := decide_eq_false a1
              have a1n : ¬ m.params.length ≤ 4096 := by omega
              as_aux_lemma =>
              have F : Hid (mb = false) := by show mb = _; rw [HM.out]; simp [mayB, ← HK.out, n1n, hpb, a1n]
              clear HM HK eqh
              go_enter Try.func20, Try.ntmps20
              go_wp2_with (refine ldmg22 rfl (.tmp 17) rfl w.heap.size 37 rfl (bc m.binder) hR.out m22 (Hid.out ?_))
              try rw [hW1]
              refine mkHid ?_
              go_wp2_with fail
              refine (HPR.out 8).mono ?_
              rintro e w2 ⟨rfl, rfl⟩
              go_wp2_with fail
              go_ret
              exact ⟨by rw [F.out]; rfl, HB.out⟩
        · have n1d : decide ((m.name.size : Int) ≤ 255) = false := decide_eq_false n1
          have n1n : ¬ m.name.size ≤ 255 := by omega
          as_aux_lemma =>
          have F : Hid (mb = false) := by show mb = _; rw [HM.out]; simp [mayB, ← HK.out, n1n]
          clear HM HK eqh
          go_enter Try.func20, Try.ntmps20
          go_wp2_with (refine ldmg22 rfl (.tmp 17) rfl w.heap.size 37 rfl (bc m.binder) hR.out m22 (Hid.out ?_))
          try rw [hW1]
          refine mkHid ?_
          go_wp2_with fail
          go_ret
          exact ⟨by rw [F.out]; rfl, HB.out⟩
      · skip
        by_cases n1 : (m.name.size : Int) ≤ 255
        · have n1d : decide ((m.name.size : Int) ≤ 255) = true := decide_eq_true n1
          have n1n : m.name.size ≤ 255 := by omega
          cases pb
          · skip
            as_aux_lemma =>
            have F : Hid (mb = false) := by show mb = _; rw [HM.out]; simp [mayB, ← HK.out, n1n, hpb]
            clear HM HK eqh
            go_enter Try.func20, Try.ntmps20
            go_wp2_with (fail)
            try rw [hW1]
            refine (HPR.out 8).mono ?_
            rintro e w2 ⟨rfl, rfl⟩
            go_wp2_with fail
            go_ret
            exact ⟨by rw [F.out]; rfl, HB.out⟩
          · by_cases a1 : (m.params.length : Int) ≤ 4096
            · have a1d : decide ((m.params.length : Int) ≤ 4096) = true := decide_eq_true a1
              have a1n : m.params.length ≤ 4096 := by omega
              by_cases t1 : (m.ticket.length : Int) ≤ 512
              · have t1d : decide ((m.ticket.length : Int) ≤ 512) = true := decide_eq_true t1
                have t1n : m.ticket.length ≤ 512 := by omega
                as_aux_lemma =>
                have F : Hid (mb = false) := by show mb = _; rw [HM.out]; simp [mayB, ← HK.out, n1n, hpb, a1n, t1n, z1n, hea]
                clear HM HK eqh
                go_enter Try.func20, Try.ntmps20
                go_wp2_with (fail)
                try rw [hW1]
                refine (HPR.out 8).mono ?_
                rintro e w2 ⟨rfl, rfl⟩
                go_wp2_with fail
                go_ret
                exact ⟨by rw [F.out]; rfl, HB.out⟩
              · have t1d : decide ((m.ticket.length : Int) ≤ 512) = false := decide_eq_false t1
                have t1n : ¬ m.ticket.length ≤ 512 := by omega
                exact absurd t1 (by omega)
            · have a1d : decide ((m.params.length : Int) ≤ 4096) = false := decide_eq_false a1
              have a1n : ¬ m.params.length ≤ 4096 := by omega
              as_aux_lemma =>
              have F : Hid (mb = false) := by show mb = _; rw [HM.out]; simp [mayB, ← HK.out, n1n, hpb, a1n]
              clear HM HK eqh
              go_enter Try.func20, Try.ntmps20
              go_wp2_with (fail)
              try rw [hW1]
              refine (HPR.out 8).mono ?_
              rintro e w2 ⟨rfl, rfl⟩
              go_wp2_with fail
              go_ret
              exact ⟨by rw [F.out]; rfl, HB.out⟩
        · have n1d : decide ((m.name.size : Int) ≤ 255) = false := decide_eq_false n1
          have n1n : ¬ m.name.size ≤ 255 := by omega
          as_aux_lemma =>
          have F : Hid (mb = false) := by show mb = _; rw [HM.out]; simp [mayB, ← HK.out, n1n]
          clear HM HK eqh
          go_enter Try.func20, Try.ntmps20
          go_wp2_with (fail)
          try rw [hW1]
          go_ret
          exact ⟨by rw [F.out]; rfl, HB.out⟩

end Go.Proofs.Ytcchlicokglmnaa
