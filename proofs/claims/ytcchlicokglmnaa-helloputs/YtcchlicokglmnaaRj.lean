/- The reference's Bare; the law's Refs. -/
import Derived.Test.YtcchlicokglmnaaRi
namespace Go.Proofs.Ytcchlicokglmnaa
open Go.ChangeShapes Go.WideShapes Go.ChangeAt Go.RowKit Go.Lib
set_option linter.unusedVariables false

set_option maxRecDepth 100000 in
set_option maxHeartbeats 1000000 in
theorem rbare_c (m : Msg) (w : World) (hok : m.ok w) (h63 : m.protos.length ≤ 9223372036854775806) : Calls Try.prog 11 #[.agg m.cells.toArray] w (BareR m w) := by
  have hrow := heap_alloc_new w (.cells m.cells.toArray 34)
  have hb1 := bl1 w (.cells m.cells.toArray 34)
  have cell : ∀ j v, m.cells[j]? = some v → (w.alloc (.cells m.cells.toArray 34)).cell? ⟨w.heap.size, j, none⟩ = some v := fun j v h => by unfold World.cell?; rw [hrow]; simpa using h
  have c0 := cell _ _ (Msg.get hok.ln).1
  have c36 := cell _ _ (Msg.get hok.ln).2.2.2.2.1
  have HP : Hid _ := rput m _ (hok.bel hb1) h63
  have HROW : Hid _ := hrow
  have m72 : (Try.prog.info? 34).map (·.size) = some m.cells.toArray.toList.length := i34s.trans (by simp [cells_len hok.ln])
  have hu := u34s
  have HB : Hid (Below w.heap.size w (w.alloc (.cells m.cells.toArray 34))) := hb1
  have HCB : Hid (isB m = true → 16 ≤ (bodyS m).1.length) := client_body m hok.ln
  have HLN : Hid _ := bodyS_len m hok.ln
  clear cell hrow hb1 hok
  generalize m.cells.toArray = A at *
  obtain ⟨TN, hTN⟩ : ∃ TN, m.ticket.length = TN := ⟨_, rfl⟩
  rw [hTN] at c36
  by_cases k1 : m.kind = 1
  · rw [k1] at c0
    by_cases t0 : TN = 0
    · subst t0
      have HF : Hid (BareR m w (.returned (.tuple #[.slice none 0 0, .int .i64 2])) (w.alloc (.cells A 34))) := by
        have hE : bareE m = 2 := by simp [bareE, isB, hTN]
        exact ⟨_, by rw [hE], by unfold bareL; rw [hE]; exact Out.nil _, HB.out⟩
      clear HP HCB HLN HROW hTN k1
      as_aux_lemma =>
      go_enter Try.func11, Try.ntmps11
      go_wp2_with fail
      go_ret2
      exact HF.out
    · have hBm : isB m = true := by simp [isB, k1, hTN, t0]
      have hcb := HCB.out hBm
      have t0' : ((TN : Int) == 0) = false := by simp; exact t0
      have t0d : decide ((TN : Int) = 0) = false := by simp; exact t0
      have t0n : (TN == 0) = false := by simpa using t0
      have HEB : Hid (bareE m = putE m) := by show _ = _; simp [bareE, hBm]
      have HOK : Hid (putE m = 0 → (putL m).length = 4 + (bodyS m).1.length) := fun h => by unfold putL putB; rw [if_pos h]; simp [be_length]; omega
      have HLN2 := HLN.out
      clear hTN k1 hBm HCB
      as_aux_lemma =>
      go_enter Try.func11, Try.ntmps11
      go_wp2_with (refine wpList_load_row rfl 34 (.tmp 1) rfl w.heap.size rfl 34 _ (0, 0) _ HROW.out hu rfl m72 (Hid.out ?_))
      generalize w.alloc (.cells A 34) = W1 at *
      refine mkHid ?_
      go_wp2_with fail
      refine Calls.mono HP.out ?_
      rintro e W2 ⟨v, rfl, hy, hb2⟩
      obtain ⟨o, c, rfl⟩ := own_val hy
      have HY : Hid _ := hy
      have HB2 : Hid (Below w.heap.size w W2) := HB.out.trans (hb2.mono HB.out.size)
      clear hb2 hy HP HROW
      by_cases e0 : putE m = 0
      · have hl := HOK.out e0
        obtain ⟨N, hN⟩ : ∃ N, (putL m).length = N := ⟨_, rfl⟩
        rw [hN] at hl ⊢
        have n16 : 16 ≤ N := by omega
        have nw : IntKind.i64.wrap ((N : Int) - 16) = ((N - 16 : Nat) : Int) := by rw [IntKind.wrap_i64]; omega
        obtain ⟨g, cap, rfl, hcap⟩ : ∃ g cap, o = some ⟨g, 0, none⟩ ∧ N ≤ c := by
          obtain ⟨_, ⟨h1, h2⟩ | ⟨g, cap, cur, e, _, _, h3, _⟩⟩ := HY.out
          · omega
          · injection e with e1 e2 e3
            exact ⟨g, cap, e1, by omega⟩
        have hc63 : c ≤ 9223372036854775807 := by
          obtain ⟨_, ⟨h1, h2⟩ | ⟨g, cap, cur, e, _, _, h3, h4, _⟩⟩ := HY.out
          · omega
          · injection e with e1 e2 e3
            unfold maxLen at h4
            omega
        have HF : Hid (BareR m w (.returned (.tuple #[.slice (some ⟨g, 0, none⟩) (N - 16) c, .int .i64 0])) W2) := by
          have hE : bareE m = 0 := by rw [HEB.out, e0]
          have hL : bareL m = (putL m).take (N - 16) := by unfold bareL; rw [if_pos hE, hN]
          have hs := (By.sl HY.out).1
          refine ⟨_, by rw [hE], ⟨some ⟨g, 0, none⟩, c, by rw [hL, List.length_take, hN]; congr 1; omega, ?_, fun h => by cases h⟩, HB2.out⟩
          intro j hj
          rw [hL, List.length_take, hN] at hj
          obtain ⟨b, off, e, hc⟩ := hs j (by omega)
          refine ⟨b, off, e, ?_⟩
          rw [hc]
          simp [hL, List.getElem_take]
        rw [e0]
        clear hN hl HOK HLN HLN2 HEB HY e0
        as_aux_lemma =>
        go_wp2_with fail
        go_ret2
        exact HF.out
      · have e0b : (putE m == 0) = false := by simpa using e0
        have e0n : (putE m != 0) = true := by simpa using e0
        have HF : Hid (BareR m w (.returned (.tuple #[.slice none 0 0, .int .i64 (putE m)])) W2) := by
          exact ⟨_, by rw [HEB.out], by unfold bareL; rw [if_neg (by rw [HEB.out]; exact e0)]; exact Out.nil _, HB2.out⟩
        generalize putE m = E at *
        clear HOK HLN HLN2 HEB HY
        as_aux_lemma =>
        go_wp2_with fail
        go_ret2
        exact HF.out
  · have k1b : (m.kind == 1) = false := by simpa using k1
    have k1n : (m.kind != 1) = true := by simpa using k1
    have k1d : decide (m.kind = 1) = false := by simpa using k1
    have HF : Hid (BareR m w (.returned (.tuple #[.slice none 0 0, .int .i64 2])) (w.alloc (.cells A 34))) := by
      have hE : bareE m = 2 := by simp [bareE, isB, k1]
      exact ⟨_, by rw [hE], by unfold bareL; rw [hE]; exact Out.nil _, HB.out⟩
    clear HP HCB HLN HROW hTN
    as_aux_lemma =>
    go_enter Try.func11, Try.ntmps11
    go_wp2_with fail
    go_ret2
    exact HF.out
theorem ls16 {l : List UInt8} (h : l.length = 16) : ∃ a0 a1 a2 a3 a4 a5 a6 a7 a8 a9 a10 a11 a12 a13 a14 a15, l = [a0, a1, a2, a3, a4, a5, a6, a7, a8, a9, a10, a11, a12, a13, a14, a15] := by
  match l, h with
  | [a0, a1, a2, a3, a4, a5, a6, a7, a8, a9, a10, a11, a12, a13, a14, a15], _ => exact ⟨a0, a1, a2, a3, a4, a5, a6, a7, a8, a9, a10, a11, a12, a13, a14, a15, rfl⟩
theorem bd34 (kind : Int) (name : ByteArray) (vp va vt : Value) (hp : ∃ o n c, vp = .slice o n c) (ha : ∃ o n c, va = .slice o n c) (ht : ∃ o n c, vt = .slice o n c) (R S B K : List UInt8) (hR : R.length = 16) (hS : S.length = 16) (hB : B.length = 16) (hK : K.length = 16) (ea ag : Bool) (life : Int) (X : World) :
    (Instr.build 34 #[(0, .int .i64 kind), (1, hv R), (2, hv S), (3, .string name), (4, vp), (5, va), (6, vt), (7, hv B), (8, .bool ea), (9, .bool ag), (10, hv K), (11, .int .i64 life)]).run Try.prog X = .ok (.agg ([Value.int .i64 kind] ++ (bc R ++ (bc S ++ ([Value.string name, vp, va, vt] ++ (bc B ++ ([Value.bool ea, Value.bool ag] ++ (bc K ++ [Value.int .i64 life]))))))).toArray) X := by
  obtain ⟨o1, n1, c1, rfl⟩ := hp
  obtain ⟨o2, n2, c2, rfl⟩ := ha
  obtain ⟨o3, n3, c3, rfl⟩ := ht
  obtain ⟨r0, r1, r2, r3, r4, r5, r6, r7, r8, r9, r10, r11, r12, r13, r14, r15, rfl⟩ := ls16 hR
  obtain ⟨s0, s1, s2, s3, s4, s5, s6, s7, s8, s9, s10, s11, s12, s13, s14, s15, rfl⟩ := ls16 hS
  obtain ⟨b0, b1, b2, b3, b4, b5, b6, b7, b8, b9, b10, b11, b12, b13, b14, b15, rfl⟩ := ls16 hB
  obtain ⟨k0, k1, k2, k3, k4, k5, k6, k7, k8, k9, k10, k11, k12, k13, k14, k15, rfl⟩ := ls16 hK
  exact run_build X 34 _ _ (by kernel_rfl)
theorem wbm {ops : Array Oper} {rest : List Oper} {o : Oper} {a : Act} {w : World} {Q : Exit → Act → World → Prop} (hg : o.guard = none) (x0 x1 x2 x3 x4 x5 x6 x7 x8 x9 x10 x11 : Operand) (ho : o.op = .build 34 #[(0, x0), (1, x1), (2, x2), (3, x3), (4, x4), (5, x5), (6, x6), (7, x7), (8, x8), (9, x9), (10, x10), (11, x11)]) (v0 v1 v2 v3 v4 v5 v6 v7 v8 v9 v10 v11 : Value) (e0 : a.eval x0 = v0) (e1 : a.eval x1 = v1) (e2 : a.eval x2 = v2) (e3 : a.eval x3 = v3) (e4 : a.eval x4 = v4) (e5 : a.eval x5 = v5) (e6 : a.eval x6 = v6) (e7 : a.eval x7 = v7) (e8 : a.eval x8 = v8) (e9 : a.eval x9 = v9) (e10 : a.eval x10 = v10) (e11 : a.eval x11 = v11) (D : Value)
    (hD : ∀ X, (Instr.build 34 #[(0, v0), (1, v1), (2, v2), (3, v3), (4, v4), (5, v5), (6, v6), (7, v7), (8, v8), (9, v9), (10, v10), (11, v11)]).run Try.prog X = .ok D X)
    (h : wpList Try.prog ops Q rest (a.put o.dst D) w) : wpList Try.prog ops Q (o :: rest) a w :=
  wpList_plain hg fun K hK => by
    unfold Oper.wp execOp
    simp only [ho, List.map_toArray, List.map_cons, List.map_nil, e0, e1, e2, e3, e4, e5, e6, e7, e8, e9, e10, e11, Sem.run_bind, hD, Result.andThen_ok, Sem.run_pure]
    exact hK _ _ h
theorem cells_one (m : Msg) : m.cells.toArray.all (·.oneCell') = true := by
  rw [List.all_toArray, List.all_eq_true]
  intro v hv
  unfold Msg.cells at hv
  simp only [List.mem_append, List.mem_cons, List.not_mem_nil, or_false] at hv
  rcases hv with rfl | hv | hv | (rfl | rfl | rfl | rfl) | hv | (rfl | rfl) | hv | rfl <;> first | rfl | exact bc_one _ _ hv
end Go.Proofs.Ytcchlicokglmnaa
