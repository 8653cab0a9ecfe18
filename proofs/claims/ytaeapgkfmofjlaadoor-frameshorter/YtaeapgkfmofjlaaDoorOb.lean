/- caravellaw04.one of frames that hold the same: true; the walk. -/
import Derived.Test.YtaeapgkfmofjlaaDoorOa
namespace Go.Proofs.YtaeapgkfmofjlaaDoor
open Go.ChangeShapes Go.WideShapes Go.ChangeAt Go.RowKit
set_option linter.unusedVariables false
set_option maxRecDepth 100000

theorem Bx.same {w : World} {F : Nat} {f1 f2 : Fr} {d1 d2 : Da} (h : Bx w F f2 d2) (he : ab f1 d1 = ab f2 d2) : Bx w F f1 { d1 with oD := d2.oD, cD := d2.cD, oA := d2.oA, cA := d2.cA, oI := d2.oI, cI := d2.cI } := by
  unfold ab at he
  injection he with e1 e2 e3 e4 e5 e6 e7 e8 e9 e10 e11 e12 e13 e14 e15 e16 e17 e18 e19 e20
  exact ⟨e1 ▸ h.c0, e2 ▸ h.c1, e3 ▸ h.c2, by rw [e4]; exact h.c3, e5 ▸ h.c4, e6 ▸ h.c5, e7 ▸ h.c6, e8 ▸ h.c7, e9 ▸ h.c8, by rw [e10]; exact h.c9, e11 ▸ h.c10, by rw [e12, e13, e14]; exact h.c11, e15 ▸ h.c14, e16 ▸ h.c15, by rw [e17]; exact h.c16, by rw [e18]; exact h.c17, by rw [e19]; exact h.c33, e20 ▸ h.c41⟩
set_option maxHeartbeats 4000000 in
theorem one_c (f1 f2 : Fr) (d1 d2 : Da) (w : World) (h1 : Fi w f1 d1) (h2 : Fi w f2 d2) (he : ab f1 d1 = ab f2 d2) : Calls Tryd.prog 10 #[.agg f1.cells.toArray, .agg f2.cells.toArray] w fun e w' => e = .returned (.bool true) ∧ Below w.heap.size w w' := by
  obtain ⟨F, hF⟩ : ∃ F, w.heap.size = F := ⟨_, rfl⟩
  obtain ⟨W0, hW0⟩ : ∃ W0, w.alloc (.cells f1.cells.toArray 28) = W0 := ⟨_, rfl⟩
  obtain ⟨W, hW⟩ : ∃ W, W0.alloc (.cells f2.cells.toArray 28) = W := ⟨_, rfl⟩
  have hs0 : W0.heap.size = F + 1 := by rw [← hW0, ← hF]; simp
  have hf0 : Fm W0 F f1 := by rw [← hW0, ← hF]; exact heap_alloc_new w _
  have hf2 : Fm W (F + 1) f2 := by rw [← hW, ← hs0]; exact heap_alloc_new W0 _
  have hb0 : Below w.heap.size w W0 := by rw [← hW0]; exact bel1 w _
  have hb1 : Below W0.heap.size W0 W := by rw [← hW]; exact bel1 W0 _
  have hf1 : Fm W F f1 := (hb1.block F (by omega)).trans hf0
  have HB : Aside (Below w.heap.size w W) := hb0.trans (hb1.mono hb0.size)
  have p1 := h1.below HB.out
  have p2 := h2.below HB.out
  have x1 := hf1.bx h1.on
  have x2 := (hf2.bx h2.on).same he
  have eD : d1.D = d2.D := congrArg Fa.D he
  have eI : d1.I = d2.I := congrArg Fa.I he
  have eA : d1.A = d2.A := congrArg Fa.A he
  have sD1 : (convert 22 9 (.slice d1.oD d1.D.length d1.cD)).run Tryd.prog W = .ok (.string ⟨d1.D.toArray⟩) W := str_any p1.sD rfl p1.nD
  have sD2 : (convert 22 9 (.slice d2.oD d1.D.length d2.cD)).run Tryd.prog W = .ok (.string ⟨d1.D.toArray⟩) W := by rw [eD]; exact str_any p2.sD rfl p2.nD
  have HI1 : Aside (∀ X, Below W.heap.size W X → (convert 22 9 (.slice d1.oI d1.I.length d1.cI)).run Tryd.prog X = .ok (.string ⟨d1.I.toArray⟩) X) := fun X hx => str_any (p1.below hx).sI rfl p1.nI
  have HI2 : Aside (∀ X, Below W.heap.size W X → (convert 22 9 (.slice d2.oI d1.I.length d2.cI)).run Tryd.prog X = .ok (.string ⟨d1.I.toArray⟩) X) := fun X hx => by rw [eI]; exact str_any (p2.below hx).sI rfl p2.nI
  have HA1 : Aside (∀ X, Below W.heap.size W X → Ss X d1.oA d1.A) := fun X hx => (p1.below hx).sA
  have HA2 : Aside (∀ X, Below W.heap.size W X → Ss X d2.oA d1.A) := fun X hx => by rw [eA]; exact (p2.below hx).sA
  have HX1 : Aside (∀ X, Below W.heap.size W X → Bx X F f1 d1) := fun X hx => Fm.bx ((hx.block F (lt_block hf1)).trans hf1) h1.on
  have HX2 : Aside (∀ X, Below W.heap.size W X → Bx X (F + 1) f1 { d1 with oD := d2.oD, cD := d2.cD, oA := d2.oA, cA := d2.cA, oI := d2.oI, cI := d2.cI }) := fun X hx => (Fm.bx ((hx.block (F + 1) (lt_block hf2)).trans hf2) h2.on).same he
  have lA := h1.lA
  have r16 := h1.on.r16
  have t8 := h1.on.t8
  have HB0 : Aside (Below w.heap.size w W) := HB.out
  obtain ⟨SD, q1, q2⟩ : ∃ S, (convert 22 9 (.slice d1.oD d1.D.length d1.cD)).run Tryd.prog W = .ok (.string S) W ∧ (convert 22 9 (.slice d2.oD d1.D.length d2.cD)).run Tryd.prog W = .ok (.string S) W := ⟨_, sD1, sD2⟩
  have HI : Aside (∀ X, Below W.heap.size W X → ∃ S, (convert 22 9 (.slice d1.oI d1.I.length d1.cI)).run Tryd.prog X = .ok (.string S) X ∧ (convert 22 9 (.slice d2.oI d1.I.length d2.cI)).run Tryd.prog X = .ok (.string S) X) := fun X hx => ⟨_, HI1.out X hx, HI2.out X hx⟩
  obtain ⟨a0, a1, a2, a3, a4, a5, a6, a7, a8, a9, a10, a11, a14, a15, a16, a17, a33, a41⟩ := x1
  obtain ⟨b0, b1, b2, b3, b4, b5, b6, b7, b8, b9, b10, b11, b14, b15, b16, b17, b33, b41⟩ := x2
  dsimp only at b3 b9 b16 b17 b33
  have HRF : Aside (Below W.heap.size W W) := Below.refl _ _
  clear h1 h2 he p1 p2 eD eI eA sD1 sD2 HI1 HI2 hf0 hf1 hf2 hb0 hb1 HB a10 a11 a14 a15 a16 a17 a33 a41 b10 b11 b14 b15 b16 b17 b33 b41
  obtain ⟨nA, hnA⟩ : ∃ n, d1.A.length = n := ⟨_, rfl⟩
  have HNA : Aside (d1.A.length = nA) := hnA
  rw [hnA] at a9 b9 lA
  clear hnA
  go_enter Tryd.func10, Tryd.ntmps10
  go_wp2
  go_loopg [5] (nA + 1) (fun kx s5 wr => ∃ (i : Nat), s5 = .int .i64 (i : Int) ∧ i ≤ nA ∧ nA + 1 - i ≤ kx ∧ Aside (Below W.heap.size W wr))
  case atStart => exact ⟨0, rfl, by omega, by omega, HRF.out⟩
  case round =>
    obtain ⟨i, rfl, hi, hk, HR⟩ := hrel
    clear a0 a1 a2 a3 a4 a5 a6 a7 a8 a9 b0 b1 b2 b3 b4 b5 b6 b7 b8 b9 q1 q2
    have xr := HX1.out wr HR.out
    have yr := HX2.out wr HR.out
    have a9 := xr.c9
    have b9 := yr.c9
    dsimp only at b9
    rw [HNA.out] at a9 b9
    by_cases hlt : i < nA
    · have hlA : i < d1.A.length := by have := HNA.out; omega
      obtain ⟨g1, o1, e1, u0, u1⟩ := HA1.out wr HR.out i hlA
      obtain ⟨g2, o2, e2, v0, v1⟩ := HA2.out wr HR.out i hlA
      rw [e1] at a9
      rw [e2] at b9
      generalize (d1.A[i]).1 = x at *
      generalize (d1.A[i]).2 = y at *
      have k9 : wr.drew.cell? ⟨F, 9, none⟩ = some (.slice (some ⟨g1, o1, none⟩) nA d1.cA) := a9
      have l9 : wr.drew.cell? ⟨F + 1, 9, none⟩ = some (.slice (some ⟨g2, o2, none⟩) nA d2.cA) := b9
      have m0 : wr.drew.cell? ⟨g1, o1 + i * 2, none⟩ = some (.int .i64 x) := u0
      have m1 : wr.drew.cell? ⟨g1, o1 + i * 2 + 1, none⟩ = some (.int .i64 y) := u1
      have n0 : wr.drew.cell? ⟨g2, o2 + i * 2, none⟩ = some (.int .i64 x) := v0
      have n1 : wr.drew.cell? ⟨g2, o2 + i * 2 + 1, none⟩ = some (.int .i64 y) := v1
      have hq := neq47 x y
      have c3 : (i : Int) < (nA : Int) := by omega
      have c4 : (0 : Int) ≤ (i : Int) := by omega
      have n7 : IntKind.i64.wrap ((i : Int) + 1) = (i : Int) + 1 := wrp _ (by omega) (by omega)
      have HRD : Aside (Below W.heap.size W wr.drew) := HR.out.drew
      clear xr yr e1 e2 u0 u1 v0 v1 hlA HR
      go_wp2_with fail
      go_region_held3 (fun X => X.cell? ⟨F, 9, none⟩ = some (.slice (some ⟨g1, o1, none⟩) nA d1.cA) ∧ X.cell? ⟨F + 1, 9, none⟩ = some (.slice (some ⟨g2, o2, none⟩) nA d2.cA) ∧ X.cell? ⟨g1, o1 + i * 2, none⟩ = some (.int .i64 x) ∧ X.cell? ⟨g1, o1 + i * 2 + 1, none⟩ = some (.int .i64 y) ∧ X.cell? ⟨g2, o2 + i * 2, none⟩ = some (.int .i64 x) ∧ X.cell? ⟨g2, o2 + i * 2 + 1, none⟩ = some (.int .i64 y)) (exact ⟨k9, l9, m0, m1, n0, n1⟩) (fail)
      go_wp2
      go_roundg (nA + 1 - (i + 1))
      case measure => omega
      case rel => exact ⟨i + 1, rfl, by omega, Nat.le_refl _, HRD.out⟩
    · obtain rfl : i = nA := by omega
      have i0 : ¬ (i : Int) < (i : Int) := by omega
      obtain ⟨SI, q1, q2⟩ := HI.out wr HR.out
      obtain ⟨_, _, _, _, _, _, _, _, _, _, a10, a11, a14, a15, a16, a17, a33, a41⟩ := xr
      obtain ⟨_, _, _, _, _, _, _, _, _, _, b10, b11, b14, b15, b16, b17, b33, b41⟩ := yr
      dsimp only at b16 b17 b33
      have z24 := eql24 f1.e0 f1.e1 f1.e2
      have z25 := eql25 d1.R r16
      have z26 := eql26 d1.T t8
      have HI25 : Aside ((Tryd.prog.info? 25).map (·.size) = some (bc d1.R).length) := by show _ = _; rw [bc_length, r16]; exact hi25
      have HI26 : Aside ((Tryd.prog.info? 26).map (·.size) = some (bc d1.T).length) := by show _ = _; rw [bc_length, t8]; exact hi26
      have HA11 : Aside _ := a11
      have HB11 : Aside _ := b11
      have HA17 : Aside _ := a17
      have HB17 : Aside _ := b17
      have HA33 : Aside _ := a33
      have HB33 : Aside _ := b33
      have HRF2 : Aside (Below w.heap.size w wr) := HB0.out.trans (HR.out.mono HB0.out.size)
      clear a11 b11 a17 b17 a33 b33 r16 t8 HR hlt
      go_wp2_with (first | (refine wpList_load_mid_g (by rfl) 24 (.tmp 102) rfl F 11 rfl _ _ HA11.out hu24 rfl hi24 ?_) | (refine wpList_load_mid_g (by rfl) 24 (.tmp 104) rfl (F + 1) 11 rfl _ _ HB11.out hu24 rfl hi24 ?_) | (refine wpList_load_mid_g (by rfl) 25 (.tmp 132) rfl F 17 rfl _ _ HA17.out hu25 rfl HI25.out ?_) | (refine wpList_load_mid_g (by rfl) 25 (.tmp 134) rfl (F + 1) 17 rfl _ _ HB17.out hu25 rfl HI25.out ?_) | (refine wpList_load_mid_g (by rfl) 26 (.tmp 139) rfl F 33 rfl _ _ HA33.out hu26 rfl HI26.out ?_) | (refine wpList_load_mid_g (by rfl) 26 (.tmp 141) rfl (F + 1) 33 rfl _ _ HB33.out hu26 rfl HI26.out ?_))
      go_ret
      have q9 := HRF2.out
      rw [hF] at q9
      first | exact ⟨rfl, q9⟩ | exact ⟨rfl, HRF2.out⟩
end Go.Proofs.YtaeapgkfmofjlaaDoor
