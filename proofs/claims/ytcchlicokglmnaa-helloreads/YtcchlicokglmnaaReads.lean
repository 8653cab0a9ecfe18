/- Whatever the bytes and the place, caravellaw11.HelloReads answers true, and they read as they did: hello.Read tells the message, the place behind it and the error that the document's Read (caravelref11) tells, twice, with memory of its own each time, and leaves the bytes, and what lies behind them, as they were. Conditions: none. -/
import Derived.Test.YtcchlicokglmnaaVw
import Derived.Test.YtcchlicokglmnaaVb
import Derived.Test.YtcchlicokglmnaaOp
import Derived.ProofKit
import Derived.OpenShut
import Derived.SizedLaws
namespace Go.Proofs.Ytcchlicokglmnaa.helloReads
open Go.ChangeShapes Go.WideShapes Go.ChangeAt Go.RowKit
set_option linter.unusedVariables false

theorem own : ownKnob Try.prog.godebug = none := by kernel_rfl
theorem laidOut : laidOutB Try.prog = true := by kernel_rfl

set_option maxRecDepth 10000 in
theorem open_b {H : Type} {enc : TypeId × Value → H} {W : World} {base : Nat} {v : Value} {d : DataW H} {p : List MemPlace} (hv : Value.okWide Try.prog W .any base 25 v) (h : DataW.Trod enc Try.prog W 0 (fun _ => true) true 25 v d p) (hsz : (DataW.weights Try.prog 25 d).all (· ≤ reachBytes) = true) :
    ∃ ao l cap, v = .slice ao (l : List UInt8).length cap ∧ Sl W ao l ∧ (ao = none → l.length = 0 ∧ cap = 0) ∧ l.length ≤ 140737488351232 ∧ l.length ≤ cap ∧ cap ≤ 9223372036854775807 := by
  obtain ⟨a, len, cap, rfl⟩ := okWide_slice Try.underlying25 hv
  obtain ⟨fuel, hf⟩ := h
  have hf' : DataW.trod enc Try.prog W 0 (fun _ => true) true fuel 25 [.slice a len cap] = some (d, p) := hf
  rcases open_ints Try.underlying25 Try.underlying5 (by kernel_rfl) hf' with ⟨hcs, _⟩ | ⟨x, l, c', zs, hcs, _, hl, hm, hz, hx, hcell, hwz⟩
  · simp only [List.cons.injEq, and_true] at hcs
    rw [hcs]
    exact ⟨none, [], 0, rfl, fun j hj => absurd hj (by simp), fun _ => ⟨rfl, rfl⟩, by decide, by decide, by decide⟩
  · simp only [List.cons.injEq, and_true] at hcs
    rw [hcs]
    have hz' := hz
    rw [if_pos rfl] at hz'
    have hb5 : Try.prog.bytesOf 5 = 1 := by kernel_rfl
    have hx' := (Prod.mk.inj hx).1
    rw [hx'] at hsz
    simp only [DataW.weights, Try.underlying25, List.all_cons, Bool.and_eq_true, decide_eq_true_eq, hb5] at hsz
    have hr := hsz.1
    simp only [lits, List.length_map, List.length_take, List.length_drop, reachBytes] at hr
    obtain ⟨L, g1, g2, g3⟩ := row_bytes hl hz' hcell hwz (by omega)
    subst g1
    exact ⟨some x, L, c', rfl, g2, (fun h => nomatch h), g3, hl, by unfold maxLen at hm; omega⟩

set_option maxRecDepth 100000 in
theorem lifted (os : Os) (started : os.Started) (H : Type) (enc : TypeId × Value → H) :
    ReturnsInHanded {} Try.checked os 4 .any (Rows.helloReadsSpec.pre6 enc Try.prog Try.f4 Rows.helloReadsRow.domain false) (Rows.helloReadsSpec.post enc Try.prog Try.f4 false true false false) := by
  refine returnsInHanded_of_change_sized (C := Try.checked) own started (by kernel_rfl) Try.func4
    (ChangeSpec.witness6 (enc := enc) (C := Try.checked) false ⟨#[], #[.slice none 0 0, .int .i64 0], []⟩ 8 (by kernel_rfl) (by kernel_rfl) (by kernel_rfl) (by kernel_rfl)) ?_
  intro W base args ds gs before hval0 hW hcnd hsz0 _
  have hval : ∀ (j : Nat) t v, Try.f4.params[j]? = some t → args[j]? = some v → Value.okWide Try.prog W .any base t v := hval0
  have hW' := hW
  obtain ⟨p, q, hA0, hV, rfl, hfz, hnd⟩ := hW
  have hA : DataW.TrodAll enc Try.prog W 0 (fun _ => true) true Try.f4.params.toList args.toList ds p := hA0
  have hsz : (DataW.weightsEach Try.prog (Try.f4.params.toList ++ Rows.helloReadsSpec.plain.varTypes Try.prog) (ds ++ gs)).all (· ≤ reachBytes) = true := hsz0
  rw [Try.params4] at hA hval hsz
  obtain ⟨v0, vs0, d0, ds0, p0, q0, hargs, rfl, rfl, h0, r0⟩ := trodAll_cons hA
  obtain ⟨v1, vs1, d1, ds1, p1, q1, rfl, rfl, rfl, h1, r1⟩ := trodAll_cons r0
  obtain ⟨rfl, rfl, rfl⟩ := trodAll_nil r1
  obtain rfl : args = #[v0, v1] := by cases args; simp_all
  obtain ⟨rfl, rfl⟩ := trodVars_none hV
  have k0 := h0
  have lt0 : ∀ x ∈ p0, x.block < W.heap.size := by obtain ⟨m, hm⟩ := k0; exact DataW.trod_lt m _ _ _ hm
  have hs0 : (DataW.weights Try.prog 25 d0).all (· ≤ reachBytes) = true := by simp only [List.cons_append, DataW.weightsEach, List.all_append, Bool.and_eq_true] at hsz; exact hsz.1
  obtain ⟨ao, l, cap, rfl, s1, s2, s3, s4, s5⟩ : ∃ ao l cap, v0 = .slice ao (l : List UInt8).length cap ∧ Sl W ao l ∧ (ao = none → l.length = 0 ∧ cap = 0) ∧ l.length ≤ 140737488351232 ∧ l.length ≤ cap ∧ cap ≤ 9223372036854775807 := open_b (hval 0 25 v0 rfl rfl) h0 hs0
  obtain ⟨t, rfl, rfl, rfl, w1⟩ := open_int Try.underlying3 (hval 1 3 v1 rfl rfl) h1
  clear hA0 hval0
  refine (reads_law ao l cap t W s1 s2 s3 s4 s5 (fun X hX => rread_c (Sl_bel s1 hX) (by omega) s4 s5)).mono fun e W' ⟨he, bel⟩ => ?_
  subst he
  exact ⟨_, rfl, _, _, _, [], _, [], hW', trodAll_mk1 (shut_bool Try.underlying4 _), (trodAll_cons_mk (Below.trod laidOut (by kernel_rfl) (of_decide_eq_true (by kernel_rfl)) k0 bel lt0) (trodAll_cons_mk (shut_int Try.underlying3 w1) trodAll_mk0)), rfl, bel.frame _, fun h => by cases h⟩

theorem over : Rows.helloReadsRow.holds Try.pinned (OpenSpec.ofChange Rows.helloReadsSpec) :=
  OpenClaim.holds_of_wide 4 Try.f4 rfl rfl rfl rfl rfl rfl rfl ⟨rfl, rfl, rfl, rfl, rfl⟩ rfl rfl rfl rfl rfl (by kernel_rfl) Try.func4 (by kernel_rfl)
    (of_decide_eq_true (by kernel_rfl)) (by unfold Func.isWrapper; first | (rw [if_pos (by decide +kernel)]; kernel_rfl) | (rw [if_neg (by decide +kernel)]; exact ⟨rfl, rfl⟩))
    (fun os started H enc _ => lifted os started H enc)

/-- THE STATEMENT -/
theorem proved : Rows.HelloReadsSaid :=
  over
#print axioms proved
end Go.Proofs.Ytcchlicokglmnaa.helloReads
