/- Whatever most, the acts and the times, caravellaw14.RttPlays answers true, and they read as they did: New answers as the document's (caravelref14), and, where it makes an estimate, at each step what is told, waited with data and without, and late is the document's, and each sample is taken or refused as the document says. Conditions: none. -/
import Derived.Test.YthjfhckpgindfaaRs
import Derived.Test.YthjfhckpgindfaaPl
import Derived.Test.YthjfhckpgindfaaOpen
namespace Go.Proofs.Ythjfhckpgindfaa.rttPlays
open Go.ChangeShapes Go.WideShapes Go.ChangeAt Go.RowKit
set_option linter.unusedVariables false

theorem own : ownKnob Try.prog.godebug = none := by kernel_rfl
theorem laidOut : laidOutB Try.prog = true := by kernel_rfl

theorem rsam : RSam := by
  intro b v t x k w h ho h0 h1 h2 h3
  cases hh : v.h with
  | true => exact rsample_more b v t x k w h hh ho h0 h1 h2 h3
  | false => exact rsample_first b v t x k w h hh h0 h1 h2
theorem rsno : RSno := fun b t x k w h => rsample_no b t x k w h

theorem choose_list {α : Type} {n : Nat} {P : Nat → α → Prop} (h : ∀ i, i < n → ∃ x, P i x) : ∃ l : List α, l.length = n ∧ ∀ i (hi : i < l.length), P i l[i] := by
  induction n with
  | zero => exact ⟨[], rfl, fun i hi => absurd hi (Nat.not_lt_zero _)⟩
  | succ n ih =>
    obtain ⟨l, hl, hp⟩ := ih (fun i hi => h i (by omega))
    obtain ⟨x, hx⟩ := h n (by omega)
    refine ⟨l ++ [x], by simp [hl], fun i hi => ?_⟩
    by_cases hin : i < l.length
    · rw [List.getElem_append_left hin]; exact hp i hin
    · have : i = n := by simp at hi; omega
      subst this
      rw [List.getElem_append_right (by omega)]
      simpa [hl] using hx
theorem top_i64 {x : Int} (h : (Lit.int .i64 x).wf = true) : x ≤ 9223372036854775807 := by
  simp only [Lit.wf, IntKind.min, IntKind.max, IntKind.signed, IntKind.bits, Bool.and_eq_true, decide_eq_true_eq, if_true] at h
  omega
theorem open_acts {H : Type} {enc : TypeId × Value → H} {W : World} {base : Nat} {v : Value} {d : DataW H} {p : List MemPlace} (hv : Value.okWide Try.prog W .any base 22 v) (h : DataW.Trod enc Try.prog W 0 (fun _ => true) true 22 v d p) :
    ∃ la l cap, v = .slice la (l : List (Int × Int × Bool)).length cap ∧ Ac W la l := by
  obtain ⟨a0, len0, cap0, rfl⟩ := okWide_slice Try.underlying22 hv
  obtain ⟨fuel, hf⟩ := h
  have c39 : Try.prog.cellsOf 39 = 3 := by kernel_rfl
  rcases DataW.trod_slice Try.underlying22 hf with ⟨hcs, _⟩ | ⟨a, len, cap, elems, rest, n, _, hcs, _, _, hlc, hcm, hel, hE, _⟩
  · simp [Value.cells] at hcs
    obtain ⟨rfl, rfl, rfl⟩ := hcs
    exact ⟨none, [], 0, rfl, fun i hi => absurd hi (Nat.not_lt_zero _)⟩
  · simp [Value.cells] at hcs
    obtain ⟨rfl, rfl, rfl⟩ := hcs
    rw [c39] at hE
    have hx : ∀ i, i < len0 → ∃ x : Int × Int × Bool, ∃ b off, a = ⟨b, off, none⟩ ∧ W.cell? ⟨b, off + i * 3, none⟩ = some (.int .i64 x.1) ∧ W.cell? ⟨b, off + i * 3 + 1, none⟩ = some (.int .i64 x.2.1) ∧ W.cell? ⟨b, off + i * 3 + 2, none⟩ = some (.bool x.2.2) ∧ x.2.1 ≤ 9223372036854775807 := by
      intro i hi
      have h1 := hE i hi
      have h2 : elems[i]? = some elems[i] := List.getElem?_eq_getElem (by omega)
      rw [h2] at h1
      obtain ⟨cs, hc1, hc2⟩ := Option.bind_eq_some_iff.1 h1
      obtain ⟨x, y, z, rfl, _, wy⟩ := cells_act hc2
      obtain ⟨_, _, hcell⟩ := World.cells?_some hc1
      have e0 := hcell 0 (by omega)
      have e1 := hcell 1 (by omega)
      have e2 := hcell 2 (by omega)
      obtain ⟨b, off, spot⟩ := a
      have h0i := hE 0 (by omega)
      rw [List.getElem?_eq_getElem (show 0 < elems.length by omega)] at h0i
      obtain ⟨cs0, hc01, hc02⟩ := Option.bind_eq_some_iff.1 h0i
      obtain ⟨x0, y0, z0, rfl, _, _⟩ := cells_act hc02
      have e00 := (World.cells?_some hc01).2.2 0 (by omega)
      have hspot : spot = none := by
        have : W.cell? ⟨b, off, spot⟩ = some (.int .i64 x0) := by simpa [Addr.add] using e00
        exact World.cell?_spot this
      subst hspot
      rw [Addr.add_lit, Addr.add_lit] at e0 e1 e2
      exact ⟨(x, y, z), b, off, rfl, by simpa using e0, by simpa using e1, by simpa using e2, top_i64 wy⟩
    obtain ⟨l, hl, hp⟩ := choose_list hx
    refine ⟨some a, l, cap0, by rw [hl], fun i hi => ?_⟩
    obtain ⟨b, off, rfl, q0, q1, q2, q3⟩ := hp i hi
    exact ⟨b, off, rfl, q0, q1, q2, q3⟩
theorem slice_len {H : Type} {enc : TypeId × Value → H} {W : World} {la : Option Addr} {n cap : Nat} {d : DataW H} {p : List MemPlace} (h : DataW.Trod enc Try.prog W 0 (fun _ => true) true 22 (.slice la n cap) d p)
    (hs : (DataW.weights Try.prog 22 d).all (· ≤ reachBytes) = true) : n ≤ 1000000000000000 := by
  obtain ⟨fuel, hf⟩ := h
  have b39 : Try.prog.bytesOf 39 = 24 := by kernel_rfl
  rcases DataW.trod_slice Try.underlying22 hf with ⟨hcs, _⟩ | ⟨a, len, cap0, elems, rest, m, _, hcs, hx, _, _, _, hel, _⟩
  · simp [Value.cells] at hcs
    omega
  · simp [Value.cells] at hcs
    obtain ⟨rfl, rfl, rfl⟩ := hcs
    simp only [Prod.mk.injEq] at hx
    rw [hx.1] at hs
    simp only [DataW.weights, Try.underlying22, List.all_cons, Bool.and_eq_true, b39, List.length_map, reachBytes] at hs
    have hr := of_decide_eq_true hs.1
    omega

set_option maxRecDepth 100000 in
theorem lifted (os : Os) (started : os.Started) (H : Type) (enc : TypeId × Value → H) :
    ReturnsInHanded {} Try.checked os 3 .any (Rows.rttPlaysSpec.pre6 enc Try.prog Try.f3 Rows.rttPlaysRow.domain false) (Rows.rttPlaysSpec.post enc Try.prog Try.f3 false true false false) := by
  refine returnsInHanded_of_change_sized (C := Try.checked) own started (by kernel_rfl) Try.func3
    (ChangeSpec.witness6 (enc := enc) (C := Try.checked) false ⟨#[], #[.int .i64 0, .slice none 0 0, .int .i64 0], []⟩ 8 (by kernel_rfl) (by kernel_rfl) (by kernel_rfl) (by kernel_rfl)) ?_
  intro W base args ds gs before hval0 hW hcnd hsz0 _
  have hval : ∀ (j : Nat) t v, Try.f3.params[j]? = some t → args[j]? = some v → Value.okWide Try.prog W .any base t v := hval0
  have hsz : (DataW.weightsEach Try.prog (Try.f3.params.toList ++ Rows.rttPlaysSpec.plain.varTypes Try.prog) (ds ++ gs)).all (· ≤ reachBytes) = true := hsz0
  have hW' := hW
  obtain ⟨p, q, hA0, hV, rfl, hfz, hnd⟩ := hW
  have hA : DataW.TrodAll enc Try.prog W 0 (fun _ => true) true Try.f3.params.toList args.toList ds p := hA0
  rw [Try.params3] at hA hval hsz
  obtain ⟨v0, vs0, d0, ds0, p0, q0, hargs, rfl, rfl, h0, r0⟩ := trodAll_cons hA
  obtain ⟨v1, vs1, d1, ds1, p1, q1, rfl, rfl, rfl, h1, r1⟩ := trodAll_cons r0
  obtain ⟨v2, vs2, d2, ds2, p2, q2, rfl, rfl, rfl, h2, r2⟩ := trodAll_cons r1
  obtain ⟨rfl, rfl, rfl⟩ := trodAll_nil r2
  obtain rfl : args = #[v0, v1, v2] := by cases args; simp_all
  obtain ⟨rfl, rfl⟩ := trodVars_none hV
  obtain ⟨m, rfl, rfl, rfl, w0⟩ := open_int Try.underlying3 (hval 0 3 v0 rfl rfl) h0
  obtain ⟨t, rfl, rfl, rfl, w2⟩ := open_int Try.underlying3 (hval 2 3 v2 rfl rfl) h2
  have k1 := h1
  have lt1 : ∀ x ∈ p1, x.block < W.heap.size := by obtain ⟨m, hm⟩ := k1; exact DataW.trod_lt m _ _ _ hm
  have hs1 : (DataW.weights Try.prog 22 d1).all (· ≤ reachBytes) = true := by simp only [List.cons_append, DataW.weightsEach, List.all_append, Bool.and_eq_true] at hsz; exact hsz.2.1
  obtain ⟨la, l, cap, rfl, hAr⟩ := open_acts (hval 1 22 v1 rfl rfl) h1
  have hlen := slice_len k1 hs1
  clear hA0 hval0
  refine (plays_walk rsam rsno m la cap l t W hAr hlen).mono fun e W' ⟨he, bel⟩ => ?_
  subst he
  exact ⟨_, rfl, _, _, _, [], _, [], hW', trodAll_mk1 (shut_bool Try.underlying4 _), (trodAll_cons_mk (shut_int Try.underlying3 w0) (trodAll_cons_mk (Below.trod laidOut (by kernel_rfl) (of_decide_eq_true (by kernel_rfl)) k1 bel lt1) (trodAll_cons_mk (shut_int Try.underlying3 w2) trodAll_mk0))), rfl, bel.frame _, fun h => by cases h⟩

theorem over : Rows.rttPlaysRow.holds Try.pinned (OpenSpec.ofChange Rows.rttPlaysSpec) :=
  OpenClaim.holds_of_wide 3 Try.f3 rfl rfl rfl rfl rfl rfl rfl ⟨rfl, rfl, rfl, rfl, rfl⟩ rfl rfl rfl rfl rfl (by kernel_rfl) Try.func3 (by kernel_rfl)
    (of_decide_eq_true (by kernel_rfl)) (by unfold Func.isWrapper; first | (rw [if_pos (by decide +kernel)]; kernel_rfl) | (rw [if_neg (by decide +kernel)]; exact ⟨rfl, rfl⟩))
    (fun os started H enc _ => lifted os started H enc)

/-- THE STATEMENT -/
theorem proved : Rows.RttPlaysSaid :=
  over
#print axioms proved
end Go.Proofs.Ythjfhckpgindfaa.rttPlays
