/- PROVED: the card of caravellaw13.HandshakeNobody (P13.1, P13.6; DOC.md, rule 1), full: whatever the side and the bytes, Start and Take of a machine that is nil, or that no call made, answer no event and ErrNil, its Info is all zero, and New without a vault, of a server without a book, and of a server with a book that no call made answers no machine and ErrNil; the call returns true and leaves its arguments as they were. Condition: the variable errors.errorType holds the handle of the type error, laid by the program's own text (tied; the tie is to the pruned copy of the project). -/
import Derived.Test.YthdenbclfogojaaGreatDoorNl
import Derived.Test.YthdenbclfogojaaGreatDoorCards
import Derived.Test.YthdenbclfogojaaGreatDoorTie
import Derived.ProofKit
import Derived.LaidMore
import Derived.OpenShut
import Derived.ShutString
import Derived.ChangeOld
import Derived.Below
import Derived.Stop.Joined
import Derived.SizedLaws
import Derived.SliceStrings
import Derived.Lib.LaidTab
import Derived.SevenTiedAt
namespace Go.Proofs.YthdenbclfogojaaGreatDoor.handshakeNobody
open Go.ChangeShapes Go.WideShapes Go.ChangeAt Go.WideMaps Go.WideElems Go.RowKit
set_option linter.unusedVariables false

theorem own : ownKnob Tryz.prog.godebug = none := by kernel_rfl
theorem laidOut : laidOutB Tryz.prog = true := by kernel_rfl
abbrev laid1 : List (String × DataW Unit) := [("errors.errorType", Rows.laid_errors_errorType)]

/-- The door's own heap meets the condition. -/
theorem door_met (os : Os) (args : Array Value) : laidMetH Tryz.prog laid1 ((World.doorLaid Tryz.prog 40 os).forCall (fun _ _ => 0) ⟨#[], args, []⟩).memory :=
  laidMetH_of_parts3 (fuel := 8) (laidMet_of_run' 8 (by kernel_rfl) (by kernel_rfl)) (by kernel_rfl) (by kernel_rfl)
section
variable {H : Type} {enc : TypeId × Value → H} {W : World}
theorem field_bytes {n : Nat} {c : Value} {y : DataW H × List MemPlace} (h : DataW.trod enc Tryz.prog W 0 (fun _ => true) true n 23 [c] = some y) (hsz : (DataW.weights Tryz.prog 23 y.1).all (· ≤ reachBytes) = true) :
    ∃ ao n cap, c = .slice ao n cap ∧ Sw W 1 ao n cap := by
  rcases open_ints Tryz.underlying23 Tryz.underlying5 (by kernel_rfl) h with ⟨hcs, _⟩ | ⟨x, l, c', zs, hcs, _, hl, hm, hz, hx, hcell, hwz⟩
  · simp only [List.cons.injEq, and_true] at hcs
    subst hcs
    exact ⟨none, 0, 0, rfl, Sw.none23 W⟩
  · simp only [List.cons.injEq, and_true] at hcs
    subst hcs
    have hz' := hz
    rw [if_pos rfl] at hz'
    have hb5 : Tryz.prog.bytesOf 5 = 1 := by kernel_rfl
    rw [hx] at hsz
    simp only [DataW.weights, Tryz.underlying23, List.all_cons, Bool.and_eq_true, decide_eq_true_eq, hb5] at hsz
    have hr := hsz.1
    simp only [lits, List.length_map, List.length_take, List.length_drop, reachBytes] at hr
    refine ⟨some x, l, c', rfl, ⟨(zs.take l).map (fun z => Value.int .u8 z), by simp; omega, ?_, ?_⟩, by omega, fun h => nomatch h⟩
    · intro j u hu
      refine ⟨x, rfl, ?_⟩
      rw [List.getElem?_map] at hu
      have hj : j < l := by
        refine Nat.lt_of_not_le fun hge => ?_
        rw [List.getElem?_eq_none (by simp; omega)] at hu
        cases hu
      rw [List.getElem?_take_of_lt hj, List.getElem?_eq_getElem (by omega)] at hu
      obtain rfl := Option.some.inj hu
      rw [hcell j (by omega)]
      simp [List.getD, List.getElem?_eq_getElem (show j < zs.length by omega)]
    · intro u hu
      obtain ⟨z, _, rfl⟩ := List.mem_map.1 hu
      rfl
set_option maxRecDepth 10000 in
theorem field_names {n : Nat} {c : Value} {y : DataW H × List MemPlace} (h : DataW.trod enc Tryz.prog W 0 (fun _ => true) true n 22 [c] = some y) (hsz : (DataW.weights Tryz.prog 22 y.1).all (· ≤ reachBytes) = true) :
    ∃ ao n cap, c = .slice ao n cap ∧ Sw W 16 ao n cap := by
  rcases open_strings Tryz.underlying22 Tryz.underlying9 (by kernel_rfl) h with ⟨hcs, _⟩ | ⟨a, len, cap, ss, hcs, _, hl, hm, hz, hx, hcell, hwz⟩
  · simp only [List.cons.injEq, and_true] at hcs
    subst hcs
    exact ⟨none, 0, 0, rfl, ⟨[], rfl, fun j u h => by simp at h, fun u h => by simp at h⟩, by decide, fun _ => ⟨rfl, rfl⟩⟩
  · simp only [List.cons.injEq, and_true] at hcs
    subst hcs
    have hz' := hz
    rw [if_pos rfl] at hz'
    have hb9 : Tryz.prog.bytesOf 9 = 16 := by kernel_rfl
    rw [hx] at hsz
    simp only [DataW.weights, Tryz.underlying22, List.all_cons, Bool.and_eq_true, decide_eq_true_eq, hb9] at hsz
    have hr := hsz.1
    simp only [strs, List.length_map, List.length_take, List.length_drop, reachBytes] at hr
    refine ⟨some a, len, cap, rfl, ⟨(ss.take len).map Value.string, by simp; omega, ?_, ?_⟩, by omega, fun h => nomatch h⟩
    · intro j u hu
      refine ⟨a, rfl, ?_⟩
      rw [List.getElem?_map] at hu
      have hj : j < len := by
        refine Nat.lt_of_not_le fun hge => ?_
        rw [List.getElem?_eq_none (by simp; omega)] at hu
        cases hu
      rw [List.getElem?_take_of_lt hj, List.getElem?_eq_getElem (by omega)] at hu
      obtain rfl := Option.some.inj hu
      rw [hcell j (by omega)]
      simp [List.getD, List.getElem?_eq_getElem (show j < ss.length by omega)]
    · intro u hu
      obtain ⟨z, _, rfl⟩ := List.mem_map.1 hu
      rfl
theorem list6 {α : Type} {xs : List α} (h : xs.length = 6) : ∃ a b c d e f, xs = [a, b, c, d, e, f] := by
  match xs, h with
  | [a, b, c, d, e, f], _ => exact ⟨a, b, c, d, e, f, rfl⟩
set_option maxRecDepth 10000 in
theorem open_side {base : Nat} {v : Value} {d : DataW H} {p : List MemPlace} (hv : Value.okWide Tryz.prog W .any base 25 v) (h : DataW.Trod enc Tryz.prog W 0 (fun _ => true) true 25 v d p) (hsz : (DataW.weights Tryz.prog 25 d).all (· ≤ reachBytes) = true) :
    ∃ (nm : ByteArray) (o1 : Option Addr) (n1 c1 : Nat) (o2 : Option Addr) (n2 c2 : Nat) (ea : Bool) (li tr : Int), v = .agg #[.string nm, .slice o1 n1 c1, .slice o2 n2 c2, .bool ea, .int .i64 li, .int .i64 tr] ∧ Sw W 16 o1 n1 c1 ∧ Sw W 1 o2 n2 c2 := by
  obtain ⟨cs, rfl, hcs⟩ := okWide_struct Tryz.underlying25 hv
  have c25 : Tryz.prog.cellsOf 25 = 6 := by kernel_rfl
  have c3 : Tryz.prog.cellsOf 3 = 1 := by kernel_rfl
  have c4 : Tryz.prog.cellsOf 4 = 1 := by kernel_rfl
  have c9 : Tryz.prog.cellsOf 9 = 1 := by kernel_rfl
  have c22 : Tryz.prog.cellsOf 22 = 1 := by kernel_rfl
  have c23 : Tryz.prog.cellsOf 23 = 1 := by kernel_rfl
  rw [c25] at hcs
  obtain ⟨fuel, hf⟩ := h
  obtain ⟨xs, m, _, hx, hl, hlen, hfld⟩ := DataW.trod_struct Tryz.underlying25 hf
  obtain ⟨y0, y1, y2, y3, y4, y5, rfl⟩ := list6 hlen
  obtain ⟨a0, a1, a2, a3, a4, a5, hL⟩ := list6 (xs := cs.toList) (by simpa using hcs)
  have hcl : (Value.agg cs).cells.toList = [a0, a1, a2, a3, a4, a5] := hL
  rw [hcl] at hfld hl
  have g0 : DataW.trod enc Tryz.prog W 0 (fun _ => true) true m 9 [a0] = some y0 := by have := hfld 0 _ rfl; simpa [c9] using this
  have g1 : DataW.trod enc Tryz.prog W 0 (fun _ => true) true m 22 [a1] = some y1 := by have := hfld 1 _ rfl; simpa [c22] using this
  have g2 : DataW.trod enc Tryz.prog W 0 (fun _ => true) true m 23 [a2] = some y2 := by have := hfld 2 _ rfl; simpa [c23] using this
  have g3 : DataW.trod enc Tryz.prog W 0 (fun _ => true) true m 4 [a3] = some y3 := by have := hfld 3 _ rfl; simpa [c4] using this
  have g4 : DataW.trod enc Tryz.prog W 0 (fun _ => true) true m 3 [a4] = some y4 := by have := hfld 4 _ rfl; simpa [c3] using this
  have g5 : DataW.trod enc Tryz.prog W 0 (fun _ => true) true m 3 [a5] = some y5 := by have := hfld 5 _ rfl; simpa [c3] using this
  simp only [Prod.mk.injEq, List.map_cons, List.map_nil] at hx
  rw [hx.1] at hsz
  simp only [DataW.weights, Tryz.underlying25, List.map_cons, List.map_nil, DataW.weightsEach, List.all_append, Bool.and_eq_true] at hsz
  obtain ⟨_, z1, z2, _⟩ := hsz
  obtain ⟨nm, e0, _, w0⟩ := DataW.trod_string Tryz.underlying9 g0
  obtain ⟨o1, n1, c1, rfl, s1⟩ := field_names g1 z1
  obtain ⟨o2, n2, c2, rfl, s2⟩ := field_bytes g2 z2
  obtain ⟨ea, e3, _⟩ := DataW.trod_bool Tryz.underlying4 g3
  obtain ⟨li, e4, _, w4⟩ := DataW.trod_int Tryz.underlying3 g4
  obtain ⟨tr, e5, _, w5⟩ := DataW.trod_int Tryz.underlying3 g5
  simp only [List.cons.injEq, and_true] at e0 e3 e4 e5
  subst e0 e3 e4 e5
  refine ⟨nm, o1, n1, c1, o2, n2, c2, ea, li, tr, ?_, s1, s2⟩
  congr 1
  apply Array.ext'
  exact hL
end
set_option maxRecDepth 100000 in
theorem lifted (os : Os) (started : os.Started) (H : Type) (enc : TypeId × Value → H) :
    ReturnsInHanded {} Tryz.checked os 3 .any (fun w args => (Rows.handshakeNobodySpec.pre enc Tryz.prog Tryz.f3 [] false w args ∧ laidMetH Tryz.prog laid1 w) ∧ sizedMet enc Tryz.prog Tryz.f3 (OpenSpec.ofChange Rows.handshakeNobodySpec) false w args)
      (Rows.handshakeNobodySpec.post enc Tryz.prog Tryz.f3 false true false false) := by
  refine returnsInHanded_of_change_and (C := Tryz.checked) (X := fun w _ => laidMetH Tryz.prog laid1 w) (fun _ _ _ hh h => h.of_heap hh) own started (by kernel_rfl) Tryz.func3
    (ChangeSpec.witness_shaped (enc := enc) (C := Tryz.checked) (os := os) (X := fun w _ => laidMetH Tryz.prog laid1 w) false (World.doorLaid Tryz.prog 40 os) #[.agg #[.string ⟨#[]⟩, .slice none 0 0, .slice none 0 0, .bool false, .int .i64 0, .int .i64 0], .slice none 0 0] 8 rfl (World.shaped_of_RefB (by kernel_rfl) (by kernel_rfl)) (by kernel_rfl) (by kernel_rfl) (by kernel_rfl) (door_met os _)) ?_
  intro W base args ds gs before hval0 hW _ hsz0 hL _
  have hval : ∀ (j : Nat) t v, Tryz.f3.params[j]? = some t → args[j]? = some v → Value.okWide Tryz.prog W .any base t v := hval0
  have hW' := hW
  obtain ⟨p, q, hA0, hV, rfl, hfz, hnd⟩ := hW
  have hA : DataW.TrodAll enc Tryz.prog W 0 (fun _ => true) true Tryz.f3.params.toList args.toList ds p := hA0
  have hsz : (DataW.weightsEach Tryz.prog (Tryz.f3.params.toList ++ Rows.handshakeNobodySpec.plain.varTypes Tryz.prog) (ds ++ gs)).all (· ≤ reachBytes) = true := hsz0
  rw [Tryz.params3] at hA hval hsz
  obtain ⟨v0, vs0, d0, ds0, p0, q0, hargs, rfl, rfl, h0, r0⟩ := trodAll_cons hA
  obtain ⟨v1, vs1, d1, ds1, p1, q1, rfl, rfl, rfl, h1, r1⟩ := trodAll_cons r0
  obtain ⟨rfl, rfl, rfl⟩ := trodAll_nil r1
  obtain rfl : args = #[v0, v1] := by cases args; simp_all
  obtain ⟨rfl, rfl⟩ := trodVars_none hV
  have k0 := h0
  have k1 := h1
  have lt0 : ∀ x ∈ p0, x.block < W.heap.size := by obtain ⟨m, hm⟩ := k0; exact DataW.trod_lt m _ _ _ hm
  have lt1 : ∀ x ∈ p1, x.block < W.heap.size := by obtain ⟨m, hm⟩ := k1; exact DataW.trod_lt m _ _ _ hm
  have hs0 : (DataW.weights Tryz.prog 25 d0).all (· ≤ reachBytes) = true := by simp only [List.cons_append, DataW.weightsEach, List.all_append, Bool.and_eq_true] at hsz; exact hsz.1
  obtain ⟨nm, o1, n1, c1, o2, n2, c2, ea, li, tr, rfl, s1, s2⟩ := open_side (hval 0 25 v0 rfl rfl) h0 hs0
  obtain ⟨o3, n3, c3, rfl⟩ : ∃ o n c, v1 = .slice o n c := okWide_slice Tryz.underlying23 (hval 1 23 v1 rfl rfl)
  clear hA0 hval0
  refine (nobody_law nm o1 n1 c1 o2 n2 c2 ea li tr o3 n3 c3 W s1 s2).mono fun e W' ⟨he, bel⟩ => ?_
  subst he
  exact ⟨_, rfl, _, _, _, [], _, [], hW', trodAll_mk1 (shut_bool Tryz.underlying4 _), (trodAll_cons_mk (Below.trod laidOut (by kernel_rfl) (of_decide_eq_true (by kernel_rfl)) k0 bel lt0) (trodAll_cons_mk (Below.trod laidOut (by kernel_rfl) (of_decide_eq_true (by kernel_rfl)) k1 bel lt1) trodAll_mk0)), rfl, bel.frame _, fun h => by cases h⟩

theorem over : Rows.HandshakeNobodySaid :=
  OpenClaim.holds_of_wide 3 Tryz.f3 rfl rfl rfl rfl rfl rfl rfl ⟨rfl, rfl, rfl, rfl, rfl⟩ rfl rfl rfl rfl rfl (by kernel_rfl) Tryz.func3 (by kernel_rfl)
    (of_decide_eq_true (by kernel_rfl)) (by unfold Func.isWrapper; first | (rw [if_pos (by decide +kernel)]; kernel_rfl) | (rw [if_neg (by decide +kernel)]; exact ⟨rfl, rfl⟩))
    (fun os started H enc _ => lifted os started H enc)

/-- THE TIED CARD -/
theorem proved : Rows.HandshakeNobodyCardSaid :=
  Claim7.holds_tied_plain_at .later [] [.handle] true (true, "0c67e3e4e4fb4363ef0fc08de0a958b5259f4aac0795f951b75edcc90872168e") true
    over (fun _ h => by cases h) (by kernel_rfl) (fun _ h => by cases h) handshakeNobody_row_tie rfl ⟨rfl, rfl⟩ (by kernel_rfl) rfl
    (fun f fn hf hfn => by
      obtain rfl : f = 3 := Option.some.inj ((show Tryz.prog.funcNamed "caravel/caravellaw13.HandshakeNobody" = some 3 by kernel_rfl).symm.trans hf) |>.symm
      obtain rfl : fn = Tryz.f3 := (Option.some.inj (Tryz.func3.symm.trans hfn)).symm
      exact ⟨by kernel_rfl, fun j t ht => by
        rw [Tryz.params3] at ht
        have hm : t ∈ [25, 23] := by simpa using Array.mem_of_getElem? ht
        have hall : ([25, 23].all fun u => !Tryz.prog.wantsStandIn u) = true := by kernel_rfl
        exact (show Tryz.prog.wantsStandIn t = false by simpa using List.all_eq_true.1 hall t hm)⟩)
    (by kernel_rfl)
#print axioms proved
end Go.Proofs.YthdenbclfogojaaGreatDoor.handshakeNobody
