/- PROVED: the card of caravellaw04.FrameShorter (P4.6), full: whatever bytes, what frame.Read reads of them is the empty frame, with no place behind it, where it tells an error; else frame.Put tells of it, unless its data or its padding is more than 2^20 bytes, which Put refuses, bytes that are at most as many as it stood in, and that are read as the same frame, as far as they reach. A byte 1 is read as a ping. Conditions: the table octet.widths, the sentinel frame.errWide and the handle errors.errorType, laid by the program's own text (tied; the tie is to the pruned copy of the project). -/
import Derived.Test.YtaeapgkfmofjlaaDoorPg
import Derived.Test.YtaeapgkfmofjlaaDoorOe
import Derived.Test.YtaeapgkfmofjlaaDoorCards
import Derived.Test.YtaeapgkfmofjlaaDoorTie
import Derived.ProofKit
import Derived.LaidMore
import Derived.OpenShut
import Derived.ShutString
import Derived.ChangeOld
import Derived.Below
import Derived.Stop.Joined
import Derived.SizedLaws
import Derived.Lib.LaidTab
import Derived.SevenTiedAt
import Derived.RowKitTokens
import Derived.LaidLaws
import Derived.Stop.ErrReads
namespace Go.Proofs.YtaeapgkfmofjlaaDoor.frameShorter
open Go.ChangeShapes Go.WideShapes Go.ChangeAt Go.WideMaps Go.WideElems Go.RowKit
set_option linter.unusedVariables false

theorem own : ownKnob Tryd.prog.godebug = none := by kernel_rfl
theorem laidOut : laidOutB Tryd.prog = true := by kernel_rfl
theorem gW : Tryd.prog.globalNamed "caravel/octet.widths" = some 2 := by kernel_rfl
theorem tW : (Tryd.prog.globals[2]?).map (·.type) = some 129 := by kernel_rfl
theorem gE : Tryd.prog.globalNamed "caravel/frame.errWide" = some 0 := by kernel_rfl
theorem tE : (Tryd.prog.globals[0]?).map (·.type) = some 38 := by kernel_rfl
theorem cells180 : Tryd.prog.cellsOf 180 = 1 := by kernel_rfl
theorem cells9 : Tryd.prog.cellsOf 9 = 1 := by kernel_rfl
theorem star : "*" ++ "errors.errorString" = "*errors.errorString" := by decide
theorem row155 (u : TypeId) (h : Tryd.prog.typeName? 3 u = some "*errors.errorString") : u = 155 :=
  typeName_ptr_named (nm := "errors.errorString") (by rw [star]; kernel_rfl) (by kernel_rfl) (by decide) u (by rw [star]; exact h)
abbrev laid1 : List (String × DataW Unit) := [("errors.errorType", Rows.laid_errors_errorType), ("caravel/octet.widths", Rows.laid_caravel_octet_widths), ("caravel/frame.errWide", Rows.laid_caravel_frame_errWide)]

/-- The door's own heap meets the condition. -/
theorem door_met (os : Os) (args : Array Value) : laidMetH Tryd.prog laid1 ((World.doorLaid Tryd.prog 40 os).forCall (fun _ _ => 0) ⟨#[], args, []⟩).memory :=
  laidMetH_of_parts3 (fuel := 8) (laidMet_of_run' 8 (by kernel_rfl) (by kernel_rfl)) (by kernel_rfl) (by kernel_rfl)

/-- The one type of that name. -/
theorem row_error (ty : Nat) (h : ty < Tryd.prog.types.size) (hn : Tryd.prog.rowNamed ty [101, 114, 114, 111, 114] = true) : ty = 38 := by
  have hall : ((List.range Tryd.prog.types.size).all fun t => !(Tryd.prog.rowNamed t [101, 114, 114, 111, 114]) || t == 38) = true := by kernel_rfl
  have := List.all_eq_true.1 hall ty (List.mem_range.2 h)
  rw [hn] at this
  simpa using this

/-- The handle of the type error. -/
theorem of_handle {W : World} (h : laidMetH Tryd.prog laid1 W) : W.cell? ⟨1, 0, none⟩ = some (rtp 38) := by
  have h3 := h.2 ("errors.errorType", Rows.laid_errors_errorType) List.mem_cons_self
  have hf : (Rows.laid_errors_errorType (H := Unit)).funcsIn? = none := by kernel_rfl
  simp only [hf] at h3
  obtain ⟨name, u, ty, e1, e2, hlt, hrow, hv⟩ := h3
  have en : (Rows.laid_errors_errorType (H := Unit)).handleName? = some [101, 114, 114, 111, 114] := by kernel_rfl
  have eu : (Tryd.prog.cutTypes.find? (·.1 == "internal/reflectlite.rtype")).map (·.2) = some 135 := by kernel_rfl
  obtain rfl : [101, 114, 114, 111, 114] = name := Option.some.inj (en.symm.trans e1)
  obtain rfl : 135 = u := Option.some.inj (eu.symm.trans e2)
  obtain rfl := row_error ty hlt hrow
  have eg : Tryd.prog.globalNamed "errors.errorType" = some 1 := by kernel_rfl
  unfold World.var? at hv
  rw [eg] at hv
  simp only [Option.bind_some] at hv
  unfold World.cell?
  have hh : typeHandle Tryd.prog 38 = hdl 38 := by kernel_rfl
  rw [hh] at hv
  split at hv
  · rename_i cs t f hc
    rw [hc]
    obtain rfl : cs = _ := Option.some.inj hv
    rfl
  · cases hv

set_option maxRecDepth 100000 in
/-- What the condition gives the walk: the table's four cells, the sentinel's own cell (an error of errors.New's make) and the handle. -/
theorem of_laid {W : World} (h : laidMetH Tryd.prog laid1 W) : ∃ wa, Gl W wa := by
  have hh := of_handle h
  have h1 : laidMet Tryd.prog [("caravel/octet.widths", Rows.laid_caravel_octet_widths), ("caravel/frame.errWide", Rows.laid_caravel_frame_errWide)] W := h.1
  clear h
  have hT : Lib.TabIs Tryd.prog W "caravel/octet.widths" .i64 [1, 2, 4, 8] := Lib.tabIs_of_head (rest := [("caravel/frame.errWide", Rows.laid_caravel_frame_errWide)]) gW tW Tryd.underlying129 Tryd.underlying3 (by kernel_rfl) (by kernel_rfl) h1
  obtain ⟨ps, ⟨g0, t0, cs0, f0, p0, q0, hg0, ht0, hv0, hd0, ⟨g1, t1, cs1, f1, p1, q1, hg1, ht1, hv1, hd1, hq1, e1⟩, e0⟩, hnd, hrows⟩ := h1
  obtain rfl := Option.some.inj (gE.symm.trans hg1)
  obtain rfl := Option.some.inj (tE.symm.trans ht1)
  have hq1' : q1 = [] := hq1
  subst hq1'
  subst e1
  subst e0
  obtain ⟨l1⟩ := cs1
  have ok1 : ∀ u v, l1 = [.iface u v] → Value.okWide Tryd.prog W .any 0 u v := fun u v e => by
    subst e
    exact (hrows 0 0 (by simp [MemPlace.row])).2 u v (by simpa using World.var?_cell hg1 hv1 0)
  obtain ⟨a1, s1, rfl, hc1, hs1, hz1, rfl⟩ := errorString_of_trod Tryd.underlying38 row155 Tryd.underlying155 Tryd.underlying180 rfl rfl Tryd.underlying9 cells180 cells9 hd1 ok1
  refine ⟨some a1, ⟨hT.cell gW 0 (by decide), hT.cell gW 1 (by decide), hT.cell gW 2 (by decide), hT.cell gW 3 (by decide)⟩, ?_, hh⟩
  have := World.var?_cell hg1 hv1 0
  simpa [eV] using this


set_option maxRecDepth 100000 in
theorem lifted (os : Os) (started : os.Started) (H : Type) (enc : TypeId × Value → H) :
    ReturnsInHanded {} Tryd.checked os 7 .any (fun w args => (Rows.frameShorterSpec.pre enc Tryd.prog Tryd.f7 [] false w args ∧ laidMetH Tryd.prog laid1 w) ∧ sizedMet enc Tryd.prog Tryd.f7 (OpenSpec.ofChange Rows.frameShorterSpec) false w args)
      (Rows.frameShorterSpec.post enc Tryd.prog Tryd.f7 false true false false) := by
  refine returnsInHanded_of_change_and (C := Tryd.checked) (X := fun w _ => laidMetH Tryd.prog laid1 w) (fun _ _ _ hh h => h.of_heap hh) own started (by kernel_rfl) Tryd.func7
    (ChangeSpec.witness_shaped (enc := enc) (C := Tryd.checked) (os := os) (X := fun w _ => laidMetH Tryd.prog laid1 w) false (World.doorLaid Tryd.prog 40 os) #[.slice none 0 0] 8 rfl (World.shaped_of_RefB (by kernel_rfl) (by kernel_rfl)) (by kernel_rfl) (by kernel_rfl) (by kernel_rfl) (door_met os _)) ?_
  intro W base args ds gs before hval0 hW _ hsz0 hL _
  have hval : ∀ (j : Nat) t v, Tryd.f7.params[j]? = some t → args[j]? = some v → Value.okWide Tryd.prog W .any base t v := hval0
  have hsz : (DataW.weightsEach Tryd.prog (Tryd.f7.params.toList ++ Rows.frameShorterSpec.plain.varTypes Tryd.prog) (ds ++ gs)).all (· ≤ reachBytes) = true := hsz0
  have hW' := hW
  obtain ⟨p, q, hA0, hV, rfl, hfz, hnd⟩ := hW
  have hA : DataW.TrodAll enc Tryd.prog W 0 (fun _ => true) true Tryd.f7.params.toList args.toList ds p := hA0
  rw [Tryd.params7] at hA hval hsz
  obtain ⟨v0, vs0, d0, ds0, p0, q0, hargs, rfl, rfl, h0, r0⟩ := trodAll_cons hA
  obtain ⟨rfl, rfl, rfl⟩ := trodAll_nil r0
  obtain rfl : args = #[v0] := by cases args; simp_all
  obtain ⟨rfl, rfl⟩ := trodVars_none hV
  obtain ⟨a0, len0, cap0, rfl⟩ := okWide_slice Tryd.underlying22 (hval 0 22 v0 rfl rfl)
  have k0 := h0
  have lt0 : ∀ x ∈ p0, x.block < W.heap.size := by obtain ⟨m, hm⟩ := k0; exact DataW.trod_lt m _ _ _ hm
  obtain ⟨l0, e0, w0, b0, c0, m0, n0⟩ : ∃ l : List UInt8, l.length = len0 ∧ Sl W a0 l ∧ l.length ≤ 140737488351232 ∧ len0 ≤ cap0 ∧ cap0 ≤ 9223372036854775807 ∧ (a0 = none → len0 = 0 ∧ cap0 = 0) := by
    obtain ⟨fuel, hf⟩ := h0
    rcases open_ints Tryd.underlying22 Tryd.underlying5 (by kernel_rfl) hf with ⟨hcs, _⟩ | ⟨x, l, c, zs, hcs, _, hl, hm, hz, hx, hcell, hwz⟩
    · simp [Value.cells] at hcs
      obtain ⟨rfl, rfl, rfl⟩ := hcs
      exact ⟨[], rfl, fun j hj => absurd hj (by simp), by decide, by decide, by decide, fun _ => ⟨rfl, rfl⟩⟩
    · simp [Value.cells] at hcs
      obtain ⟨rfl, rfl, rfl⟩ := hcs
      simp only [Prod.mk.injEq] at hx
      rw [hx.1] at hsz
      have hr := sized_slice hsz (j := 0) (t := 22) (e := 5) rfl rfl Tryd.underlying22
      have hb5 : Tryd.prog.bytesOf 5 = 1 := by kernel_rfl
      rw [hb5] at hr
      simp only [lits, List.length_map, List.length_take, List.length_drop, reachBytes] at hr
      have hz' := hz
      rw [if_pos rfl] at hz'
      obtain ⟨L, g1, g2, g3⟩ := row_bytes hl hz' hcell hwz (by omega)
      exact ⟨L, g1, g2, g3, hl, by unfold maxLen at hm; omega, fun h => by cases h⟩
  subst e0
  clear hA0 hval0
  have hT := of_laid hL
  refine (short_walk a0 l0 cap0 W hT.choose hT.choose_spec w0 c0 (by omega)).mono fun e W' ⟨he, bel⟩ => ?_
  subst he
  exact ⟨_, rfl, _, _, _, [], _, [], hW', trodAll_mk1 (shut_bool Tryd.underlying4 _), (trodAll_cons_mk (Below.trod laidOut (by kernel_rfl) (of_decide_eq_true (by kernel_rfl)) k0 bel lt0) trodAll_mk0), rfl, bel.frame _, fun h => by cases h⟩

theorem over : Rows.FrameShorterSaid :=
  OpenClaim.holds_of_wide 7 Tryd.f7 rfl rfl rfl rfl rfl rfl rfl ⟨rfl, rfl, rfl, rfl, rfl⟩ rfl rfl rfl rfl rfl (by kernel_rfl) Tryd.func7 (by kernel_rfl)
    (of_decide_eq_true (by kernel_rfl)) (by unfold Func.isWrapper; first | (rw [if_pos (by decide +kernel)]; kernel_rfl) | (rw [if_neg (by decide +kernel)]; exact ⟨rfl, rfl⟩))
    (fun os started H enc _ => lifted os started H enc)

/-- THE TIED CARD -/
theorem proved : Rows.FrameShorterCardSaid :=
  Claim7.holds_tied_plain_at .later [] [.handle, .data, .sentinel] true (true, "f0f5389f84b40886d1386ea2c0511cfb17e64c05d498d32bdc48637dee682802") true
    over (fun _ h => by cases h) (by kernel_rfl) (fun _ h => by cases h) frameShorter_row_tie rfl ⟨rfl, rfl⟩ (by kernel_rfl) rfl
    (fun f fn hf hfn => by
      obtain rfl : f = 7 := Option.some.inj ((show Tryd.prog.funcNamed "caravel/caravellaw04.FrameShorter" = some 7 by kernel_rfl).symm.trans hf) |>.symm
      obtain rfl : fn = Tryd.f7 := (Option.some.inj (Tryd.func7.symm.trans hfn)).symm
      exact ⟨by kernel_rfl, fun j t ht => by
        rw [Tryd.params7] at ht
        have hm : t ∈ [22] := by simpa using Array.mem_of_getElem? ht
        have hall : ([22].all fun u => !Tryd.prog.wantsStandIn u) = true := by kernel_rfl
        exact (show Tryd.prog.wantsStandIn t = false by simpa using List.all_eq_true.1 hall t hm)⟩)
    (by kernel_rfl)
#print axioms proved
end Go.Proofs.YtaeapgkfmofjlaaDoor.frameShorter
