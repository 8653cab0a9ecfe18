/- frame.Read, of every place within, over what closing answers. -/
import Derived.Test.YtaeapgkfmofjlaaDoorMf
namespace Go.Proofs.YtaeapgkfmofjlaaDoor
open Go.ChangeShapes Go.WideShapes Go.ChangeAt Go.RowKit
set_option linter.unusedVariables false
set_option maxRecDepth 100000

/-- What a fault is closed with. -/
def Cls (B : Nat) (w' : World) (k e : Int) (v : Value) : Prop := if e = 2 then v = .iface 29 (.int .i64 2) else ∃ P, v = .iface 83 (.pointer (some ⟨P, 0, none⟩)) ∧ B ≤ P ∧ w'.heap[P]? = some (.cells #[.int .i64 (if e = -1 then 10 else 7), .bool false, .int .i64 k, .int .i64 (if e = -1 then 11 else e)] 87 (0, 0))
/-- What closing answers. -/
def ClsC (wa : Option Addr) (e : Int) : Prop := ∀ (k : Int) (w : World), w.cell? ⟨0, 0, none⟩ = some (eV wa (-1)) → w.cell? ⟨1, 0, none⟩ = some (.iface 135 (.agg #[.pointer (some ⟨3, 38, none⟩)])) → Calls Tryd.prog 31 #[.int .i64 k, eV wa e] w fun e' w' => ∃ v, e' = .returned v ∧ Cls w.heap.size w' k e v ∧ Below w.heap.size w w'
/-- What is read, and where, and with which verdict. -/
def rdS (l : List UInt8) (at' : Nat) : Fa × Sq := if (xK l at').2.2 ≠ 0 then (ab (fz 0) dz, (xK l at').2) else yW (xK l at').1 l (ab (bgF (xK l at').1) dz, (xK l at').2)
def rdE (l : List UInt8) (at' : Nat) : Int := if (rdS l at').2.2 ≠ 0 then (rdS l at').2.2 else if mayB (rdS l at').1 = false then 11 else 0
theorem i69s : (Tryd.prog.info? 69).map (·.size) = some 3 := by kernel_rfl
theorem results_ctt {P : Program} {fn : Func} {p a b : Tmp} {ty : TypeId} (h : fn.results = #[.cell p ty, .tmp a, .tmp b]) (tmps : Array Value) (w : World) (g : Nat) (t : TypeId) (cs : Array Value) (fr : Nat × Nat) (d : TypeDesc)
    (hp : tmps.getD p undef = .pointer (some ⟨g, 0, none⟩)) (hg : w.heap[g]? = some (.cells cs t fr)) (hu : P.underlying ty = some d) (hd : (match d with | .struct _ | .array _ _ => true | _ => false) = true) (hi : (P.info? ty).map (·.size) = some cs.size) :
    (results fn tmps).run P w = .ok (.tuple #[.agg cs, tmps.getD a undef, tmps.getD b undef]) w := by
  have hp' : tmps[p]?.getD undef = .pointer (some ⟨g, 0, none⟩) := by simpa using hp
  simp [results, h, hp', asAddr, run_loadVar_row w g t ty cs fr d hg hu hd hi]
/-- A struct loaded where a guard lets it. -/
theorem wpList_load_row_g {P : Program} {ops : Array Oper} {rest : List Oper} {o : Oper} {a : Act} {w : World} {Q : Exit → Act → World → Prop} (hw : Region.wanted o (yielded ops a.tmps) = true) (ty : TypeId) (x : Operand) (ho : o.op = .load ty x)
    (g : Nat) (hx : a.eval x = .pointer (some ⟨g, 0, none⟩)) (t : TypeId) (cs : Array Value) (fr : Nat × Nat) (d : TypeDesc) (hg : w.heap[g]? = some (.cells cs t fr))
    (hu : P.underlying ty = some d) (hd : (match d with | .struct _ | .array _ _ => true | _ => false) = true) (hi : (P.info? ty).map (·.size) = some cs.size)
    (h : wpList P ops Q rest (a.put o.dst (.agg cs)) w) : wpList P ops Q (o :: rest) a w :=
  BigFrame.wpList_want hw fun _ hK => wp_load_row ty x ho g hx t cs fr d hg hu hd hi (hK _ _ h)
theorem fz_by (k : Int) (a b : Bool) (w : World) (B p F : Nat) (hB : B ≤ F) : Fg w B p F { fz k with len := a, fin := b } dz :=
  ⟨hB, rfl, rfl, rfl, rfl, rfl, rfl, rfl, ⟨rfl, .inl ⟨rfl, rfl⟩⟩, (fun o n c e => by cases e), ⟨rfl, .inl ⟨rfl, rfl⟩⟩, (fun o n c e => by cases e), ⟨rfl, .inl ⟨rfl, rfl⟩⟩, (fun o n c e => by cases e)⟩
theorem bgF_by (k : Int) (w : World) (B p F : Nat) (hB : B ≤ F) : Fg w B p F (bgF k) dz := by
  unfold bgF
  split
  · exact fz_by 8 _ _ w B p F hB
  · exact fz_by k false false w B p F hB
theorem Fg.on' {w : World} {lo p F : Nat} {f : Fr} {d : Da} (h : Fg w lo p F f d) : On f d := by
  obtain ⟨ao, c, e, _, _, k1, k2, _⟩ := h.bD.parts
  obtain ⟨ao', c', e', _, _, k1', k2', _⟩ := h.bI.parts
  exact ⟨h.vD, h.vA, h.vI, h.vR, h.vT, h.r16, h.t8, by omega, by omega⟩
theorem xK_at (l : List UInt8) (a : Nat) (h : a ≤ l.length) : (xK l a).2.1 ≤ l.length := by
  unfold xK
  split
  · rename_i hE
    obtain ⟨b, hb, h1, h2⟩ := vN_rng hE
    show (vN l a).toNat ≤ _
    rw [hb]
    simpa using h2
  · exact h
theorem xK_kd (l : List UInt8) (a : Nat) (h : (xK l a).2.2 = 0) : isKd (xK l a).1 = true := by
  unfold xK at *
  split at h
  · rename_i hE
    dsimp only at h
    rw [if_pos hE]
    dsimp only
    split at h
    · cases h
    · split at h
      · assumption
      · cases h
  · cases h
/-- What Read leaves, where nothing is wrong. -/
def RdOk (w w' : World) (l : List UInt8) (at' : Nat) (e : Ending) : Prop := ∃ f d p F, e = .returned (.tuple #[.agg f.cells.toArray, .int .i64 (rdS l at').2.1, .nilIface]) ∧ ab f d = (rdS l at').1 ∧ Fg w' w.heap.size p F f d
def RdNo (w w' : World) (l : List UInt8) (at' : Nat) (e : Ending) : Prop := ∃ v, e = .returned (.tuple #[.agg (fz 0).cells.toArray, .int .i64 0, v]) ∧ Cls w.heap.size w' (xK l at').1 (rdE l at') v
end Go.Proofs.YtaeapgkfmofjlaaDoor
