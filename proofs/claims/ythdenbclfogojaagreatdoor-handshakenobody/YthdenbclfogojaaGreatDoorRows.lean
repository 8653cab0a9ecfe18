/-
  NARROWER THAN 'FOR EVERY INPUT', by the rows' own cells (each row's printed sentence says how): HandshakeNobody: laid · HandshakeCompletes: laid · HandshakeAgrees: laid · HandshakeCuts: laid.
  DERIVED. THE GIVEN ROWS OF THIS SEAT. 4 by the template 'for every input the law returns true; each argument reads behind the call as it read before'; 0 by the template 'total and deterministic' (their statements: YthdenbclfogojaaGreatDoorTotals.lean).
  GIVEN WITH THE SEED: the statements are not yours to turn. If you find one false, say at which input.
  Laid BY PROGRAM, IN A SANDBOX (cutbox-rows.mjs): the forced cells as the released guide's own fill.sh prints them over the translation fb16e7a9bbf4ec89… (all of the seat's roots in one cut). By AI agents, Wed Nov 11 2026. No macro, syntax, notation, axiom, sorry.
-/
import Derived.Test.YthdenbclfogojaaGreatDoorChecked
import GoSem.Claim
import GoSem.ClaimJoined
import GoSem.ClaimMapViews
import Derived.JoinedTies
import Derived.KernelRfl
namespace Go.Proofs.YthdenbclfogojaaGreatDoor
/- THE CELL 'sum', in the pinned program and in every row, IS THE sha256 OF THE DUMP (.gsa) THAT YthdenbclfogojaaGreatDoorProg.lean LOADS. Nothing in Lean hashes anything: it is a label: what it is worth is what the hold of that sum in a sandbox is worth. -/
noncomputable def Tryz.pinned : Pinned := { name := "ythdenbclfogojaagreatdoor", sum := "fb16e7a9bbf4ec890f9f6fad4b77e6b410f8f7a4a00962c012c83a7fed94a687", checked := Tryz.checked }
namespace Rows
def none {H : Type} : Left H := { results := [], args := [] }

/- WHAT THE LISTED PACKAGE-LEVEL VARIABLES READ AS WHEN THE CALL BEGINS. Each datum BY PROGRAM (the guide's laid-datum.mjs) off the statement by which the dump's own 'gosem.cut.vars' lays the variable. In a bare row this is a premise. The card (YthdenbclfogojaaGreatDoorCards.lean) ties it to the program's text. -/
def laid_errors_errorType {H : Type} : DataW H := .iface "internal/reflectlite.rtype" (.agg [.ptr (.lit (.string [101, 114, 114, 111, 114]))])

/-- 'caravellaw13.HandshakeNobody': WHATEVER THE INPUT: true; the input reads as it did. -/
def handshakeNobodySpec : ChangeSpec := { name := "handshakeNobody", fn := fun _ => fun
  | [d1, d2] => { results := [.lit (.bool true)], args := [d1, d2] }
  | _ => none }
def handshakeNobodyRow : OpenClaim := { program := "ythdenbclfogojaagreatdoor", sum := "fb16e7a9bbf4ec890f9f6fad4b77e6b410f8f7a4a00962c012c83a7fed94a687", func := "caravel/caravellaw13.HandshakeNobody", spec := "handshakeNobody", inPlace := ["internal/reflectlite.ValueOf", "(internal/reflectlite.Value).Type", "(internal/reflectlite.Value).IsNil", "internal/reflectlite.TypeOf", "(internal/reflectlite.Value).Elem", "(internal/reflectlite.Value).Set"], unfollowed := true, recurses := true, named := ["errors.errorType"], plainKeys := false, apart := false, laid := [("errors.errorType", laid_errors_errorType)] }
def HandshakeNobodySaid : Prop := handshakeNobodyRow.holds Tryz.pinned (OpenSpec.ofChange handshakeNobodySpec)

/-- ITS FALSE NEIGHBOUR: 'it returns false'. Refute it at one input. -/
def handshakeNobodyWrong : ChangeSpec := { name := "handshakeNobody", fn := fun _ => fun
  | [d1, d2] => { results := [.lit (.bool false)], args := [d1, d2] }
  | _ => none }
def HandshakeNobodyWrongFalsely : Prop := handshakeNobodyRow.holds Tryz.pinned (OpenSpec.ofChange handshakeNobodyWrong)

/-- 'caravellaw13.HandshakeCompletes': WHATEVER THE INPUT: true; the input reads as it did. -/
def handshakeCompletesSpec : ChangeSpec := { name := "handshakeCompletes", fn := fun _ => fun
  | [d1, d2] => { results := [.lit (.bool true)], args := [d1, d2] }
  | _ => none }
def handshakeCompletesRow : OpenClaim := { program := "ythdenbclfogojaagreatdoor", sum := "fb16e7a9bbf4ec890f9f6fad4b77e6b410f8f7a4a00962c012c83a7fed94a687", func := "caravel/caravellaw13.HandshakeCompletes", spec := "handshakeCompletes", inPlace := ["internal/reflectlite.ValueOf", "(internal/reflectlite.Value).Type", "(internal/reflectlite.Value).IsNil", "internal/reflectlite.TypeOf", "(internal/reflectlite.Value).Elem", "(internal/reflectlite.Value).Set"], unfollowed := true, recurses := true, named := ["errors.errorType"], plainKeys := false, apart := false, laid := [("errors.errorType", laid_errors_errorType)] }
def HandshakeCompletesSaid : Prop := handshakeCompletesRow.holds Tryz.pinned (OpenSpec.ofChange handshakeCompletesSpec)

/-- ITS FALSE NEIGHBOUR: 'it returns false'. Refute it at one input. -/
def handshakeCompletesWrong : ChangeSpec := { name := "handshakeCompletes", fn := fun _ => fun
  | [d1, d2] => { results := [.lit (.bool false)], args := [d1, d2] }
  | _ => none }
def HandshakeCompletesWrongFalsely : Prop := handshakeCompletesRow.holds Tryz.pinned (OpenSpec.ofChange handshakeCompletesWrong)

/-- 'caravellaw13.HandshakeAgrees': WHATEVER THE INPUT: true; the input reads as it did. -/
def handshakeAgreesSpec : ChangeSpec := { name := "handshakeAgrees", fn := fun _ => fun
  | [d1, d2] => { results := [.lit (.bool true)], args := [d1, d2] }
  | _ => none }
def handshakeAgreesRow : OpenClaim := { program := "ythdenbclfogojaagreatdoor", sum := "fb16e7a9bbf4ec890f9f6fad4b77e6b410f8f7a4a00962c012c83a7fed94a687", func := "caravel/caravellaw13.HandshakeAgrees", spec := "handshakeAgrees", inPlace := ["internal/reflectlite.ValueOf", "(internal/reflectlite.Value).Type", "(internal/reflectlite.Value).IsNil", "internal/reflectlite.TypeOf", "(internal/reflectlite.Value).Elem", "(internal/reflectlite.Value).Set"], unfollowed := true, recurses := true, named := ["errors.errorType"], plainKeys := false, apart := false, laid := [("errors.errorType", laid_errors_errorType)] }
def HandshakeAgreesSaid : Prop := handshakeAgreesRow.holds Tryz.pinned (OpenSpec.ofChange handshakeAgreesSpec)

/-- ITS FALSE NEIGHBOUR: 'it returns false'. Refute it at one input. -/
def handshakeAgreesWrong : ChangeSpec := { name := "handshakeAgrees", fn := fun _ => fun
  | [d1, d2] => { results := [.lit (.bool false)], args := [d1, d2] }
  | _ => none }
def HandshakeAgreesWrongFalsely : Prop := handshakeAgreesRow.holds Tryz.pinned (OpenSpec.ofChange handshakeAgreesWrong)

/-- 'caravellaw13.HandshakeCuts': WHATEVER THE INPUT: true; the input reads as it did. -/
def handshakeCutsSpec : ChangeSpec := { name := "handshakeCuts", fn := fun _ => fun
  | [d1, d2, d3] => { results := [.lit (.bool true)], args := [d1, d2, d3] }
  | _ => none }
def handshakeCutsRow : OpenClaim := { program := "ythdenbclfogojaagreatdoor", sum := "fb16e7a9bbf4ec890f9f6fad4b77e6b410f8f7a4a00962c012c83a7fed94a687", func := "caravel/caravellaw13.HandshakeCuts", spec := "handshakeCuts", inPlace := ["internal/reflectlite.ValueOf", "(internal/reflectlite.Value).Type", "(internal/reflectlite.Value).IsNil", "internal/reflectlite.TypeOf", "(internal/reflectlite.Value).Elem", "(internal/reflectlite.Value).Set"], unfollowed := true, recurses := true, named := ["errors.errorType"], plainKeys := false, apart := false, laid := [("errors.errorType", laid_errors_errorType)] }
def HandshakeCutsSaid : Prop := handshakeCutsRow.holds Tryz.pinned (OpenSpec.ofChange handshakeCutsSpec)

/-- ITS FALSE NEIGHBOUR: 'it returns false'. Refute it at one input. -/
def handshakeCutsWrong : ChangeSpec := { name := "handshakeCuts", fn := fun _ => fun
  | [d1, d2, d3] => { results := [.lit (.bool false)], args := [d1, d2, d3] }
  | _ => none }
def HandshakeCutsWrongFalsely : Prop := handshakeCutsRow.holds Tryz.pinned (OpenSpec.ofChange handshakeCutsWrong)

/- THE SECOND FORM. 'bulk': how many values and letters a reading holds, each counted each time it is reached (what is shared counts as often as it is met; a slice's spare places count too). A statement '..UptoSaid' is the law's where the arguments, and the package variables that the reading takes, are together of bulk at most 1048576: NARROWER than '..Said'. Prove '..Said' where nothing that the law and all that it calls make is longer than what came in: it says more and counts as full. Else prove '..UptoSaid'. A law counts once. -/
mutual
def uptoBulk {H : Type} : DataW H → Nat
  | .lit (.string bytes) => bytes.length + 1
  | .lit _ => 1
  | .nil => 1
  | .ptr d => uptoBulk d + 1
  | .slice elems spare => uptoBulkAll elems + uptoBulkAll spare + 1
  | .agg parts => uptoBulkAll parts + 1
  | .iface _ d => uptoBulk d + 1
  | .map entries => uptoBulkEntries entries + 1
  | .held _ => 1
def uptoBulkAll {H : Type} : List (DataW H) → Nat
  | [] => 0
  | d :: r => uptoBulk d + uptoBulkAll r
def uptoBulkEntries {H : Type} : List (Lit × DataW H) → Nat
  | [] => 0
  | x :: r => uptoBulkEntry x + uptoBulkEntries r
def uptoBulkEntry {H : Type} : Lit × DataW H → Nat
  | (.string bytes, d) => bytes.length + uptoBulk d + 1
  | (_, d) => uptoBulk d + 1
 end
def uptoSmall : (H : Type) → List (DataW H) → Bool := fun _ ds => decide (uptoBulkAll ds ≤ 1048576)
def OpenSpec.upto (s : _root_.Go.ChangeSpec) : _root_.Go.OpenSpec := { _root_.Go.OpenSpec.ofChange s with cond := some uptoSmall }

/-- 'caravellaw13.HandshakeNobody', WHERE WHAT IT READS IS OF BULK AT MOST 1048576: true; the input reads as it did. -/
def handshakeNobodyUptoRow : OpenClaim := { program := "ythdenbclfogojaagreatdoor", sum := "fb16e7a9bbf4ec890f9f6fad4b77e6b410f8f7a4a00962c012c83a7fed94a687", func := "caravel/caravellaw13.HandshakeNobody", spec := "handshakeNobody", inPlace := ["internal/reflectlite.ValueOf", "(internal/reflectlite.Value).Type", "(internal/reflectlite.Value).IsNil", "internal/reflectlite.TypeOf", "(internal/reflectlite.Value).Elem", "(internal/reflectlite.Value).Set"], unfollowed := true, recurses := true, named := ["errors.errorType"], plainKeys := false, apart := false, laid := [("errors.errorType", laid_errors_errorType)], narrowed := true }
def HandshakeNobodyUptoSaid : Prop := handshakeNobodyUptoRow.holds Tryz.pinned (OpenSpec.upto handshakeNobodySpec)

/-- 'caravellaw13.HandshakeCompletes', WHERE WHAT IT READS IS OF BULK AT MOST 1048576: true; the input reads as it did. -/
def handshakeCompletesUptoRow : OpenClaim := { program := "ythdenbclfogojaagreatdoor", sum := "fb16e7a9bbf4ec890f9f6fad4b77e6b410f8f7a4a00962c012c83a7fed94a687", func := "caravel/caravellaw13.HandshakeCompletes", spec := "handshakeCompletes", inPlace := ["internal/reflectlite.ValueOf", "(internal/reflectlite.Value).Type", "(internal/reflectlite.Value).IsNil", "internal/reflectlite.TypeOf", "(internal/reflectlite.Value).Elem", "(internal/reflectlite.Value).Set"], unfollowed := true, recurses := true, named := ["errors.errorType"], plainKeys := false, apart := false, laid := [("errors.errorType", laid_errors_errorType)], narrowed := true }
def HandshakeCompletesUptoSaid : Prop := handshakeCompletesUptoRow.holds Tryz.pinned (OpenSpec.upto handshakeCompletesSpec)

/-- 'caravellaw13.HandshakeAgrees', WHERE WHAT IT READS IS OF BULK AT MOST 1048576: true; the input reads as it did. -/
def handshakeAgreesUptoRow : OpenClaim := { program := "ythdenbclfogojaagreatdoor", sum := "fb16e7a9bbf4ec890f9f6fad4b77e6b410f8f7a4a00962c012c83a7fed94a687", func := "caravel/caravellaw13.HandshakeAgrees", spec := "handshakeAgrees", inPlace := ["internal/reflectlite.ValueOf", "(internal/reflectlite.Value).Type", "(internal/reflectlite.Value).IsNil", "internal/reflectlite.TypeOf", "(internal/reflectlite.Value).Elem", "(internal/reflectlite.Value).Set"], unfollowed := true, recurses := true, named := ["errors.errorType"], plainKeys := false, apart := false, laid := [("errors.errorType", laid_errors_errorType)], narrowed := true }
def HandshakeAgreesUptoSaid : Prop := handshakeAgreesUptoRow.holds Tryz.pinned (OpenSpec.upto handshakeAgreesSpec)

/-- 'caravellaw13.HandshakeCuts', WHERE WHAT IT READS IS OF BULK AT MOST 1048576: true; the input reads as it did. -/
def handshakeCutsUptoRow : OpenClaim := { program := "ythdenbclfogojaagreatdoor", sum := "fb16e7a9bbf4ec890f9f6fad4b77e6b410f8f7a4a00962c012c83a7fed94a687", func := "caravel/caravellaw13.HandshakeCuts", spec := "handshakeCuts", inPlace := ["internal/reflectlite.ValueOf", "(internal/reflectlite.Value).Type", "(internal/reflectlite.Value).IsNil", "internal/reflectlite.TypeOf", "(internal/reflectlite.Value).Elem", "(internal/reflectlite.Value).Set"], unfollowed := true, recurses := true, named := ["errors.errorType"], plainKeys := false, apart := false, laid := [("errors.errorType", laid_errors_errorType)], narrowed := true }
def HandshakeCutsUptoSaid : Prop := handshakeCutsUptoRow.holds Tryz.pinned (OpenSpec.upto handshakeCutsSpec)

end Rows
end Go.Proofs.YthdenbclfogojaaGreatDoor
