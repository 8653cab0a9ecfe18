/-
  NARROWER THAN 'FOR EVERY INPUT', by the rows' own cells (each row's printed sentence says how): ProtectPackets: laid · ProtectNobody: laid · ProtectBack: laid.
  DERIVED. THE GIVEN ROWS OF THIS SEAT. 3 by the template 'for every input the law returns true; each argument reads behind the call as it read before'; 0 by the template 'total and deterministic' (their statements: YtdklkofnekacdaaGreatDoorTotals.lean).
  GIVEN WITH THE SEED: the statements are not yours to turn. If you find one false, say at which input.
  Laid BY PROGRAM, IN A SANDBOX (cutbox-rows.mjs): the forced cells as the released guide's own fill.sh prints them over the translation 1bdf49ce179cfa47… (all of the seat's roots in one cut). By AI agents, Wed Nov 11 2026. No macro, syntax, notation, axiom, sorry.
-/
import Derived.Test.YtdklkofnekacdaaGreatDoorChecked
import GoSem.Claim
import GoSem.ClaimJoined
import GoSem.ClaimMapViews
import Derived.JoinedTies
import Derived.KernelRfl
namespace Go.Proofs.YtdklkofnekacdaaGreatDoor
/- THE CELL 'sum', in the pinned program and in every row, IS THE sha256 OF THE DUMP (.gsa) THAT YtdklkofnekacdaaGreatDoorProg.lean LOADS. Nothing in Lean hashes anything: it is a label: what it is worth is what the hold of that sum in a sandbox is worth. -/
noncomputable def Tryz.pinned : Pinned := { name := "ytdklkofnekacdaagreatdoor", sum := "1bdf49ce179cfa4725fa539f8cea356cbe10d52e7ea5d25b03b7a10c30863405", checked := Tryz.checked }
namespace Rows
def none {H : Type} : Left H := { results := [], args := [] }

/- WHAT THE LISTED PACKAGE-LEVEL VARIABLES READ AS WHEN THE CALL BEGINS. Each datum BY PROGRAM (the guide's laid-datum.mjs) off the statement by which the dump's own 'gosem.cut.vars' lays the variable. In a bare row this is a premise. The card (YtdklkofnekacdaaGreatDoorCards.lean) ties it to the program's text. -/
def laid_errors_errorType {H : Type} : DataW H := .iface "internal/reflectlite.rtype" (.agg [.ptr (.lit (.string [101, 114, 114, 111, 114]))])
def laid_caravel_octet_widths {H : Type} : DataW H := .agg [.lit (.int .i64 1), .lit (.int .i64 2), .lit (.int .i64 4), .lit (.int .i64 8)]

/-- 'caravellaw10.ProtectPackets': WHATEVER THE INPUT: true; the input reads as it did. -/
def protectPacketsSpec : ChangeSpec := { name := "protectPackets", fn := fun _ => fun
  | [d] => { results := [.lit (.bool true)], args := [d] }
  | _ => none }
def protectPacketsRow : OpenClaim := { program := "ytdklkofnekacdaagreatdoor", sum := "1bdf49ce179cfa4725fa539f8cea356cbe10d52e7ea5d25b03b7a10c30863405", func := "caravel/caravellaw10.ProtectPackets", spec := "protectPackets", inPlace := ["internal/reflectlite.TypeOf", "internal/reflectlite.ValueOf", "(internal/reflectlite.Value).Type", "(internal/reflectlite.Value).IsNil", "(internal/reflectlite.Value).Elem", "(internal/reflectlite.Value).Set"], unfollowed := true, recurses := true, named := ["caravel/octet.widths", "errors.errorType"], plainKeys := false, apart := false, laid := [("errors.errorType", laid_errors_errorType), ("caravel/octet.widths", laid_caravel_octet_widths)] }
def ProtectPacketsSaid : Prop := protectPacketsRow.holds Tryz.pinned (OpenSpec.ofChange protectPacketsSpec)

/-- ITS FALSE NEIGHBOUR: 'it returns false'. Refute it at one input. -/
def protectPacketsWrong : ChangeSpec := { name := "protectPackets", fn := fun _ => fun
  | [d] => { results := [.lit (.bool false)], args := [d] }
  | _ => none }
def ProtectPacketsWrongFalsely : Prop := protectPacketsRow.holds Tryz.pinned (OpenSpec.ofChange protectPacketsWrong)

/-- 'caravellaw10.ProtectNobody': WHATEVER THE INPUT: true; the input reads as it did. -/
def protectNobodySpec : ChangeSpec := { name := "protectNobody", fn := fun _ => fun
  | [d] => { results := [.lit (.bool true)], args := [d] }
  | _ => none }
def protectNobodyRow : OpenClaim := { program := "ytdklkofnekacdaagreatdoor", sum := "1bdf49ce179cfa4725fa539f8cea356cbe10d52e7ea5d25b03b7a10c30863405", func := "caravel/caravellaw10.ProtectNobody", spec := "protectNobody", inPlace := ["internal/reflectlite.TypeOf", "internal/reflectlite.ValueOf", "(internal/reflectlite.Value).Type", "(internal/reflectlite.Value).IsNil", "(internal/reflectlite.Value).Elem", "(internal/reflectlite.Value).Set"], unfollowed := true, recurses := true, named := ["caravel/octet.widths", "errors.errorType"], plainKeys := false, apart := false, laid := [("errors.errorType", laid_errors_errorType), ("caravel/octet.widths", laid_caravel_octet_widths)] }
def ProtectNobodySaid : Prop := protectNobodyRow.holds Tryz.pinned (OpenSpec.ofChange protectNobodySpec)

/-- ITS FALSE NEIGHBOUR: 'it returns false'. Refute it at one input. -/
def protectNobodyWrong : ChangeSpec := { name := "protectNobody", fn := fun _ => fun
  | [d] => { results := [.lit (.bool false)], args := [d] }
  | _ => none }
def ProtectNobodyWrongFalsely : Prop := protectNobodyRow.holds Tryz.pinned (OpenSpec.ofChange protectNobodyWrong)

/-- 'caravellaw10.ProtectBack': WHATEVER THE INPUT: true; the input reads as it did. -/
def protectBackSpec : ChangeSpec := { name := "protectBack", fn := fun _ => fun
  | [d1, d2] => { results := [.lit (.bool true)], args := [d1, d2] }
  | _ => none }
def protectBackRow : OpenClaim := { program := "ytdklkofnekacdaagreatdoor", sum := "1bdf49ce179cfa4725fa539f8cea356cbe10d52e7ea5d25b03b7a10c30863405", func := "caravel/caravellaw10.ProtectBack", spec := "protectBack", inPlace := ["internal/reflectlite.TypeOf"], unfollowed := true, recurses := true, named := ["caravel/octet.widths"], plainKeys := false, apart := false, laid := [("caravel/octet.widths", laid_caravel_octet_widths)] }
def ProtectBackSaid : Prop := protectBackRow.holds Tryz.pinned (OpenSpec.ofChange protectBackSpec)

/-- ITS FALSE NEIGHBOUR: 'it returns false'. Refute it at one input. -/
def protectBackWrong : ChangeSpec := { name := "protectBack", fn := fun _ => fun
  | [d1, d2] => { results := [.lit (.bool false)], args := [d1, d2] }
  | _ => none }
def ProtectBackWrongFalsely : Prop := protectBackRow.holds Tryz.pinned (OpenSpec.ofChange protectBackWrong)

/- THE SECOND FORM. 'bulk': how many values and letters a reading holds, each counted each time it is reached (what is shared counts as often as it is met; a slice's spare places count too). A statement '..UptoSaid' is the law's where the arguments, and the package variables that the reading takes, are together of bulk at most 1048576: NARROWER than '..Said'. Prove '..Said' where nothing that the law and all that it calls make is longer than what came in: it says more and counts as full. Else prove '..UptoSaid'. A law counts once. -/
mutual
def uptoBulk {H : Type} : DataW H → Nat
  | .lit (.string bytes) => bytes.length + 1
  | .lit _ => 1
  | .nil => 1
  | .ptr d => uptoBulk d + 1
  | .slice elems spare => uptoBulkAll elems + uptoBulkAll spare + 1
  | .agg parts => uptoBulkAll parts + 1
  | .iface _ d => uptoBulk d + 1
  | .map entries => uptoBulkEntries entries + 1
  | .held _ => 1
def uptoBulkAll {H : Type} : List (DataW H) → Nat
  | [] => 0
  | d :: r => uptoBulk d + uptoBulkAll r
def uptoBulkEntries {H : Type} : List (Lit × DataW H) → Nat
  | [] => 0
  | x :: r => uptoBulkEntry x + uptoBulkEntries r
def uptoBulkEntry {H : Type} : Lit × DataW H → Nat
  | (.string bytes, d) => bytes.length + uptoBulk d + 1
  | (_, d) => uptoBulk d + 1
 end
def uptoSmall : (H : Type) → List (DataW H) → Bool := fun _ ds => decide (uptoBulkAll ds ≤ 1048576)
def OpenSpec.upto (s : _root_.Go.ChangeSpec) : _root_.Go.OpenSpec := { _root_.Go.OpenSpec.ofChange s with cond := some uptoSmall }

/-- 'caravellaw10.ProtectPackets', WHERE WHAT IT READS IS OF BULK AT MOST 1048576: true; the input reads as it did. -/
def protectPacketsUptoRow : OpenClaim := { program := "ytdklkofnekacdaagreatdoor", sum := "1bdf49ce179cfa4725fa539f8cea356cbe10d52e7ea5d25b03b7a10c30863405", func := "caravel/caravellaw10.ProtectPackets", spec := "protectPackets", inPlace := ["internal/reflectlite.TypeOf", "internal/reflectlite.ValueOf", "(internal/reflectlite.Value).Type", "(internal/reflectlite.Value).IsNil", "(internal/reflectlite.Value).Elem", "(internal/reflectlite.Value).Set"], unfollowed := true, recurses := true, named := ["caravel/octet.widths", "errors.errorType"], plainKeys := false, apart := false, laid := [("errors.errorType", laid_errors_errorType), ("caravel/octet.widths", laid_caravel_octet_widths)], narrowed := true }
def ProtectPacketsUptoSaid : Prop := protectPacketsUptoRow.holds Tryz.pinned (OpenSpec.upto protectPacketsSpec)

/-- 'caravellaw10.ProtectNobody', WHERE WHAT IT READS IS OF BULK AT MOST 1048576: true; the input reads as it did. -/
def protectNobodyUptoRow : OpenClaim := { program := "ytdklkofnekacdaagreatdoor", sum := "1bdf49ce179cfa4725fa539f8cea356cbe10d52e7ea5d25b03b7a10c30863405", func := "caravel/caravellaw10.ProtectNobody", spec := "protectNobody", inPlace := ["internal/reflectlite.TypeOf", "internal/reflectlite.ValueOf", "(internal/reflectlite.Value).Type", "(internal/reflectlite.Value).IsNil", "(internal/reflectlite.Value).Elem", "(internal/reflectlite.Value).Set"], unfollowed := true, recurses := true, named := ["caravel/octet.widths", "errors.errorType"], plainKeys := false, apart := false, laid := [("errors.errorType", laid_errors_errorType), ("caravel/octet.widths", laid_caravel_octet_widths)], narrowed := true }
def ProtectNobodyUptoSaid : Prop := protectNobodyUptoRow.holds Tryz.pinned (OpenSpec.upto protectNobodySpec)

/-- 'caravellaw10.ProtectBack', WHERE WHAT IT READS IS OF BULK AT MOST 1048576: true; the input reads as it did. -/
def protectBackUptoRow : OpenClaim := { program := "ytdklkofnekacdaagreatdoor", sum := "1bdf49ce179cfa4725fa539f8cea356cbe10d52e7ea5d25b03b7a10c30863405", func := "caravel/caravellaw10.ProtectBack", spec := "protectBack", inPlace := ["internal/reflectlite.TypeOf"], unfollowed := true, recurses := true, named := ["caravel/octet.widths"], plainKeys := false, apart := false, laid := [("caravel/octet.widths", laid_caravel_octet_widths)], narrowed := true }
def ProtectBackUptoSaid : Prop := protectBackUptoRow.holds Tryz.pinned (OpenSpec.upto protectBackSpec)

end Rows
end Go.Proofs.YtdklkofnekacdaaGreatDoor
