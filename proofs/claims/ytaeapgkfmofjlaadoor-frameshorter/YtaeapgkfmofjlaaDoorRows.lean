/-
  NARROWER THAN 'FOR EVERY INPUT', by the rows' own cells (each row's printed sentence says how): FramePuts: laid · FrameReads: laid · FrameAll: laid · FrameBack: laid · FrameShorter: laid.
  DERIVED. THE GIVEN ROWS OF THIS SEAT. 5 by the template 'for every input the law returns true; each argument reads behind the call as it read before'; 0 by the template 'total and deterministic' (their statements: YtaeapgkfmofjlaaDoorTotals.lean).
  GIVEN WITH THE SEED: the statements are not yours to turn. If you find one false, say at which input.
  Laid BY PROGRAM, IN A SANDBOX (cutbox-rows.mjs): the forced cells as the released guide's own fill.sh prints them over the translation b197834528dfbe44… (all of the seat's roots in one cut). By AI agents, Wed Nov 11 2026. No macro, syntax, notation, axiom, sorry.
-/
import Derived.Test.YtaeapgkfmofjlaaDoorChecked
import GoSem.Claim
import GoSem.ClaimJoined
import GoSem.ClaimMapViews
import Derived.JoinedTies
import Derived.KernelRfl
namespace Go.Proofs.YtaeapgkfmofjlaaDoor
/- THE CELL 'sum', in the pinned program and in every row, IS THE sha256 OF THE DUMP (.gsa) THAT YtaeapgkfmofjlaaDoorProg.lean LOADS. Nothing in Lean hashes anything: it is a label: what it is worth is what the hold of that sum in a sandbox is worth. -/
noncomputable def Tryd.pinned : Pinned := { name := "ytaeapgkfmofjlaadoor", sum := "b197834528dfbe44b034cc4f4c1ea67248af7bfbe998accd893147ea629bb12d", checked := Tryd.checked }
namespace Rows
def none {H : Type} : Left H := { results := [], args := [] }

/- WHAT THE LISTED PACKAGE-LEVEL VARIABLES READ AS WHEN THE CALL BEGINS. Each datum BY PROGRAM (the guide's laid-datum.mjs) off the statement by which the dump's own 'gosem.cut.vars' lays the variable. In a bare row this is a premise. The card (YtaeapgkfmofjlaaDoorCards.lean) ties it to the program's text. -/
def laid_caravel_octet_widths {H : Type} : DataW H := .agg [.lit (.int .i64 1), .lit (.int .i64 2), .lit (.int .i64 4), .lit (.int .i64 8)]
def laid_errors_errorType {H : Type} : DataW H := .iface "internal/reflectlite.rtype" (.agg [.ptr (.lit (.string [101, 114, 114, 111, 114]))])
def laid_caravel_frame_errWide {H : Type} : DataW H := .iface "*errors.errorString" (.ptr (.agg [.lit (.string [102, 114, 97, 109, 101, 58, 32, 97, 32, 107, 105, 110, 100, 32, 105, 110, 32, 109, 111, 114, 101, 32, 98, 121, 116, 101, 115, 32, 116, 104, 97, 110, 32, 105, 116, 32, 110, 101, 101, 100, 115])]))

/-- 'caravellaw04.FramePuts': WHATEVER THE INPUT: true; the input reads as it did. -/
def framePutsSpec : ChangeSpec := { name := "framePuts", fn := fun _ => fun
  | [d] => { results := [.lit (.bool true)], args := [d] }
  | _ => none }
def framePutsRow : OpenClaim := { program := "ytaeapgkfmofjlaadoor", sum := "b197834528dfbe44b034cc4f4c1ea67248af7bfbe998accd893147ea629bb12d", func := "caravel/caravellaw04.FramePuts", spec := "framePuts", unfollowed := true, recurses := true, named := ["caravel/octet.widths"], apart := false, laid := [("caravel/octet.widths", laid_caravel_octet_widths)] }
def FramePutsSaid : Prop := framePutsRow.holds Tryd.pinned (OpenSpec.ofChange framePutsSpec)

/-- ITS FALSE NEIGHBOUR: 'it returns false'. Refute it at one input. -/
def framePutsWrong : ChangeSpec := { name := "framePuts", fn := fun _ => fun
  | [d] => { results := [.lit (.bool false)], args := [d] }
  | _ => none }
def FramePutsWrongFalsely : Prop := framePutsRow.holds Tryd.pinned (OpenSpec.ofChange framePutsWrong)

/-- 'caravellaw04.FrameReads': WHATEVER THE INPUT: true; the input reads as it did. -/
def frameReadsSpec : ChangeSpec := { name := "frameReads", fn := fun _ => fun
  | [d1, d2] => { results := [.lit (.bool true)], args := [d1, d2] }
  | _ => none }
def frameReadsRow : OpenClaim := { program := "ytaeapgkfmofjlaadoor", sum := "b197834528dfbe44b034cc4f4c1ea67248af7bfbe998accd893147ea629bb12d", func := "caravel/caravellaw04.FrameReads", spec := "frameReads", inPlace := ["internal/reflectlite.TypeOf", "internal/reflectlite.ValueOf", "(internal/reflectlite.Value).Type", "(internal/reflectlite.Value).IsNil", "(internal/reflectlite.Value).Elem", "(internal/reflectlite.Value).Set"], unfollowed := true, recurses := true, named := ["caravel/frame.errWide", "caravel/octet.widths", "errors.errorType"], apart := false, laid := [("errors.errorType", laid_errors_errorType), ("caravel/octet.widths", laid_caravel_octet_widths), ("caravel/frame.errWide", laid_caravel_frame_errWide)] }
def FrameReadsSaid : Prop := frameReadsRow.holds Tryd.pinned (OpenSpec.ofChange frameReadsSpec)

/-- ITS FALSE NEIGHBOUR: 'it returns false'. Refute it at one input. -/
def frameReadsWrong : ChangeSpec := { name := "frameReads", fn := fun _ => fun
  | [d1, d2] => { results := [.lit (.bool false)], args := [d1, d2] }
  | _ => none }
def FrameReadsWrongFalsely : Prop := frameReadsRow.holds Tryd.pinned (OpenSpec.ofChange frameReadsWrong)

/-- 'caravellaw04.FrameAll': WHATEVER THE INPUT: true; the input reads as it did. -/
def frameAllSpec : ChangeSpec := { name := "frameAll", fn := fun _ => fun
  | [d] => { results := [.lit (.bool true)], args := [d] }
  | _ => none }
def frameAllRow : OpenClaim := { program := "ytaeapgkfmofjlaadoor", sum := "b197834528dfbe44b034cc4f4c1ea67248af7bfbe998accd893147ea629bb12d", func := "caravel/caravellaw04.FrameAll", spec := "frameAll", inPlace := ["internal/reflectlite.TypeOf", "internal/reflectlite.ValueOf", "(internal/reflectlite.Value).Type", "(internal/reflectlite.Value).IsNil", "(internal/reflectlite.Value).Elem", "(internal/reflectlite.Value).Set"], unfollowed := true, recurses := true, named := ["caravel/frame.errWide", "caravel/octet.widths", "errors.errorType"], apart := false, laid := [("errors.errorType", laid_errors_errorType), ("caravel/octet.widths", laid_caravel_octet_widths), ("caravel/frame.errWide", laid_caravel_frame_errWide)] }
def FrameAllSaid : Prop := frameAllRow.holds Tryd.pinned (OpenSpec.ofChange frameAllSpec)

/-- ITS FALSE NEIGHBOUR: 'it returns false'. Refute it at one input. -/
def frameAllWrong : ChangeSpec := { name := "frameAll", fn := fun _ => fun
  | [d] => { results := [.lit (.bool false)], args := [d] }
  | _ => none }
def FrameAllWrongFalsely : Prop := frameAllRow.holds Tryd.pinned (OpenSpec.ofChange frameAllWrong)

/-- 'caravellaw04.FrameBack': WHATEVER THE INPUT: true; the input reads as it did. -/
def frameBackSpec : ChangeSpec := { name := "frameBack", fn := fun _ => fun
  | [d1, d2] => { results := [.lit (.bool true)], args := [d1, d2] }
  | _ => none }
def frameBackRow : OpenClaim := { program := "ytaeapgkfmofjlaadoor", sum := "b197834528dfbe44b034cc4f4c1ea67248af7bfbe998accd893147ea629bb12d", func := "caravel/caravellaw04.FrameBack", spec := "frameBack", inPlace := ["internal/reflectlite.TypeOf", "internal/reflectlite.ValueOf", "(internal/reflectlite.Value).Type", "(internal/reflectlite.Value).IsNil", "(internal/reflectlite.Value).Elem", "(internal/reflectlite.Value).Set"], unfollowed := true, recurses := true, named := ["caravel/octet.widths", "caravel/frame.errWide", "errors.errorType"], apart := false, laid := [("errors.errorType", laid_errors_errorType), ("caravel/octet.widths", laid_caravel_octet_widths), ("caravel/frame.errWide", laid_caravel_frame_errWide)] }
def FrameBackSaid : Prop := frameBackRow.holds Tryd.pinned (OpenSpec.ofChange frameBackSpec)

/-- ITS FALSE NEIGHBOUR: 'it returns false'. Refute it at one input. -/
def frameBackWrong : ChangeSpec := { name := "frameBack", fn := fun _ => fun
  | [d1, d2] => { results := [.lit (.bool false)], args := [d1, d2] }
  | _ => none }
def FrameBackWrongFalsely : Prop := frameBackRow.holds Tryd.pinned (OpenSpec.ofChange frameBackWrong)

/-- 'caravellaw04.FrameShorter': WHATEVER THE INPUT: true; the input reads as it did. -/
def frameShorterSpec : ChangeSpec := { name := "frameShorter", fn := fun _ => fun
  | [d] => { results := [.lit (.bool true)], args := [d] }
  | _ => none }
def frameShorterRow : OpenClaim := { program := "ytaeapgkfmofjlaadoor", sum := "b197834528dfbe44b034cc4f4c1ea67248af7bfbe998accd893147ea629bb12d", func := "caravel/caravellaw04.FrameShorter", spec := "frameShorter", inPlace := ["internal/reflectlite.TypeOf", "internal/reflectlite.ValueOf", "(internal/reflectlite.Value).Type", "(internal/reflectlite.Value).IsNil", "(internal/reflectlite.Value).Elem", "(internal/reflectlite.Value).Set"], unfollowed := true, recurses := true, named := ["caravel/frame.errWide", "caravel/octet.widths", "errors.errorType"], apart := false, laid := [("errors.errorType", laid_errors_errorType), ("caravel/octet.widths", laid_caravel_octet_widths), ("caravel/frame.errWide", laid_caravel_frame_errWide)] }
def FrameShorterSaid : Prop := frameShorterRow.holds Tryd.pinned (OpenSpec.ofChange frameShorterSpec)

/-- ITS FALSE NEIGHBOUR: 'it returns false'. Refute it at one input. -/
def frameShorterWrong : ChangeSpec := { name := "frameShorter", fn := fun _ => fun
  | [d] => { results := [.lit (.bool false)], args := [d] }
  | _ => none }
def FrameShorterWrongFalsely : Prop := frameShorterRow.holds Tryd.pinned (OpenSpec.ofChange frameShorterWrong)

/- THE SECOND FORM. 'bulk': how many values and letters a reading holds, each counted each time it is reached (what is shared counts as often as it is met; a slice's spare places count too). A statement '..UptoSaid' is the law's where the arguments, and the package variables that the reading takes, are together of bulk at most 1048576: NARROWER than '..Said'. Prove '..Said' where nothing that the law and all that it calls make is longer than what came in: it says more and counts as full. Else prove '..UptoSaid'. A law counts once. -/
mutual
def uptoBulk {H : Type} : DataW H → Nat
  | .lit (.string bytes) => bytes.length + 1
  | .lit _ => 1
  | .nil => 1
  | .ptr d => uptoBulk d + 1
  | .slice elems spare => uptoBulkAll elems + uptoBulkAll spare + 1
  | .agg parts => uptoBulkAll parts + 1
  | .iface _ d => uptoBulk d + 1
  | .map entries => uptoBulkEntries entries + 1
  | .held _ => 1
def uptoBulkAll {H : Type} : List (DataW H) → Nat
  | [] => 0
  | d :: r => uptoBulk d + uptoBulkAll r
def uptoBulkEntries {H : Type} : List (Lit × DataW H) → Nat
  | [] => 0
  | x :: r => uptoBulkEntry x + uptoBulkEntries r
def uptoBulkEntry {H : Type} : Lit × DataW H → Nat
  | (.string bytes, d) => bytes.length + uptoBulk d + 1
  | (_, d) => uptoBulk d + 1
 end
def uptoSmall : (H : Type) → List (DataW H) → Bool := fun _ ds => decide (uptoBulkAll ds ≤ 1048576)
def OpenSpec.upto (s : _root_.Go.ChangeSpec) : _root_.Go.OpenSpec := { _root_.Go.OpenSpec.ofChange s with cond := some uptoSmall }

/-- 'caravellaw04.FramePuts', WHERE WHAT IT READS IS OF BULK AT MOST 1048576: true; the input reads as it did. -/
def framePutsUptoRow : OpenClaim := { program := "ytaeapgkfmofjlaadoor", sum := "b197834528dfbe44b034cc4f4c1ea67248af7bfbe998accd893147ea629bb12d", func := "caravel/caravellaw04.FramePuts", spec := "framePuts", unfollowed := true, recurses := true, named := ["caravel/octet.widths"], apart := false, laid := [("caravel/octet.widths", laid_caravel_octet_widths)], narrowed := true }
def FramePutsUptoSaid : Prop := framePutsUptoRow.holds Tryd.pinned (OpenSpec.upto framePutsSpec)

/-- 'caravellaw04.FrameReads', WHERE WHAT IT READS IS OF BULK AT MOST 1048576: true; the input reads as it did. -/
def frameReadsUptoRow : OpenClaim := { program := "ytaeapgkfmofjlaadoor", sum := "b197834528dfbe44b034cc4f4c1ea67248af7bfbe998accd893147ea629bb12d", func := "caravel/caravellaw04.FrameReads", spec := "frameReads", inPlace := ["internal/reflectlite.TypeOf", "internal/reflectlite.ValueOf", "(internal/reflectlite.Value).Type", "(internal/reflectlite.Value).IsNil", "(internal/reflectlite.Value).Elem", "(internal/reflectlite.Value).Set"], unfollowed := true, recurses := true, named := ["caravel/frame.errWide", "caravel/octet.widths", "errors.errorType"], apart := false, laid := [("errors.errorType", laid_errors_errorType), ("caravel/octet.widths", laid_caravel_octet_widths), ("caravel/frame.errWide", laid_caravel_frame_errWide)], narrowed := true }
def FrameReadsUptoSaid : Prop := frameReadsUptoRow.holds Tryd.pinned (OpenSpec.upto frameReadsSpec)

/-- 'caravellaw04.FrameAll', WHERE WHAT IT READS IS OF BULK AT MOST 1048576: true; the input reads as it did. -/
def frameAllUptoRow : OpenClaim := { program := "ytaeapgkfmofjlaadoor", sum := "b197834528dfbe44b034cc4f4c1ea67248af7bfbe998accd893147ea629bb12d", func := "caravel/caravellaw04.FrameAll", spec := "frameAll", inPlace := ["internal/reflectlite.TypeOf", "internal/reflectlite.ValueOf", "(internal/reflectlite.Value).Type", "(internal/reflectlite.Value).IsNil", "(internal/reflectlite.Value).Elem", "(internal/reflectlite.Value).Set"], unfollowed := true, recurses := true, named := ["caravel/frame.errWide", "caravel/octet.widths", "errors.errorType"], apart := false, laid := [("errors.errorType", laid_errors_errorType), ("caravel/octet.widths", laid_caravel_octet_widths), ("caravel/frame.errWide", laid_caravel_frame_errWide)], narrowed := true }
def FrameAllUptoSaid : Prop := frameAllUptoRow.holds Tryd.pinned (OpenSpec.upto frameAllSpec)

/-- 'caravellaw04.FrameBack', WHERE WHAT IT READS IS OF BULK AT MOST 1048576: true; the input reads as it did. -/
def frameBackUptoRow : OpenClaim := { program := "ytaeapgkfmofjlaadoor", sum := "b197834528dfbe44b034cc4f4c1ea67248af7bfbe998accd893147ea629bb12d", func := "caravel/caravellaw04.FrameBack", spec := "frameBack", inPlace := ["internal/reflectlite.TypeOf", "internal/reflectlite.ValueOf", "(internal/reflectlite.Value).Type", "(internal/reflectlite.Value).IsNil", "(internal/reflectlite.Value).Elem", "(internal/reflectlite.Value).Set"], unfollowed := true, recurses := true, named := ["caravel/octet.widths", "caravel/frame.errWide", "errors.errorType"], apart := false, laid := [("errors.errorType", laid_errors_errorType), ("caravel/octet.widths", laid_caravel_octet_widths), ("caravel/frame.errWide", laid_caravel_frame_errWide)], narrowed := true }
def FrameBackUptoSaid : Prop := frameBackUptoRow.holds Tryd.pinned (OpenSpec.upto frameBackSpec)

/-- 'caravellaw04.FrameShorter', WHERE WHAT IT READS IS OF BULK AT MOST 1048576: true; the input reads as it did. -/
def frameShorterUptoRow : OpenClaim := { program := "ytaeapgkfmofjlaadoor", sum := "b197834528dfbe44b034cc4f4c1ea67248af7bfbe998accd893147ea629bb12d", func := "caravel/caravellaw04.FrameShorter", spec := "frameShorter", inPlace := ["internal/reflectlite.TypeOf", "internal/reflectlite.ValueOf", "(internal/reflectlite.Value).Type", "(internal/reflectlite.Value).IsNil", "(internal/reflectlite.Value).Elem", "(internal/reflectlite.Value).Set"], unfollowed := true, recurses := true, named := ["caravel/frame.errWide", "caravel/octet.widths", "errors.errorType"], apart := false, laid := [("errors.errorType", laid_errors_errorType), ("caravel/octet.widths", laid_caravel_octet_widths), ("caravel/frame.errWide", laid_caravel_frame_errWide)], narrowed := true }
def FrameShorterUptoSaid : Prop := frameShorterUptoRow.holds Tryd.pinned (OpenSpec.upto frameShorterSpec)

end Rows
end Go.Proofs.YtaeapgkfmofjlaaDoor
