/-
  NARROWER THAN 'FOR EVERY INPUT', by the rows' own cells (each row's printed sentence says how): StreamsWorld: laid · StreamsArrive: laid · StreamsApart: laid · StreamsRefuse: laid · StreamsNobody: laid.
  DERIVED. THE GIVEN ROWS OF THIS SEAT. 5 by the template 'for every input the law returns true; each argument reads behind the call as it read before'; 0 by the template 'total and deterministic' (their statements: YtijndpjdmiljkaaGreatDoorTotals.lean).
  GIVEN WITH THE SEED: the statements are not yours to turn. If you find one false, say at which input.
  Laid BY PROGRAM, IN A SANDBOX (cutbox-rows.mjs): the forced cells as the released guide's own fill.sh prints them over the translation 1771c7bef9c178ba… (all of the seat's roots in one cut). By AI agents, Wed Nov 11 2026. No macro, syntax, notation, axiom, sorry.
-/
import Derived.Test.YtijndpjdmiljkaaGreatDoorChecked
import GoSem.Claim
import GoSem.ClaimJoined
import GoSem.ClaimMapViews
import Derived.JoinedTies
import Derived.KernelRfl
namespace Go.Proofs.YtijndpjdmiljkaaGreatDoor
/- THE CELL 'sum', in the pinned program and in every row, IS THE sha256 OF THE DUMP (.gsa) THAT YtijndpjdmiljkaaGreatDoorProg.lean LOADS. Nothing in Lean hashes anything: it is a label: what it is worth is what the hold of that sum in a sandbox is worth. -/
noncomputable def Tryz.pinned : Pinned := { name := "ytijndpjdmiljkaagreatdoor", sum := "1771c7bef9c178bae968654a9b41051cbb3e31d9fd91023815c0bf6abd226b77", checked := Tryz.checked }
namespace Rows
def none {H : Type} : Left H := { results := [], args := [] }

/- WHAT THE LISTED PACKAGE-LEVEL VARIABLES READ AS WHEN THE CALL BEGINS. Each datum BY PROGRAM (the guide's laid-datum.mjs) off the statement by which the dump's own 'gosem.cut.vars' lays the variable. In a bare row this is a premise. The card (YtijndpjdmiljkaaGreatDoorCards.lean) ties it to the program's text. -/
def laid_math_bits_deBruijn64tab {H : Type} : DataW H := .agg [.lit (.int .u8 0), .lit (.int .u8 1), .lit (.int .u8 56), .lit (.int .u8 2), .lit (.int .u8 57), .lit (.int .u8 49), .lit (.int .u8 28), .lit (.int .u8 3), .lit (.int .u8 61), .lit (.int .u8 58), .lit (.int .u8 42), .lit (.int .u8 50), .lit (.int .u8 38), .lit (.int .u8 29), .lit (.int .u8 17), .lit (.int .u8 4), .lit (.int .u8 62), .lit (.int .u8 47), .lit (.int .u8 59), .lit (.int .u8 36), .lit (.int .u8 45), .lit (.int .u8 43), .lit (.int .u8 51), .lit (.int .u8 22), .lit (.int .u8 53), .lit (.int .u8 39), .lit (.int .u8 33), .lit (.int .u8 30), .lit (.int .u8 24), .lit (.int .u8 18), .lit (.int .u8 12), .lit (.int .u8 5), .lit (.int .u8 63), .lit (.int .u8 55), .lit (.int .u8 48), .lit (.int .u8 27), .lit (.int .u8 60), .lit (.int .u8 41), .lit (.int .u8 37), .lit (.int .u8 16), .lit (.int .u8 46), .lit (.int .u8 35), .lit (.int .u8 44), .lit (.int .u8 21), .lit (.int .u8 52), .lit (.int .u8 32), .lit (.int .u8 23), .lit (.int .u8 11), .lit (.int .u8 54), .lit (.int .u8 26), .lit (.int .u8 40), .lit (.int .u8 15), .lit (.int .u8 34), .lit (.int .u8 20), .lit (.int .u8 31), .lit (.int .u8 10), .lit (.int .u8 25), .lit (.int .u8 14), .lit (.int .u8 19), .lit (.int .u8 9), .lit (.int .u8 13), .lit (.int .u8 8), .lit (.int .u8 7), .lit (.int .u8 6)]
def laid_caravel_octet_widths {H : Type} : DataW H := .agg [.lit (.int .i64 1), .lit (.int .i64 2), .lit (.int .i64 4), .lit (.int .i64 8)]
def laid_errors_errorType {H : Type} : DataW H := .iface "internal/reflectlite.rtype" (.agg [.ptr (.lit (.string [101, 114, 114, 111, 114]))])

/-- 'caravellaw21.StreamsWorld': WHATEVER THE INPUT: true; the input reads as it did. -/
def streamsWorldSpec : ChangeSpec := { name := "streamsWorld", fn := fun _ => fun
  | [d1, d2] => { results := [.lit (.bool true)], args := [d1, d2] }
  | _ => none }
def streamsWorldRow : OpenClaim := { program := "ytijndpjdmiljkaagreatdoor", sum := "1771c7bef9c178bae968654a9b41051cbb3e31d9fd91023815c0bf6abd226b77", func := "caravel/caravellaw21.StreamsWorld", spec := "streamsWorld", inPlace := ["slices.overlaps[caravel/api.Span]"], unfollowed := true, recurses := true, named := ["math/bits.deBruijn64tab", "caravel/octet.widths"], plainKeys := false, apart := false, laid := [("math/bits.deBruijn64tab", laid_math_bits_deBruijn64tab), ("caravel/octet.widths", laid_caravel_octet_widths)] }
def StreamsWorldSaid : Prop := streamsWorldRow.holds Tryz.pinned (OpenSpec.ofChange streamsWorldSpec)

/-- ITS FALSE NEIGHBOUR: 'it returns false'. Refute it at one input. -/
def streamsWorldWrong : ChangeSpec := { name := "streamsWorld", fn := fun _ => fun
  | [d1, d2] => { results := [.lit (.bool false)], args := [d1, d2] }
  | _ => none }
def StreamsWorldWrongFalsely : Prop := streamsWorldRow.holds Tryz.pinned (OpenSpec.ofChange streamsWorldWrong)

/-- 'caravellaw21.StreamsArrive': WHATEVER THE INPUT: true; the input reads as it did. -/
def streamsArriveSpec : ChangeSpec := { name := "streamsArrive", fn := fun _ => fun
  | [d1, d2] => { results := [.lit (.bool true)], args := [d1, d2] }
  | _ => none }
def streamsArriveRow : OpenClaim := { program := "ytijndpjdmiljkaagreatdoor", sum := "1771c7bef9c178bae968654a9b41051cbb3e31d9fd91023815c0bf6abd226b77", func := "caravel/caravellaw21.StreamsArrive", spec := "streamsArrive", inPlace := ["slices.overlaps[caravel/api.Span]"], unfollowed := true, recurses := true, named := ["math/bits.deBruijn64tab", "caravel/octet.widths"], plainKeys := false, apart := false, laid := [("math/bits.deBruijn64tab", laid_math_bits_deBruijn64tab), ("caravel/octet.widths", laid_caravel_octet_widths)] }
def StreamsArriveSaid : Prop := streamsArriveRow.holds Tryz.pinned (OpenSpec.ofChange streamsArriveSpec)

/-- ITS FALSE NEIGHBOUR: 'it returns false'. Refute it at one input. -/
def streamsArriveWrong : ChangeSpec := { name := "streamsArrive", fn := fun _ => fun
  | [d1, d2] => { results := [.lit (.bool false)], args := [d1, d2] }
  | _ => none }
def StreamsArriveWrongFalsely : Prop := streamsArriveRow.holds Tryz.pinned (OpenSpec.ofChange streamsArriveWrong)

/-- 'caravellaw21.StreamsApart': WHATEVER THE INPUT: true; the input reads as it did. -/
def streamsApartSpec : ChangeSpec := { name := "streamsApart", fn := fun _ => fun
  | [d1, d2, d3] => { results := [.lit (.bool true)], args := [d1, d2, d3] }
  | _ => none }
def streamsApartRow : OpenClaim := { program := "ytijndpjdmiljkaagreatdoor", sum := "1771c7bef9c178bae968654a9b41051cbb3e31d9fd91023815c0bf6abd226b77", func := "caravel/caravellaw21.StreamsApart", spec := "streamsApart", inPlace := ["slices.overlaps[caravel/api.Span]"], unfollowed := true, recurses := true, named := ["caravel/octet.widths", "math/bits.deBruijn64tab"], plainKeys := false, apart := false, laid := [("math/bits.deBruijn64tab", laid_math_bits_deBruijn64tab), ("caravel/octet.widths", laid_caravel_octet_widths)] }
def StreamsApartSaid : Prop := streamsApartRow.holds Tryz.pinned (OpenSpec.ofChange streamsApartSpec)

/-- ITS FALSE NEIGHBOUR: 'it returns false'. Refute it at one input. -/
def streamsApartWrong : ChangeSpec := { name := "streamsApart", fn := fun _ => fun
  | [d1, d2, d3] => { results := [.lit (.bool false)], args := [d1, d2, d3] }
  | _ => none }
def StreamsApartWrongFalsely : Prop := streamsApartRow.holds Tryz.pinned (OpenSpec.ofChange streamsApartWrong)

/-- 'caravellaw21.StreamsRefuse': WHATEVER THE INPUT: true; the input reads as it did. -/
def streamsRefuseSpec : ChangeSpec := { name := "streamsRefuse", fn := fun _ => fun
  | [d1, d2, d3] => { results := [.lit (.bool true)], args := [d1, d2, d3] }
  | _ => none }
def streamsRefuseRow : OpenClaim := { program := "ytijndpjdmiljkaagreatdoor", sum := "1771c7bef9c178bae968654a9b41051cbb3e31d9fd91023815c0bf6abd226b77", func := "caravel/caravellaw21.StreamsRefuse", spec := "streamsRefuse", inPlace := ["internal/reflectlite.ValueOf", "(internal/reflectlite.Value).Type", "(internal/reflectlite.Value).IsNil", "internal/reflectlite.TypeOf", "(internal/reflectlite.Value).Elem", "(internal/reflectlite.Value).Set"], unfollowed := true, recurses := true, named := ["math/bits.deBruijn64tab", "errors.errorType"], plainKeys := false, apart := false, laid := [("math/bits.deBruijn64tab", laid_math_bits_deBruijn64tab), ("errors.errorType", laid_errors_errorType)] }
def StreamsRefuseSaid : Prop := streamsRefuseRow.holds Tryz.pinned (OpenSpec.ofChange streamsRefuseSpec)

/-- ITS FALSE NEIGHBOUR: 'it returns false'. Refute it at one input. -/
def streamsRefuseWrong : ChangeSpec := { name := "streamsRefuse", fn := fun _ => fun
  | [d1, d2, d3] => { results := [.lit (.bool false)], args := [d1, d2, d3] }
  | _ => none }
def StreamsRefuseWrongFalsely : Prop := streamsRefuseRow.holds Tryz.pinned (OpenSpec.ofChange streamsRefuseWrong)

/-- 'caravellaw21.StreamsNobody': WHATEVER THE INPUT: true; the input reads as it did. -/
def streamsNobodySpec : ChangeSpec := { name := "streamsNobody", fn := fun _ => fun
  | [d1, d2, d3] => { results := [.lit (.bool true)], args := [d1, d2, d3] }
  | _ => none }
def streamsNobodyRow : OpenClaim := { program := "ytijndpjdmiljkaagreatdoor", sum := "1771c7bef9c178bae968654a9b41051cbb3e31d9fd91023815c0bf6abd226b77", func := "caravel/caravellaw21.StreamsNobody", spec := "streamsNobody", inPlace := ["slices.overlaps[caravel/api.Span]", "internal/reflectlite.TypeOf"], unfollowed := true, recurses := true, named := ["caravel/octet.widths", "math/bits.deBruijn64tab"], plainKeys := false, apart := false, laid := [("math/bits.deBruijn64tab", laid_math_bits_deBruijn64tab), ("caravel/octet.widths", laid_caravel_octet_widths)] }
def StreamsNobodySaid : Prop := streamsNobodyRow.holds Tryz.pinned (OpenSpec.ofChange streamsNobodySpec)

/-- ITS FALSE NEIGHBOUR: 'it returns false'. Refute it at one input. -/
def streamsNobodyWrong : ChangeSpec := { name := "streamsNobody", fn := fun _ => fun
  | [d1, d2, d3] => { results := [.lit (.bool false)], args := [d1, d2, d3] }
  | _ => none }
def StreamsNobodyWrongFalsely : Prop := streamsNobodyRow.holds Tryz.pinned (OpenSpec.ofChange streamsNobodyWrong)

/- THE SECOND FORM. 'bulk': how many values and letters a reading holds, each counted each time it is reached (what is shared counts as often as it is met; a slice's spare places count too). A statement '..UptoSaid' is the law's where the arguments, and the package variables that the reading takes, are together of bulk at most 1048576: NARROWER than '..Said'. Prove '..Said' where nothing that the law and all that it calls make is longer than what came in: it says more and counts as full. Else prove '..UptoSaid'. A law counts once. -/
mutual
def uptoBulk {H : Type} : DataW H → Nat
  | .lit (.string bytes) => bytes.length + 1
  | .lit _ => 1
  | .nil => 1
  | .ptr d => uptoBulk d + 1
  | .slice elems spare => uptoBulkAll elems + uptoBulkAll spare + 1
  | .agg parts => uptoBulkAll parts + 1
  | .iface _ d => uptoBulk d + 1
  | .map entries => uptoBulkEntries entries + 1
  | .held _ => 1
def uptoBulkAll {H : Type} : List (DataW H) → Nat
  | [] => 0
  | d :: r => uptoBulk d + uptoBulkAll r
def uptoBulkEntries {H : Type} : List (Lit × DataW H) → Nat
  | [] => 0
  | x :: r => uptoBulkEntry x + uptoBulkEntries r
def uptoBulkEntry {H : Type} : Lit × DataW H → Nat
  | (.string bytes, d) => bytes.length + uptoBulk d + 1
  | (_, d) => uptoBulk d + 1
 end
def uptoSmall : (H : Type) → List (DataW H) → Bool := fun _ ds => decide (uptoBulkAll ds ≤ 1048576)
def OpenSpec.upto (s : _root_.Go.ChangeSpec) : _root_.Go.OpenSpec := { _root_.Go.OpenSpec.ofChange s with cond := some uptoSmall }

/-- 'caravellaw21.StreamsWorld', WHERE WHAT IT READS IS OF BULK AT MOST 1048576: true; the input reads as it did. -/
def streamsWorldUptoRow : OpenClaim := { program := "ytijndpjdmiljkaagreatdoor", sum := "1771c7bef9c178bae968654a9b41051cbb3e31d9fd91023815c0bf6abd226b77", func := "caravel/caravellaw21.StreamsWorld", spec := "streamsWorld", inPlace := ["slices.overlaps[caravel/api.Span]"], unfollowed := true, recurses := true, named := ["math/bits.deBruijn64tab", "caravel/octet.widths"], plainKeys := false, apart := false, laid := [("math/bits.deBruijn64tab", laid_math_bits_deBruijn64tab), ("caravel/octet.widths", laid_caravel_octet_widths)], narrowed := true }
def StreamsWorldUptoSaid : Prop := streamsWorldUptoRow.holds Tryz.pinned (OpenSpec.upto streamsWorldSpec)

/-- 'caravellaw21.StreamsArrive', WHERE WHAT IT READS IS OF BULK AT MOST 1048576: true; the input reads as it did. -/
def streamsArriveUptoRow : OpenClaim := { program := "ytijndpjdmiljkaagreatdoor", sum := "1771c7bef9c178bae968654a9b41051cbb3e31d9fd91023815c0bf6abd226b77", func := "caravel/caravellaw21.StreamsArrive", spec := "streamsArrive", inPlace := ["slices.overlaps[caravel/api.Span]"], unfollowed := true, recurses := true, named := ["math/bits.deBruijn64tab", "caravel/octet.widths"], plainKeys := false, apart := false, laid := [("math/bits.deBruijn64tab", laid_math_bits_deBruijn64tab), ("caravel/octet.widths", laid_caravel_octet_widths)], narrowed := true }
def StreamsArriveUptoSaid : Prop := streamsArriveUptoRow.holds Tryz.pinned (OpenSpec.upto streamsArriveSpec)

/-- 'caravellaw21.StreamsApart', WHERE WHAT IT READS IS OF BULK AT MOST 1048576: true; the input reads as it did. -/
def streamsApartUptoRow : OpenClaim := { program := "ytijndpjdmiljkaagreatdoor", sum := "1771c7bef9c178bae968654a9b41051cbb3e31d9fd91023815c0bf6abd226b77", func := "caravel/caravellaw21.StreamsApart", spec := "streamsApart", inPlace := ["slices.overlaps[caravel/api.Span]"], unfollowed := true, recurses := true, named := ["caravel/octet.widths", "math/bits.deBruijn64tab"], plainKeys := false, apart := false, laid := [("math/bits.deBruijn64tab", laid_math_bits_deBruijn64tab), ("caravel/octet.widths", laid_caravel_octet_widths)], narrowed := true }
def StreamsApartUptoSaid : Prop := streamsApartUptoRow.holds Tryz.pinned (OpenSpec.upto streamsApartSpec)

/-- 'caravellaw21.StreamsRefuse', WHERE WHAT IT READS IS OF BULK AT MOST 1048576: true; the input reads as it did. -/
def streamsRefuseUptoRow : OpenClaim := { program := "ytijndpjdmiljkaagreatdoor", sum := "1771c7bef9c178bae968654a9b41051cbb3e31d9fd91023815c0bf6abd226b77", func := "caravel/caravellaw21.StreamsRefuse", spec := "streamsRefuse", inPlace := ["internal/reflectlite.ValueOf", "(internal/reflectlite.Value).Type", "(internal/reflectlite.Value).IsNil", "internal/reflectlite.TypeOf", "(internal/reflectlite.Value).Elem", "(internal/reflectlite.Value).Set"], unfollowed := true, recurses := true, named := ["math/bits.deBruijn64tab", "errors.errorType"], plainKeys := false, apart := false, laid := [("math/bits.deBruijn64tab", laid_math_bits_deBruijn64tab), ("errors.errorType", laid_errors_errorType)], narrowed := true }
def StreamsRefuseUptoSaid : Prop := streamsRefuseUptoRow.holds Tryz.pinned (OpenSpec.upto streamsRefuseSpec)

/-- 'caravellaw21.StreamsNobody', WHERE WHAT IT READS IS OF BULK AT MOST 1048576: true; the input reads as it did. -/
def streamsNobodyUptoRow : OpenClaim := { program := "ytijndpjdmiljkaagreatdoor", sum := "1771c7bef9c178bae968654a9b41051cbb3e31d9fd91023815c0bf6abd226b77", func := "caravel/caravellaw21.StreamsNobody", spec := "streamsNobody", inPlace := ["slices.overlaps[caravel/api.Span]", "internal/reflectlite.TypeOf"], unfollowed := true, recurses := true, named := ["caravel/octet.widths", "math/bits.deBruijn64tab"], plainKeys := false, apart := false, laid := [("math/bits.deBruijn64tab", laid_math_bits_deBruijn64tab), ("caravel/octet.widths", laid_caravel_octet_widths)], narrowed := true }
def StreamsNobodyUptoSaid : Prop := streamsNobodyUptoRow.holds Tryz.pinned (OpenSpec.upto streamsNobodySpec)

end Rows
end Go.Proofs.YtijndpjdmiljkaaGreatDoor
