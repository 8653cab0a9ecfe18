/-
  No cell of these rows narrows 'for every input' (looked for: loops, veiled, ifaces, maps, wideKeys, modest, calm, conditions, laid).
  DERIVED. THE GIVEN ROWS OF THIS SEAT. 4 by the template 'for every input the law returns true; each argument reads behind the call as it read before'; 0 by the template 'total and deterministic' (their statements: YtcchlicokglmnaaTotals.lean).
  GIVEN WITH THE SEED: the statements are not yours to turn. If you find one false, say at which input.
  Laid BY PROGRAM, IN A SANDBOX (cutbox-rows.mjs): the forced cells as the released guide's own fill.sh prints them over the translation 5f717aeb43033e9b… (all of the seat's roots in one cut). By AI agents, Wed Nov 11 2026. No macro, syntax, notation, axiom, sorry.
-/
import Derived.Test.YtcchlicokglmnaaChecked
import GoSem.Claim
import GoSem.ClaimJoined
import GoSem.ClaimMapViews
import Derived.JoinedTies
import Derived.KernelRfl
namespace Go.Proofs.Ytcchlicokglmnaa
/- THE CELL 'sum', in the pinned program and in every row, IS THE sha256 OF THE DUMP (.gsa) THAT YtcchlicokglmnaaProg.lean LOADS. Nothing in Lean hashes anything: it is a label: what it is worth is what the hold of that sum in a sandbox is worth. -/
noncomputable def Try.pinned : Pinned := { name := "ytcchlicokglmnaa", sum := "5f717aeb43033e9b37cce5ff9a9fc7702547f6f6346e584d94cb85c8d46bbb34", checked := Try.checked }
namespace Rows
def none {H : Type} : Left H := { results := [], args := [] }

/-- 'caravellaw11.HelloPuts': WHATEVER THE INPUT: true; the input reads as it did. -/
def helloPutsSpec : ChangeSpec := { name := "helloPuts", fn := fun _ => fun
  | [d] => { results := [.lit (.bool true)], args := [d] }
  | _ => none }
def helloPutsRow : OpenClaim := { program := "ytcchlicokglmnaa", sum := "5f717aeb43033e9b37cce5ff9a9fc7702547f6f6346e584d94cb85c8d46bbb34", func := "caravel/caravellaw11.HelloPuts", spec := "helloPuts", unfollowed := true, recurses := true, apart := false }
def HelloPutsSaid : Prop := helloPutsRow.holds Try.pinned (OpenSpec.ofChange helloPutsSpec)

/-- ITS FALSE NEIGHBOUR: 'it returns false'. Refute it at one input. -/
def helloPutsWrong : ChangeSpec := { name := "helloPuts", fn := fun _ => fun
  | [d] => { results := [.lit (.bool false)], args := [d] }
  | _ => none }
def HelloPutsWrongFalsely : Prop := helloPutsRow.holds Try.pinned (OpenSpec.ofChange helloPutsWrong)

/-- 'caravellaw11.HelloReads': WHATEVER THE INPUT: true; the input reads as it did. -/
def helloReadsSpec : ChangeSpec := { name := "helloReads", fn := fun _ => fun
  | [d1, d2] => { results := [.lit (.bool true)], args := [d1, d2] }
  | _ => none }
def helloReadsRow : OpenClaim := { program := "ytcchlicokglmnaa", sum := "5f717aeb43033e9b37cce5ff9a9fc7702547f6f6346e584d94cb85c8d46bbb34", func := "caravel/caravellaw11.HelloReads", spec := "helloReads", unfollowed := true, recurses := true, apart := false }
def HelloReadsSaid : Prop := helloReadsRow.holds Try.pinned (OpenSpec.ofChange helloReadsSpec)

/-- ITS FALSE NEIGHBOUR: 'it returns false'. Refute it at one input. -/
def helloReadsWrong : ChangeSpec := { name := "helloReads", fn := fun _ => fun
  | [d1, d2] => { results := [.lit (.bool false)], args := [d1, d2] }
  | _ => none }
def HelloReadsWrongFalsely : Prop := helloReadsRow.holds Try.pinned (OpenSpec.ofChange helloReadsWrong)

/-- 'caravellaw11.HelloBack': WHATEVER THE INPUT: true; the input reads as it did. -/
def helloBackSpec : ChangeSpec := { name := "helloBack", fn := fun _ => fun
  | [d1, d2] => { results := [.lit (.bool true)], args := [d1, d2] }
  | _ => none }
def helloBackRow : OpenClaim := { program := "ytcchlicokglmnaa", sum := "5f717aeb43033e9b37cce5ff9a9fc7702547f6f6346e584d94cb85c8d46bbb34", func := "caravel/caravellaw11.HelloBack", spec := "helloBack", unfollowed := true, recurses := true, apart := false }
def HelloBackSaid : Prop := helloBackRow.holds Try.pinned (OpenSpec.ofChange helloBackSpec)

/-- ITS FALSE NEIGHBOUR: 'it returns false'. Refute it at one input. -/
def helloBackWrong : ChangeSpec := { name := "helloBack", fn := fun _ => fun
  | [d1, d2] => { results := [.lit (.bool false)], args := [d1, d2] }
  | _ => none }
def HelloBackWrongFalsely : Prop := helloBackRow.holds Try.pinned (OpenSpec.ofChange helloBackWrong)

/-- 'caravellaw11.HelloStream': WHATEVER THE INPUT: true; the input reads as it did. -/
def helloStreamSpec : ChangeSpec := { name := "helloStream", fn := fun _ => fun
  | [d1, d2] => { results := [.lit (.bool true)], args := [d1, d2] }
  | _ => none }
def helloStreamRow : OpenClaim := { program := "ytcchlicokglmnaa", sum := "5f717aeb43033e9b37cce5ff9a9fc7702547f6f6346e584d94cb85c8d46bbb34", func := "caravel/caravellaw11.HelloStream", spec := "helloStream", unfollowed := true, recurses := true, apart := false }
def HelloStreamSaid : Prop := helloStreamRow.holds Try.pinned (OpenSpec.ofChange helloStreamSpec)

/-- ITS FALSE NEIGHBOUR: 'it returns false'. Refute it at one input. -/
def helloStreamWrong : ChangeSpec := { name := "helloStream", fn := fun _ => fun
  | [d1, d2] => { results := [.lit (.bool false)], args := [d1, d2] }
  | _ => none }
def HelloStreamWrongFalsely : Prop := helloStreamRow.holds Try.pinned (OpenSpec.ofChange helloStreamWrong)

/- THE SECOND FORM. 'bulk': how many values and letters a reading holds, each counted each time it is reached (what is shared counts as often as it is met; a slice's spare places count too). A statement '..UptoSaid' is the law's where the arguments, and the package variables that the reading takes, are together of bulk at most 1048576: NARROWER than '..Said'. Prove '..Said' where nothing that the law and all that it calls make is longer than what came in: it says more and counts as full. Else prove '..UptoSaid'. A law counts once. -/
mutual
def uptoBulk {H : Type} : DataW H → Nat
  | .lit (.string bytes) => bytes.length + 1
  | .lit _ => 1
  | .nil => 1
  | .ptr d => uptoBulk d + 1
  | .slice elems spare => uptoBulkAll elems + uptoBulkAll spare + 1
  | .agg parts => uptoBulkAll parts + 1
  | .iface _ d => uptoBulk d + 1
  | .map entries => uptoBulkEntries entries + 1
  | .held _ => 1
def uptoBulkAll {H : Type} : List (DataW H) → Nat
  | [] => 0
  | d :: r => uptoBulk d + uptoBulkAll r
def uptoBulkEntries {H : Type} : List (Lit × DataW H) → Nat
  | [] => 0
  | x :: r => uptoBulkEntry x + uptoBulkEntries r
def uptoBulkEntry {H : Type} : Lit × DataW H → Nat
  | (.string bytes, d) => bytes.length + uptoBulk d + 1
  | (_, d) => uptoBulk d + 1
 end
def uptoSmall : (H : Type) → List (DataW H) → Bool := fun _ ds => decide (uptoBulkAll ds ≤ 1048576)
def OpenSpec.upto (s : _root_.Go.ChangeSpec) : _root_.Go.OpenSpec := { _root_.Go.OpenSpec.ofChange s with cond := some uptoSmall }

/-- 'caravellaw11.HelloPuts', WHERE WHAT IT READS IS OF BULK AT MOST 1048576: true; the input reads as it did. -/
def helloPutsUptoRow : OpenClaim := { program := "ytcchlicokglmnaa", sum := "5f717aeb43033e9b37cce5ff9a9fc7702547f6f6346e584d94cb85c8d46bbb34", func := "caravel/caravellaw11.HelloPuts", spec := "helloPuts", unfollowed := true, recurses := true, apart := false, narrowed := true }
def HelloPutsUptoSaid : Prop := helloPutsUptoRow.holds Try.pinned (OpenSpec.upto helloPutsSpec)

/-- 'caravellaw11.HelloReads', WHERE WHAT IT READS IS OF BULK AT MOST 1048576: true; the input reads as it did. -/
def helloReadsUptoRow : OpenClaim := { program := "ytcchlicokglmnaa", sum := "5f717aeb43033e9b37cce5ff9a9fc7702547f6f6346e584d94cb85c8d46bbb34", func := "caravel/caravellaw11.HelloReads", spec := "helloReads", unfollowed := true, recurses := true, apart := false, narrowed := true }
def HelloReadsUptoSaid : Prop := helloReadsUptoRow.holds Try.pinned (OpenSpec.upto helloReadsSpec)

/-- 'caravellaw11.HelloBack', WHERE WHAT IT READS IS OF BULK AT MOST 1048576: true; the input reads as it did. -/
def helloBackUptoRow : OpenClaim := { program := "ytcchlicokglmnaa", sum := "5f717aeb43033e9b37cce5ff9a9fc7702547f6f6346e584d94cb85c8d46bbb34", func := "caravel/caravellaw11.HelloBack", spec := "helloBack", unfollowed := true, recurses := true, apart := false, narrowed := true }
def HelloBackUptoSaid : Prop := helloBackUptoRow.holds Try.pinned (OpenSpec.upto helloBackSpec)

/-- 'caravellaw11.HelloStream', WHERE WHAT IT READS IS OF BULK AT MOST 1048576: true; the input reads as it did. -/
def helloStreamUptoRow : OpenClaim := { program := "ytcchlicokglmnaa", sum := "5f717aeb43033e9b37cce5ff9a9fc7702547f6f6346e584d94cb85c8d46bbb34", func := "caravel/caravellaw11.HelloStream", spec := "helloStream", unfollowed := true, recurses := true, apart := false, narrowed := true }
def HelloStreamUptoSaid : Prop := helloStreamUptoRow.holds Try.pinned (OpenSpec.upto helloStreamSpec)

end Rows
end Go.Proofs.Ytcchlicokglmnaa
