/-
  No cell of these rows narrows 'for every input' (looked for: loops, veiled, ifaces, maps, wideKeys, modest, calm, conditions, laid).
  DERIVED. THE GIVEN ROWS OF THIS SEAT. 4 by the template 'for every input the law returns true; each argument reads behind the call as it read before'; 0 by the template 'total and deterministic' (their statements: YtogoifaoblbejaaTotals.lean).
  GIVEN WITH THE SEED: the statements are not yours to turn. If you find one false, say at which input.
  Laid BY PROGRAM, IN A SANDBOX (cutbox-rows.mjs): the forced cells as the released guide's own fill.sh prints them over the translation 65aa45f6bf9ca1ff… (all of the seat's roots in one cut). By AI agents, Wed Nov 11 2026. No macro, syntax, notation, axiom, sorry.
-/
import Derived.Test.YtogoifaoblbejaaChecked
import GoSem.Claim
import GoSem.ClaimJoined
import GoSem.ClaimMapViews
import Derived.JoinedTies
import Derived.KernelRfl
namespace Go.Proofs.Ytogoifaoblbejaa
/- THE CELL 'sum', in the pinned program and in every row, IS THE sha256 OF THE DUMP (.gsa) THAT YtogoifaoblbejaaProg.lean LOADS. Nothing in Lean hashes anything: it is a label: what it is worth is what the hold of that sum in a sandbox is worth. -/
noncomputable def Try.pinned : Pinned := { name := "ytogoifaoblbejaa", sum := "65aa45f6bf9ca1fff8862722c5061180d937558c0019ec6e7bd8f7626311e76a", checked := Try.checked }
namespace Rows
def none {H : Type} : Left H := { results := [], args := [] }

/-- 'caravellaw17.PacerPlays': WHATEVER THE INPUT: true; the input reads as it did. -/
def pacerPlaysSpec : ChangeSpec := { name := "pacerPlays", fn := fun _ => fun
  | [d1, d2] => { results := [.lit (.bool true)], args := [d1, d2] }
  | _ => none }
def pacerPlaysRow : OpenClaim := { program := "ytogoifaoblbejaa", sum := "65aa45f6bf9ca1fff8862722c5061180d937558c0019ec6e7bd8f7626311e76a", func := "caravel/caravellaw17.PacerPlays", spec := "pacerPlays", unfollowed := true, recurses := true, apart := false }
def PacerPlaysSaid : Prop := pacerPlaysRow.holds Try.pinned (OpenSpec.ofChange pacerPlaysSpec)

/-- ITS FALSE NEIGHBOUR: 'it returns false'. Refute it at one input. -/
def pacerPlaysWrong : ChangeSpec := { name := "pacerPlays", fn := fun _ => fun
  | [d1, d2] => { results := [.lit (.bool false)], args := [d1, d2] }
  | _ => none }
def PacerPlaysWrongFalsely : Prop := pacerPlaysRow.holds Try.pinned (OpenSpec.ofChange pacerPlaysWrong)

/-- 'caravellaw17.PacerNobody': WHATEVER THE INPUT: true; the input reads as it did. -/
def pacerNobodySpec : ChangeSpec := { name := "pacerNobody", fn := fun _ => fun
  | [d] => { results := [.lit (.bool true)], args := [d] }
  | _ => none }
def pacerNobodyRow : OpenClaim := { program := "ytogoifaoblbejaa", sum := "65aa45f6bf9ca1fff8862722c5061180d937558c0019ec6e7bd8f7626311e76a", func := "caravel/caravellaw17.PacerNobody", spec := "pacerNobody", unfollowed := true, recurses := true, apart := false }
def PacerNobodySaid : Prop := pacerNobodyRow.holds Try.pinned (OpenSpec.ofChange pacerNobodySpec)

/-- ITS FALSE NEIGHBOUR: 'it returns false'. Refute it at one input. -/
def pacerNobodyWrong : ChangeSpec := { name := "pacerNobody", fn := fun _ => fun
  | [d] => { results := [.lit (.bool false)], args := [d] }
  | _ => none }
def PacerNobodyWrongFalsely : Prop := pacerNobodyRow.holds Try.pinned (OpenSpec.ofChange pacerNobodyWrong)

/-- 'caravellaw17.PacerEnough': WHATEVER THE INPUT: true; the input reads as it did. -/
def pacerEnoughSpec : ChangeSpec := { name := "pacerEnough", fn := fun _ => fun
  | [d1, d2] => { results := [.lit (.bool true)], args := [d1, d2] }
  | _ => none }
def pacerEnoughRow : OpenClaim := { program := "ytogoifaoblbejaa", sum := "65aa45f6bf9ca1fff8862722c5061180d937558c0019ec6e7bd8f7626311e76a", func := "caravel/caravellaw17.PacerEnough", spec := "pacerEnough", unfollowed := true, recurses := true, apart := false }
def PacerEnoughSaid : Prop := pacerEnoughRow.holds Try.pinned (OpenSpec.ofChange pacerEnoughSpec)

/-- ITS FALSE NEIGHBOUR: 'it returns false'. Refute it at one input. -/
def pacerEnoughWrong : ChangeSpec := { name := "pacerEnough", fn := fun _ => fun
  | [d1, d2] => { results := [.lit (.bool false)], args := [d1, d2] }
  | _ => none }
def PacerEnoughWrongFalsely : Prop := pacerEnoughRow.holds Try.pinned (OpenSpec.ofChange pacerEnoughWrong)

/-- 'caravellaw17.PacerRate': WHATEVER THE INPUT: true; the input reads as it did. -/
def pacerRateSpec : ChangeSpec := { name := "pacerRate", fn := fun _ => fun
  | [d1, d2, d3] => { results := [.lit (.bool true)], args := [d1, d2, d3] }
  | _ => none }
def pacerRateRow : OpenClaim := { program := "ytogoifaoblbejaa", sum := "65aa45f6bf9ca1fff8862722c5061180d937558c0019ec6e7bd8f7626311e76a", func := "caravel/caravellaw17.PacerRate", spec := "pacerRate", unfollowed := true, recurses := true, apart := false }
def PacerRateSaid : Prop := pacerRateRow.holds Try.pinned (OpenSpec.ofChange pacerRateSpec)

/-- ITS FALSE NEIGHBOUR: 'it returns false'. Refute it at one input. -/
def pacerRateWrong : ChangeSpec := { name := "pacerRate", fn := fun _ => fun
  | [d1, d2, d3] => { results := [.lit (.bool false)], args := [d1, d2, d3] }
  | _ => none }
def PacerRateWrongFalsely : Prop := pacerRateRow.holds Try.pinned (OpenSpec.ofChange pacerRateWrong)

/- THE SECOND FORM. 'bulk': how many values and letters a reading holds, each counted each time it is reached (what is shared counts as often as it is met; a slice's spare places count too). A statement '..UptoSaid' is the law's where the arguments, and the package variables that the reading takes, are together of bulk at most 1048576: NARROWER than '..Said'. Prove '..Said' where nothing that the law and all that it calls make is longer than what came in: it says more and counts as full. Else prove '..UptoSaid'. A law counts once. -/
mutual
def uptoBulk {H : Type} : DataW H → Nat
  | .lit (.string bytes) => bytes.length + 1
  | .lit _ => 1
  | .nil => 1
  | .ptr d => uptoBulk d + 1
  | .slice elems spare => uptoBulkAll elems + uptoBulkAll spare + 1
  | .agg parts => uptoBulkAll parts + 1
  | .iface _ d => uptoBulk d + 1
  | .map entries => uptoBulkEntries entries + 1
  | .held _ => 1
def uptoBulkAll {H : Type} : List (DataW H) → Nat
  | [] => 0
  | d :: r => uptoBulk d + uptoBulkAll r
def uptoBulkEntries {H : Type} : List (Lit × DataW H) → Nat
  | [] => 0
  | x :: r => uptoBulkEntry x + uptoBulkEntries r
def uptoBulkEntry {H : Type} : Lit × DataW H → Nat
  | (.string bytes, d) => bytes.length + uptoBulk d + 1
  | (_, d) => uptoBulk d + 1
 end
def uptoSmall : (H : Type) → List (DataW H) → Bool := fun _ ds => decide (uptoBulkAll ds ≤ 1048576)
def OpenSpec.upto (s : _root_.Go.ChangeSpec) : _root_.Go.OpenSpec := { _root_.Go.OpenSpec.ofChange s with cond := some uptoSmall }

/-- 'caravellaw17.PacerPlays', WHERE WHAT IT READS IS OF BULK AT MOST 1048576: true; the input reads as it did. -/
def pacerPlaysUptoRow : OpenClaim := { program := "ytogoifaoblbejaa", sum := "65aa45f6bf9ca1fff8862722c5061180d937558c0019ec6e7bd8f7626311e76a", func := "caravel/caravellaw17.PacerPlays", spec := "pacerPlays", unfollowed := true, recurses := true, apart := false, narrowed := true }
def PacerPlaysUptoSaid : Prop := pacerPlaysUptoRow.holds Try.pinned (OpenSpec.upto pacerPlaysSpec)

/-- 'caravellaw17.PacerNobody', WHERE WHAT IT READS IS OF BULK AT MOST 1048576: true; the input reads as it did. -/
def pacerNobodyUptoRow : OpenClaim := { program := "ytogoifaoblbejaa", sum := "65aa45f6bf9ca1fff8862722c5061180d937558c0019ec6e7bd8f7626311e76a", func := "caravel/caravellaw17.PacerNobody", spec := "pacerNobody", unfollowed := true, recurses := true, apart := false, narrowed := true }
def PacerNobodyUptoSaid : Prop := pacerNobodyUptoRow.holds Try.pinned (OpenSpec.upto pacerNobodySpec)

/-- 'caravellaw17.PacerEnough', WHERE WHAT IT READS IS OF BULK AT MOST 1048576: true; the input reads as it did. -/
def pacerEnoughUptoRow : OpenClaim := { program := "ytogoifaoblbejaa", sum := "65aa45f6bf9ca1fff8862722c5061180d937558c0019ec6e7bd8f7626311e76a", func := "caravel/caravellaw17.PacerEnough", spec := "pacerEnough", unfollowed := true, recurses := true, apart := false, narrowed := true }
def PacerEnoughUptoSaid : Prop := pacerEnoughUptoRow.holds Try.pinned (OpenSpec.upto pacerEnoughSpec)

/-- 'caravellaw17.PacerRate', WHERE WHAT IT READS IS OF BULK AT MOST 1048576: true; the input reads as it did. -/
def pacerRateUptoRow : OpenClaim := { program := "ytogoifaoblbejaa", sum := "65aa45f6bf9ca1fff8862722c5061180d937558c0019ec6e7bd8f7626311e76a", func := "caravel/caravellaw17.PacerRate", spec := "pacerRate", unfollowed := true, recurses := true, apart := false, narrowed := true }
def PacerRateUptoSaid : Prop := pacerRateUptoRow.holds Try.pinned (OpenSpec.upto pacerRateSpec)

end Rows
end Go.Proofs.Ytogoifaoblbejaa
