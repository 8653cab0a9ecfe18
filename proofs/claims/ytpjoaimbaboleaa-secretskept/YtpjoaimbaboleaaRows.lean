/-
  No cell of these rows narrows 'for every input' (looked for: loops, veiled, ifaces, maps, wideKeys, modest, calm, conditions, laid).
  DERIVED. THE GIVEN ROWS OF THIS SEAT. 4 by the template 'for every input the law returns true; each argument reads behind the call as it read before'; 0 by the template 'total and deterministic' (their statements: YtpjoaimbaboleaaTotals.lean).
  GIVEN WITH THE SEED: the statements are not yours to turn. If you find one false, say at which input.
  Laid BY PROGRAM, IN A SANDBOX (cutbox-rows.mjs): the forced cells as the released guide's own fill.sh prints them over the translation c627c1d977a3de9f… (all of the seat's roots in one cut). By AI agents, Wed Nov 11 2026. No macro, syntax, notation, axiom, sorry.
-/
import Derived.Test.YtpjoaimbaboleaaChecked
import GoSem.Claim
import GoSem.ClaimJoined
import GoSem.ClaimMapViews
import Derived.JoinedTies
import Derived.KernelRfl
namespace Go.Proofs.Ytpjoaimbaboleaa
/- THE CELL 'sum', in the pinned program and in every row, IS THE sha256 OF THE DUMP (.gsa) THAT YtpjoaimbaboleaaProg.lean LOADS. Nothing in Lean hashes anything: it is a label: what it is worth is what the hold of that sum in a sandbox is worth. -/
noncomputable def Try.pinned : Pinned := { name := "ytpjoaimbaboleaa", sum := "c627c1d977a3de9f473b6a1d55ec539e03a195c8a32f53e2eb59eeb90c79c1c4", checked := Try.checked }
namespace Rows
def none {H : Type} : Left H := { results := [], args := [] }

/-- 'caravellaw12.SecretsMake': WHATEVER THE INPUT: true; the input reads as it did. -/
def secretsMakeSpec : ChangeSpec := { name := "secretsMake", fn := fun _ => fun
  | [d] => { results := [.lit (.bool true)], args := [d] }
  | _ => none }
def secretsMakeRow : OpenClaim := { program := "ytpjoaimbaboleaa", sum := "c627c1d977a3de9f473b6a1d55ec539e03a195c8a32f53e2eb59eeb90c79c1c4", func := "caravel/caravellaw12.SecretsMake", spec := "secretsMake", unfollowed := true, recurses := true, plainKeys := false, apart := false }
def SecretsMakeSaid : Prop := secretsMakeRow.holds Try.pinned (OpenSpec.ofChange secretsMakeSpec)

/-- ITS FALSE NEIGHBOUR: 'it returns false'. Refute it at one input. -/
def secretsMakeWrong : ChangeSpec := { name := "secretsMake", fn := fun _ => fun
  | [d] => { results := [.lit (.bool false)], args := [d] }
  | _ => none }
def SecretsMakeWrongFalsely : Prop := secretsMakeRow.holds Try.pinned (OpenSpec.ofChange secretsMakeWrong)

/-- 'caravellaw12.SecretsNobody': WHATEVER THE INPUT: true; the input reads as it did. -/
def secretsNobodySpec : ChangeSpec := { name := "secretsNobody", fn := fun _ => fun
  | [d] => { results := [.lit (.bool true)], args := [d] }
  | _ => none }
def secretsNobodyRow : OpenClaim := { program := "ytpjoaimbaboleaa", sum := "c627c1d977a3de9f473b6a1d55ec539e03a195c8a32f53e2eb59eeb90c79c1c4", func := "caravel/caravellaw12.SecretsNobody", spec := "secretsNobody", unfollowed := true, recurses := true, plainKeys := false, apart := false }
def SecretsNobodySaid : Prop := secretsNobodyRow.holds Try.pinned (OpenSpec.ofChange secretsNobodySpec)

/-- ITS FALSE NEIGHBOUR: 'it returns false'. Refute it at one input. -/
def secretsNobodyWrong : ChangeSpec := { name := "secretsNobody", fn := fun _ => fun
  | [d] => { results := [.lit (.bool false)], args := [d] }
  | _ => none }
def SecretsNobodyWrongFalsely : Prop := secretsNobodyRow.holds Try.pinned (OpenSpec.ofChange secretsNobodyWrong)

/-- 'caravellaw12.SecretsKept': WHATEVER THE INPUT: true; the input reads as it did. -/
def secretsKeptSpec : ChangeSpec := { name := "secretsKept", fn := fun _ => fun
  | [d1, d2] => { results := [.lit (.bool true)], args := [d1, d2] }
  | _ => none }
def secretsKeptRow : OpenClaim := { program := "ytpjoaimbaboleaa", sum := "c627c1d977a3de9f473b6a1d55ec539e03a195c8a32f53e2eb59eeb90c79c1c4", func := "caravel/caravellaw12.SecretsKept", spec := "secretsKept", unfollowed := true, recurses := true, plainKeys := false, apart := false }
def SecretsKeptSaid : Prop := secretsKeptRow.holds Try.pinned (OpenSpec.ofChange secretsKeptSpec)

/-- ITS FALSE NEIGHBOUR: 'it returns false'. Refute it at one input. -/
def secretsKeptWrong : ChangeSpec := { name := "secretsKept", fn := fun _ => fun
  | [d1, d2] => { results := [.lit (.bool false)], args := [d1, d2] }
  | _ => none }
def SecretsKeptWrongFalsely : Prop := secretsKeptRow.holds Try.pinned (OpenSpec.ofChange secretsKeptWrong)

/-- 'caravellaw12.SecretsApart': WHATEVER THE INPUT: true; the input reads as it did. -/
def secretsApartSpec : ChangeSpec := { name := "secretsApart", fn := fun _ => fun
  | [d1, d2] => { results := [.lit (.bool true)], args := [d1, d2] }
  | _ => none }
def secretsApartRow : OpenClaim := { program := "ytpjoaimbaboleaa", sum := "c627c1d977a3de9f473b6a1d55ec539e03a195c8a32f53e2eb59eeb90c79c1c4", func := "caravel/caravellaw12.SecretsApart", spec := "secretsApart", unfollowed := true, recurses := true, plainKeys := false, apart := false }
def SecretsApartSaid : Prop := secretsApartRow.holds Try.pinned (OpenSpec.ofChange secretsApartSpec)

/-- ITS FALSE NEIGHBOUR: 'it returns false'. Refute it at one input. -/
def secretsApartWrong : ChangeSpec := { name := "secretsApart", fn := fun _ => fun
  | [d1, d2] => { results := [.lit (.bool false)], args := [d1, d2] }
  | _ => none }
def SecretsApartWrongFalsely : Prop := secretsApartRow.holds Try.pinned (OpenSpec.ofChange secretsApartWrong)

/- THE SECOND FORM. 'bulk': how many values and letters a reading holds, each counted each time it is reached (what is shared counts as often as it is met; a slice's spare places count too). A statement '..UptoSaid' is the law's where the arguments, and the package variables that the reading takes, are together of bulk at most 1048576: NARROWER than '..Said'. Prove '..Said' where nothing that the law and all that it calls make is longer than what came in: it says more and counts as full. Else prove '..UptoSaid'. A law counts once. -/
mutual
def uptoBulk {H : Type} : DataW H → Nat
  | .lit (.string bytes) => bytes.length + 1
  | .lit _ => 1
  | .nil => 1
  | .ptr d => uptoBulk d + 1
  | .slice elems spare => uptoBulkAll elems + uptoBulkAll spare + 1
  | .agg parts => uptoBulkAll parts + 1
  | .iface _ d => uptoBulk d + 1
  | .map entries => uptoBulkEntries entries + 1
  | .held _ => 1
def uptoBulkAll {H : Type} : List (DataW H) → Nat
  | [] => 0
  | d :: r => uptoBulk d + uptoBulkAll r
def uptoBulkEntries {H : Type} : List (Lit × DataW H) → Nat
  | [] => 0
  | x :: r => uptoBulkEntry x + uptoBulkEntries r
def uptoBulkEntry {H : Type} : Lit × DataW H → Nat
  | (.string bytes, d) => bytes.length + uptoBulk d + 1
  | (_, d) => uptoBulk d + 1
 end
def uptoSmall : (H : Type) → List (DataW H) → Bool := fun _ ds => decide (uptoBulkAll ds ≤ 1048576)
def OpenSpec.upto (s : _root_.Go.ChangeSpec) : _root_.Go.OpenSpec := { _root_.Go.OpenSpec.ofChange s with cond := some uptoSmall }

/-- 'caravellaw12.SecretsMake', WHERE WHAT IT READS IS OF BULK AT MOST 1048576: true; the input reads as it did. -/
def secretsMakeUptoRow : OpenClaim := { program := "ytpjoaimbaboleaa", sum := "c627c1d977a3de9f473b6a1d55ec539e03a195c8a32f53e2eb59eeb90c79c1c4", func := "caravel/caravellaw12.SecretsMake", spec := "secretsMake", unfollowed := true, recurses := true, plainKeys := false, apart := false, narrowed := true }
def SecretsMakeUptoSaid : Prop := secretsMakeUptoRow.holds Try.pinned (OpenSpec.upto secretsMakeSpec)

/-- 'caravellaw12.SecretsNobody', WHERE WHAT IT READS IS OF BULK AT MOST 1048576: true; the input reads as it did. -/
def secretsNobodyUptoRow : OpenClaim := { program := "ytpjoaimbaboleaa", sum := "c627c1d977a3de9f473b6a1d55ec539e03a195c8a32f53e2eb59eeb90c79c1c4", func := "caravel/caravellaw12.SecretsNobody", spec := "secretsNobody", unfollowed := true, recurses := true, plainKeys := false, apart := false, narrowed := true }
def SecretsNobodyUptoSaid : Prop := secretsNobodyUptoRow.holds Try.pinned (OpenSpec.upto secretsNobodySpec)

/-- 'caravellaw12.SecretsKept', WHERE WHAT IT READS IS OF BULK AT MOST 1048576: true; the input reads as it did. -/
def secretsKeptUptoRow : OpenClaim := { program := "ytpjoaimbaboleaa", sum := "c627c1d977a3de9f473b6a1d55ec539e03a195c8a32f53e2eb59eeb90c79c1c4", func := "caravel/caravellaw12.SecretsKept", spec := "secretsKept", unfollowed := true, recurses := true, plainKeys := false, apart := false, narrowed := true }
def SecretsKeptUptoSaid : Prop := secretsKeptUptoRow.holds Try.pinned (OpenSpec.upto secretsKeptSpec)

/-- 'caravellaw12.SecretsApart', WHERE WHAT IT READS IS OF BULK AT MOST 1048576: true; the input reads as it did. -/
def secretsApartUptoRow : OpenClaim := { program := "ytpjoaimbaboleaa", sum := "c627c1d977a3de9f473b6a1d55ec539e03a195c8a32f53e2eb59eeb90c79c1c4", func := "caravel/caravellaw12.SecretsApart", spec := "secretsApart", unfollowed := true, recurses := true, plainKeys := false, apart := false, narrowed := true }
def SecretsApartUptoSaid : Prop := secretsApartUptoRow.holds Try.pinned (OpenSpec.upto secretsApartSpec)

end Rows
end Go.Proofs.Ytpjoaimbaboleaa
