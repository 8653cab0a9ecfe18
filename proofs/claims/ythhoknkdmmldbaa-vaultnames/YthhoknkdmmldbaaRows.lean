/-
  No cell of these rows narrows 'for every input' (looked for: loops, veiled, ifaces, maps, wideKeys, modest, calm, conditions, laid).
  DERIVED. THE GIVEN ROWS OF THIS SEAT. 5 by the template 'for every input the law returns true; each argument reads behind the call as it read before'; 0 by the template 'total and deterministic' (their statements: YthhoknkdmmldbaaTotals.lean).
  GIVEN WITH THE SEED: the statements are not yours to turn. If you find one false, say at which input.
  Laid BY PROGRAM, IN A SANDBOX (cutbox-rows.mjs): the forced cells as the released guide's own fill.sh prints them over the translation 6ebe681056e15ac0… (all of the seat's roots in one cut). By AI agents, Wed Nov 11 2026. No macro, syntax, notation, axiom, sorry.
-/
import Derived.Test.YthhoknkdmmldbaaChecked
import GoSem.Claim
import GoSem.ClaimJoined
import GoSem.ClaimMapViews
import Derived.JoinedTies
import Derived.KernelRfl
namespace Go.Proofs.Ythhoknkdmmldbaa
/- THE CELL 'sum', in the pinned program and in every row, IS THE sha256 OF THE DUMP (.gsa) THAT YthhoknkdmmldbaaProg.lean LOADS. Nothing in Lean hashes anything: it is a label: what it is worth is what the hold of that sum in a sandbox is worth. -/
noncomputable def Try.pinned : Pinned := { name := "ythhoknkdmmldbaa", sum := "6ebe681056e15ac0b8afc9ee0ef65bfd3f9233d3ee1c47416d986aceff178002", checked := Try.checked }
namespace Rows
def none {H : Type} : Left H := { results := [], args := [] }

/-- 'caravellaw09.VaultPlays': WHATEVER THE INPUT: true; the input reads as it did. -/
def vaultPlaysSpec : ChangeSpec := { name := "vaultPlays", fn := fun _ => fun
  | [d] => { results := [.lit (.bool true)], args := [d] }
  | _ => none }
def vaultPlaysRow : OpenClaim := { program := "ythhoknkdmmldbaa", sum := "6ebe681056e15ac0b8afc9ee0ef65bfd3f9233d3ee1c47416d986aceff178002", func := "caravel/caravellaw09.VaultPlays", spec := "vaultPlays", unfollowed := true, recurses := true, plainKeys := false, apart := false }
def VaultPlaysSaid : Prop := vaultPlaysRow.holds Try.pinned (OpenSpec.ofChange vaultPlaysSpec)

/-- ITS FALSE NEIGHBOUR: 'it returns false'. Refute it at one input. -/
def vaultPlaysWrong : ChangeSpec := { name := "vaultPlays", fn := fun _ => fun
  | [d] => { results := [.lit (.bool false)], args := [d] }
  | _ => none }
def VaultPlaysWrongFalsely : Prop := vaultPlaysRow.holds Try.pinned (OpenSpec.ofChange vaultPlaysWrong)

/-- 'caravellaw09.VaultNobody': WHATEVER THE INPUT: true; the input reads as it did. -/
def vaultNobodySpec : ChangeSpec := { name := "vaultNobody", fn := fun _ => fun
  | [d] => { results := [.lit (.bool true)], args := [d] }
  | _ => none }
def vaultNobodyRow : OpenClaim := { program := "ythhoknkdmmldbaa", sum := "6ebe681056e15ac0b8afc9ee0ef65bfd3f9233d3ee1c47416d986aceff178002", func := "caravel/caravellaw09.VaultNobody", spec := "vaultNobody", unfollowed := true, recurses := true, plainKeys := false, apart := false }
def VaultNobodySaid : Prop := vaultNobodyRow.holds Try.pinned (OpenSpec.ofChange vaultNobodySpec)

/-- ITS FALSE NEIGHBOUR: 'it returns false'. Refute it at one input. -/
def vaultNobodyWrong : ChangeSpec := { name := "vaultNobody", fn := fun _ => fun
  | [d] => { results := [.lit (.bool false)], args := [d] }
  | _ => none }
def VaultNobodyWrongFalsely : Prop := vaultNobodyRow.holds Try.pinned (OpenSpec.ofChange vaultNobodyWrong)

/-- 'caravellaw09.VaultSeals': WHATEVER THE INPUT: true; the input reads as it did. -/
def vaultSealsSpec : ChangeSpec := { name := "vaultSeals", fn := fun _ => fun
  | [d1, d2, d3] => { results := [.lit (.bool true)], args := [d1, d2, d3] }
  | _ => none }
def vaultSealsRow : OpenClaim := { program := "ythhoknkdmmldbaa", sum := "6ebe681056e15ac0b8afc9ee0ef65bfd3f9233d3ee1c47416d986aceff178002", func := "caravel/caravellaw09.VaultSeals", spec := "vaultSeals", unfollowed := true, recurses := true, plainKeys := false, apart := false }
def VaultSealsSaid : Prop := vaultSealsRow.holds Try.pinned (OpenSpec.ofChange vaultSealsSpec)

/-- ITS FALSE NEIGHBOUR: 'it returns false'. Refute it at one input. -/
def vaultSealsWrong : ChangeSpec := { name := "vaultSeals", fn := fun _ => fun
  | [d1, d2, d3] => { results := [.lit (.bool false)], args := [d1, d2, d3] }
  | _ => none }
def VaultSealsWrongFalsely : Prop := vaultSealsRow.holds Try.pinned (OpenSpec.ofChange vaultSealsWrong)

/-- 'caravellaw09.VaultAgrees': WHATEVER THE INPUT: true; the input reads as it did. -/
def vaultAgreesSpec : ChangeSpec := { name := "vaultAgrees", fn := fun _ => fun
  | [d] => { results := [.lit (.bool true)], args := [d] }
  | _ => none }
def vaultAgreesRow : OpenClaim := { program := "ythhoknkdmmldbaa", sum := "6ebe681056e15ac0b8afc9ee0ef65bfd3f9233d3ee1c47416d986aceff178002", func := "caravel/caravellaw09.VaultAgrees", spec := "vaultAgrees", unfollowed := true, recurses := true, plainKeys := false, apart := false }
def VaultAgreesSaid : Prop := vaultAgreesRow.holds Try.pinned (OpenSpec.ofChange vaultAgreesSpec)

/-- ITS FALSE NEIGHBOUR: 'it returns false'. Refute it at one input. -/
def vaultAgreesWrong : ChangeSpec := { name := "vaultAgrees", fn := fun _ => fun
  | [d] => { results := [.lit (.bool false)], args := [d] }
  | _ => none }
def VaultAgreesWrongFalsely : Prop := vaultAgreesRow.holds Try.pinned (OpenSpec.ofChange vaultAgreesWrong)

/-- 'caravellaw09.VaultNames': WHATEVER THE INPUT: true; the input reads as it did. -/
def vaultNamesSpec : ChangeSpec := { name := "vaultNames", fn := fun _ => fun
  | [d1, d2] => { results := [.lit (.bool true)], args := [d1, d2] }
  | _ => none }
def vaultNamesRow : OpenClaim := { program := "ythhoknkdmmldbaa", sum := "6ebe681056e15ac0b8afc9ee0ef65bfd3f9233d3ee1c47416d986aceff178002", func := "caravel/caravellaw09.VaultNames", spec := "vaultNames", unfollowed := true, recurses := true, plainKeys := false, apart := false }
def VaultNamesSaid : Prop := vaultNamesRow.holds Try.pinned (OpenSpec.ofChange vaultNamesSpec)

/-- ITS FALSE NEIGHBOUR: 'it returns false'. Refute it at one input. -/
def vaultNamesWrong : ChangeSpec := { name := "vaultNames", fn := fun _ => fun
  | [d1, d2] => { results := [.lit (.bool false)], args := [d1, d2] }
  | _ => none }
def VaultNamesWrongFalsely : Prop := vaultNamesRow.holds Try.pinned (OpenSpec.ofChange vaultNamesWrong)

/- THE SECOND FORM. 'bulk': how many values and letters a reading holds, each counted each time it is reached (what is shared counts as often as it is met; a slice's spare places count too). A statement '..UptoSaid' is the law's where the arguments, and the package variables that the reading takes, are together of bulk at most 1048576: NARROWER than '..Said'. Prove '..Said' where nothing that the law and all that it calls make is longer than what came in: it says more and counts as full. Else prove '..UptoSaid'. A law counts once. -/
mutual
def uptoBulk {H : Type} : DataW H → Nat
  | .lit (.string bytes) => bytes.length + 1
  | .lit _ => 1
  | .nil => 1
  | .ptr d => uptoBulk d + 1
  | .slice elems spare => uptoBulkAll elems + uptoBulkAll spare + 1
  | .agg parts => uptoBulkAll parts + 1
  | .iface _ d => uptoBulk d + 1
  | .map entries => uptoBulkEntries entries + 1
  | .held _ => 1
def uptoBulkAll {H : Type} : List (DataW H) → Nat
  | [] => 0
  | d :: r => uptoBulk d + uptoBulkAll r
def uptoBulkEntries {H : Type} : List (Lit × DataW H) → Nat
  | [] => 0
  | x :: r => uptoBulkEntry x + uptoBulkEntries r
def uptoBulkEntry {H : Type} : Lit × DataW H → Nat
  | (.string bytes, d) => bytes.length + uptoBulk d + 1
  | (_, d) => uptoBulk d + 1
 end
def uptoSmall : (H : Type) → List (DataW H) → Bool := fun _ ds => decide (uptoBulkAll ds ≤ 1048576)
def OpenSpec.upto (s : _root_.Go.ChangeSpec) : _root_.Go.OpenSpec := { _root_.Go.OpenSpec.ofChange s with cond := some uptoSmall }

/-- 'caravellaw09.VaultPlays', WHERE WHAT IT READS IS OF BULK AT MOST 1048576: true; the input reads as it did. -/
def vaultPlaysUptoRow : OpenClaim := { program := "ythhoknkdmmldbaa", sum := "6ebe681056e15ac0b8afc9ee0ef65bfd3f9233d3ee1c47416d986aceff178002", func := "caravel/caravellaw09.VaultPlays", spec := "vaultPlays", unfollowed := true, recurses := true, plainKeys := false, apart := false, narrowed := true }
def VaultPlaysUptoSaid : Prop := vaultPlaysUptoRow.holds Try.pinned (OpenSpec.upto vaultPlaysSpec)

/-- 'caravellaw09.VaultNobody', WHERE WHAT IT READS IS OF BULK AT MOST 1048576: true; the input reads as it did. -/
def vaultNobodyUptoRow : OpenClaim := { program := "ythhoknkdmmldbaa", sum := "6ebe681056e15ac0b8afc9ee0ef65bfd3f9233d3ee1c47416d986aceff178002", func := "caravel/caravellaw09.VaultNobody", spec := "vaultNobody", unfollowed := true, recurses := true, plainKeys := false, apart := false, narrowed := true }
def VaultNobodyUptoSaid : Prop := vaultNobodyUptoRow.holds Try.pinned (OpenSpec.upto vaultNobodySpec)

/-- 'caravellaw09.VaultSeals', WHERE WHAT IT READS IS OF BULK AT MOST 1048576: true; the input reads as it did. -/
def vaultSealsUptoRow : OpenClaim := { program := "ythhoknkdmmldbaa", sum := "6ebe681056e15ac0b8afc9ee0ef65bfd3f9233d3ee1c47416d986aceff178002", func := "caravel/caravellaw09.VaultSeals", spec := "vaultSeals", unfollowed := true, recurses := true, plainKeys := false, apart := false, narrowed := true }
def VaultSealsUptoSaid : Prop := vaultSealsUptoRow.holds Try.pinned (OpenSpec.upto vaultSealsSpec)

/-- 'caravellaw09.VaultAgrees', WHERE WHAT IT READS IS OF BULK AT MOST 1048576: true; the input reads as it did. -/
def vaultAgreesUptoRow : OpenClaim := { program := "ythhoknkdmmldbaa", sum := "6ebe681056e15ac0b8afc9ee0ef65bfd3f9233d3ee1c47416d986aceff178002", func := "caravel/caravellaw09.VaultAgrees", spec := "vaultAgrees", unfollowed := true, recurses := true, plainKeys := false, apart := false, narrowed := true }
def VaultAgreesUptoSaid : Prop := vaultAgreesUptoRow.holds Try.pinned (OpenSpec.upto vaultAgreesSpec)

/-- 'caravellaw09.VaultNames', WHERE WHAT IT READS IS OF BULK AT MOST 1048576: true; the input reads as it did. -/
def vaultNamesUptoRow : OpenClaim := { program := "ythhoknkdmmldbaa", sum := "6ebe681056e15ac0b8afc9ee0ef65bfd3f9233d3ee1c47416d986aceff178002", func := "caravel/caravellaw09.VaultNames", spec := "vaultNames", unfollowed := true, recurses := true, plainKeys := false, apart := false, narrowed := true }
def VaultNamesUptoSaid : Prop := vaultNamesUptoRow.holds Try.pinned (OpenSpec.upto vaultNamesSpec)

end Rows
end Go.Proofs.Ythhoknkdmmldbaa
