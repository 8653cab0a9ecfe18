/-
  No cell of these rows narrows 'for every input' (looked for: loops, veiled, ifaces, maps, wideKeys, modest, calm, conditions, laid).
  DERIVED. THE GIVEN ROWS OF THIS SEAT. 5 by the template 'for every input the law returns true; each argument reads behind the call as it read before'; 0 by the template 'total and deterministic' (their statements: YtgmhlmficnkhgaaTotals.lean).
  GIVEN WITH THE SEED: the statements are not yours to turn. If you find one false, say at which input.
  Laid BY PROGRAM, IN A SANDBOX (cutbox-rows.mjs): the forced cells as the released guide's own fill.sh prints them over the translation 3c6ce89592f53745… (all of the seat's roots in one cut). By AI agents, Wed Nov 11 2026. No macro, syntax, notation, axiom, sorry.
-/
import Derived.Test.YtgmhlmficnkhgaaChecked
import GoSem.Claim
import GoSem.ClaimJoined
import GoSem.ClaimMapViews
import Derived.JoinedTies
import Derived.KernelRfl
namespace Go.Proofs.Ytgmhlmficnkhgaa
/- THE CELL 'sum', in the pinned program and in every row, IS THE sha256 OF THE DUMP (.gsa) THAT YtgmhlmficnkhgaaProg.lean LOADS. Nothing in Lean hashes anything: it is a label: what it is worth is what the hold of that sum in a sandbox is worth. -/
noncomputable def Try.pinned : Pinned := { name := "ytgmhlmficnkhgaa", sum := "3c6ce89592f537454aa644d0b5553dfd7673bec5adddedbac544a1769d72a1aa", checked := Try.checked }
namespace Rows
def none {H : Type} : Left H := { results := [], args := [] }

/-- 'caravellaw05.RangesPlay': WHATEVER THE INPUT: true; the input reads as it did. -/
def rangesPlaySpec : ChangeSpec := { name := "rangesPlay", fn := fun _ => fun
  | [d] => { results := [.lit (.bool true)], args := [d] }
  | _ => none }
def rangesPlayRow : OpenClaim := { program := "ytgmhlmficnkhgaa", sum := "3c6ce89592f537454aa644d0b5553dfd7673bec5adddedbac544a1769d72a1aa", func := "caravel/caravellaw05.RangesPlay", spec := "rangesPlay", inPlace := ["slices.overlaps[caravel/api.Span]"], unfollowed := true, recurses := true, apart := false }
def RangesPlaySaid : Prop := rangesPlayRow.holds Try.pinned (OpenSpec.ofChange rangesPlaySpec)

/-- ITS FALSE NEIGHBOUR: 'it returns false'. Refute it at one input. -/
def rangesPlayWrong : ChangeSpec := { name := "rangesPlay", fn := fun _ => fun
  | [d] => { results := [.lit (.bool false)], args := [d] }
  | _ => none }
def RangesPlayWrongFalsely : Prop := rangesPlayRow.holds Try.pinned (OpenSpec.ofChange rangesPlayWrong)

/-- 'caravellaw05.RangesNobody': WHATEVER THE INPUT: true; the input reads as it did. -/
def rangesNobodySpec : ChangeSpec := { name := "rangesNobody", fn := fun _ => fun
  | [d] => { results := [.lit (.bool true)], args := [d] }
  | _ => none }
def rangesNobodyRow : OpenClaim := { program := "ytgmhlmficnkhgaa", sum := "3c6ce89592f537454aa644d0b5553dfd7673bec5adddedbac544a1769d72a1aa", func := "caravel/caravellaw05.RangesNobody", spec := "rangesNobody", inPlace := ["slices.overlaps[caravel/api.Span]"], unfollowed := true, recurses := true, apart := false }
def RangesNobodySaid : Prop := rangesNobodyRow.holds Try.pinned (OpenSpec.ofChange rangesNobodySpec)

/-- ITS FALSE NEIGHBOUR: 'it returns false'. Refute it at one input. -/
def rangesNobodyWrong : ChangeSpec := { name := "rangesNobody", fn := fun _ => fun
  | [d] => { results := [.lit (.bool false)], args := [d] }
  | _ => none }
def RangesNobodyWrongFalsely : Prop := rangesNobodyRow.holds Try.pinned (OpenSpec.ofChange rangesNobodyWrong)

/-- 'caravellaw05.RangesOrder': WHATEVER THE INPUT: true; the input reads as it did. -/
def rangesOrderSpec : ChangeSpec := { name := "rangesOrder", fn := fun _ => fun
  | [d1, d2] => { results := [.lit (.bool true)], args := [d1, d2] }
  | _ => none }
def rangesOrderRow : OpenClaim := { program := "ytgmhlmficnkhgaa", sum := "3c6ce89592f537454aa644d0b5553dfd7673bec5adddedbac544a1769d72a1aa", func := "caravel/caravellaw05.RangesOrder", spec := "rangesOrder", inPlace := ["slices.overlaps[caravel/api.Span]"], unfollowed := true, recurses := true, apart := false }
def RangesOrderSaid : Prop := rangesOrderRow.holds Try.pinned (OpenSpec.ofChange rangesOrderSpec)

/-- ITS FALSE NEIGHBOUR: 'it returns false'. Refute it at one input. -/
def rangesOrderWrong : ChangeSpec := { name := "rangesOrder", fn := fun _ => fun
  | [d1, d2] => { results := [.lit (.bool false)], args := [d1, d2] }
  | _ => none }
def RangesOrderWrongFalsely : Prop := rangesOrderRow.holds Try.pinned (OpenSpec.ofChange rangesOrderWrong)

/-- 'caravellaw05.RangesUndo': WHATEVER THE INPUT: true; the input reads as it did. -/
def rangesUndoSpec : ChangeSpec := { name := "rangesUndo", fn := fun _ => fun
  | [d1, d2] => { results := [.lit (.bool true)], args := [d1, d2] }
  | _ => none }
def rangesUndoRow : OpenClaim := { program := "ytgmhlmficnkhgaa", sum := "3c6ce89592f537454aa644d0b5553dfd7673bec5adddedbac544a1769d72a1aa", func := "caravel/caravellaw05.RangesUndo", spec := "rangesUndo", inPlace := ["slices.overlaps[caravel/api.Span]"], unfollowed := true, recurses := true, apart := false }
def RangesUndoSaid : Prop := rangesUndoRow.holds Try.pinned (OpenSpec.ofChange rangesUndoSpec)

/-- ITS FALSE NEIGHBOUR: 'it returns false'. Refute it at one input. -/
def rangesUndoWrong : ChangeSpec := { name := "rangesUndo", fn := fun _ => fun
  | [d1, d2] => { results := [.lit (.bool false)], args := [d1, d2] }
  | _ => none }
def RangesUndoWrongFalsely : Prop := rangesUndoRow.holds Try.pinned (OpenSpec.ofChange rangesUndoWrong)

/-- 'caravellaw05.RangesClone': WHATEVER THE INPUT: true; the input reads as it did. -/
def rangesCloneSpec : ChangeSpec := { name := "rangesClone", fn := fun _ => fun
  | [d1, d2] => { results := [.lit (.bool true)], args := [d1, d2] }
  | _ => none }
def rangesCloneRow : OpenClaim := { program := "ytgmhlmficnkhgaa", sum := "3c6ce89592f537454aa644d0b5553dfd7673bec5adddedbac544a1769d72a1aa", func := "caravel/caravellaw05.RangesClone", spec := "rangesClone", inPlace := ["slices.overlaps[caravel/api.Span]"], unfollowed := true, recurses := true, apart := false }
def RangesCloneSaid : Prop := rangesCloneRow.holds Try.pinned (OpenSpec.ofChange rangesCloneSpec)

/-- ITS FALSE NEIGHBOUR: 'it returns false'. Refute it at one input. -/
def rangesCloneWrong : ChangeSpec := { name := "rangesClone", fn := fun _ => fun
  | [d1, d2] => { results := [.lit (.bool false)], args := [d1, d2] }
  | _ => none }
def RangesCloneWrongFalsely : Prop := rangesCloneRow.holds Try.pinned (OpenSpec.ofChange rangesCloneWrong)

/- THE SECOND FORM. 'bulk': how many values and letters a reading holds, each counted each time it is reached (what is shared counts as often as it is met; a slice's spare places count too). A statement '..UptoSaid' is the law's where the arguments, and the package variables that the reading takes, are together of bulk at most 1048576: NARROWER than '..Said'. Prove '..Said' where nothing that the law and all that it calls make is longer than what came in: it says more and counts as full. Else prove '..UptoSaid'. A law counts once. -/
mutual
def uptoBulk {H : Type} : DataW H → Nat
  | .lit (.string bytes) => bytes.length + 1
  | .lit _ => 1
  | .nil => 1
  | .ptr d => uptoBulk d + 1
  | .slice elems spare => uptoBulkAll elems + uptoBulkAll spare + 1
  | .agg parts => uptoBulkAll parts + 1
  | .iface _ d => uptoBulk d + 1
  | .map entries => uptoBulkEntries entries + 1
  | .held _ => 1
def uptoBulkAll {H : Type} : List (DataW H) → Nat
  | [] => 0
  | d :: r => uptoBulk d + uptoBulkAll r
def uptoBulkEntries {H : Type} : List (Lit × DataW H) → Nat
  | [] => 0
  | x :: r => uptoBulkEntry x + uptoBulkEntries r
def uptoBulkEntry {H : Type} : Lit × DataW H → Nat
  | (.string bytes, d) => bytes.length + uptoBulk d + 1
  | (_, d) => uptoBulk d + 1
 end
def uptoSmall : (H : Type) → List (DataW H) → Bool := fun _ ds => decide (uptoBulkAll ds ≤ 1048576)
def OpenSpec.upto (s : _root_.Go.ChangeSpec) : _root_.Go.OpenSpec := { _root_.Go.OpenSpec.ofChange s with cond := some uptoSmall }

/-- 'caravellaw05.RangesPlay', WHERE WHAT IT READS IS OF BULK AT MOST 1048576: true; the input reads as it did. -/
def rangesPlayUptoRow : OpenClaim := { program := "ytgmhlmficnkhgaa", sum := "3c6ce89592f537454aa644d0b5553dfd7673bec5adddedbac544a1769d72a1aa", func := "caravel/caravellaw05.RangesPlay", spec := "rangesPlay", inPlace := ["slices.overlaps[caravel/api.Span]"], unfollowed := true, recurses := true, apart := false, narrowed := true }
def RangesPlayUptoSaid : Prop := rangesPlayUptoRow.holds Try.pinned (OpenSpec.upto rangesPlaySpec)

/-- 'caravellaw05.RangesNobody', WHERE WHAT IT READS IS OF BULK AT MOST 1048576: true; the input reads as it did. -/
def rangesNobodyUptoRow : OpenClaim := { program := "ytgmhlmficnkhgaa", sum := "3c6ce89592f537454aa644d0b5553dfd7673bec5adddedbac544a1769d72a1aa", func := "caravel/caravellaw05.RangesNobody", spec := "rangesNobody", inPlace := ["slices.overlaps[caravel/api.Span]"], unfollowed := true, recurses := true, apart := false, narrowed := true }
def RangesNobodyUptoSaid : Prop := rangesNobodyUptoRow.holds Try.pinned (OpenSpec.upto rangesNobodySpec)

/-- 'caravellaw05.RangesOrder', WHERE WHAT IT READS IS OF BULK AT MOST 1048576: true; the input reads as it did. -/
def rangesOrderUptoRow : OpenClaim := { program := "ytgmhlmficnkhgaa", sum := "3c6ce89592f537454aa644d0b5553dfd7673bec5adddedbac544a1769d72a1aa", func := "caravel/caravellaw05.RangesOrder", spec := "rangesOrder", inPlace := ["slices.overlaps[caravel/api.Span]"], unfollowed := true, recurses := true, apart := false, narrowed := true }
def RangesOrderUptoSaid : Prop := rangesOrderUptoRow.holds Try.pinned (OpenSpec.upto rangesOrderSpec)

/-- 'caravellaw05.RangesUndo', WHERE WHAT IT READS IS OF BULK AT MOST 1048576: true; the input reads as it did. -/
def rangesUndoUptoRow : OpenClaim := { program := "ytgmhlmficnkhgaa", sum := "3c6ce89592f537454aa644d0b5553dfd7673bec5adddedbac544a1769d72a1aa", func := "caravel/caravellaw05.RangesUndo", spec := "rangesUndo", inPlace := ["slices.overlaps[caravel/api.Span]"], unfollowed := true, recurses := true, apart := false, narrowed := true }
def RangesUndoUptoSaid : Prop := rangesUndoUptoRow.holds Try.pinned (OpenSpec.upto rangesUndoSpec)

/-- 'caravellaw05.RangesClone', WHERE WHAT IT READS IS OF BULK AT MOST 1048576: true; the input reads as it did. -/
def rangesCloneUptoRow : OpenClaim := { program := "ytgmhlmficnkhgaa", sum := "3c6ce89592f537454aa644d0b5553dfd7673bec5adddedbac544a1769d72a1aa", func := "caravel/caravellaw05.RangesClone", spec := "rangesClone", inPlace := ["slices.overlaps[caravel/api.Span]"], unfollowed := true, recurses := true, apart := false, narrowed := true }
def RangesCloneUptoSaid : Prop := rangesCloneUptoRow.holds Try.pinned (OpenSpec.upto rangesCloneSpec)

end Rows
end Go.Proofs.Ytgmhlmficnkhgaa
