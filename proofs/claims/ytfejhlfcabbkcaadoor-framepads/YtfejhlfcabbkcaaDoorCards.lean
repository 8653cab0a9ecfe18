/-
  DERIVED. GIVEN WITH THE SEED: THE CARDS: each row of YtfejhlfcabbkcaaDoorRows.lean that lists a variable, with what it lists TIED to the program's text (the seventh form; the later family's looks); each row that meets fmt, with fmt's text TOLD by the authors' own Lean function (tested against real Go, not proved from fmt's source: count such statements apart). THE CARD IS WHAT COUNTS. Prove the row's statement (the work); the ties are given (YtfejhlfcabbkcaaDoorTie.lean); close each card by the builder's one call (the guide's Derived/Test/ToyasCard.lean, 'card_holds'). Laid BY PROGRAM, IN A SANDBOX (cutbox-door.mjs). By AI agents, Wed Nov 11 2026. No macro, syntax, notation, axiom, sorry.
-/
import Derived.Test.YtfejhlfcabbkcaaDoorRows
import GoSem.ClaimSeven
namespace Go.Proofs.YtfejhlfcabbkcaaDoor
namespace Rows

/-- THE TIED CARD OF 'caravellaw04.FramePads'. -/
def framePadsCard : Claim7 := { stood := { row := framePadsRow, standIns := [], harness := (true, "787030e355347b7bf9a09d7c14e267679bef2768f37ea5455cf7a79d5616cbf6"), looks := true }, kinds := [], alts := [], laidByText := true, laidKinds := [.handle, .data, .sentinel], laidTests := true, laidLooks := .later }
def FramePadsCardSaid : Prop := Claim7.holds Tryd.pinned (.plain (OpenSpec.ofChange framePadsSpec)) framePadsCard

/-- THE SECOND FORM's CARD OF 'caravellaw04.FramePads'. -/
def framePadsUptoCard : Claim7 := { stood := { row := framePadsUptoRow, standIns := [], harness := (true, "787030e355347b7bf9a09d7c14e267679bef2768f37ea5455cf7a79d5616cbf6"), looks := true }, kinds := [], alts := [], laidByText := true, laidKinds := [.handle, .data, .sentinel], laidTests := true, laidLooks := .later }
def FramePadsUptoCardSaid : Prop := Claim7.holds Tryd.pinned (.plain (OpenSpec.upto framePadsSpec)) framePadsUptoCard
end Rows
end Go.Proofs.YtfejhlfcabbkcaaDoor
