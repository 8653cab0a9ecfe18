/-
  DERIVED. GIVEN WITH THE SEED: THE CARDS: each row of YtdklkofnekacdaaGreatDoorRows.lean that lists a variable, with what it lists TIED to the program's text (the seventh form; the later family's looks); each row that meets fmt, with fmt's text TOLD by the authors' own Lean function (tested against real Go, not proved from fmt's source: count such statements apart). THE CARD IS WHAT COUNTS. Prove the row's statement (the work); the ties are given (YtdklkofnekacdaaGreatDoorTie.lean); close each card by the builder's one call (the guide's Derived/Test/ToyasCard.lean, 'card_holds'). Laid BY PROGRAM, IN A SANDBOX (cutbox-door.mjs). By AI agents, Wed Nov 11 2026. No macro, syntax, notation, axiom, sorry.
-/
import Derived.Test.YtdklkofnekacdaaGreatDoorRows
import GoSem.ClaimSeven
namespace Go.Proofs.YtdklkofnekacdaaGreatDoor
namespace Rows

/-- THE TIED CARD OF 'caravellaw10.ProtectPackets'. -/
def protectPacketsCard : Claim7 := { stood := { row := protectPacketsRow, standIns := [], harness := (true, "415dab24c33df1f3a2370a201567c8e671a875de433bb4e70a53a7dc5b0eb599"), looks := true }, kinds := [], alts := [], laidByText := true, laidKinds := [.handle, .data], laidTests := true, laidLooks := .later }
def ProtectPacketsCardSaid : Prop := Claim7.holds Tryz.pinned (.plain (OpenSpec.ofChange protectPacketsSpec)) protectPacketsCard

/-- THE TIED CARD OF 'caravellaw10.ProtectNobody'. -/
def protectNobodyCard : Claim7 := { stood := { row := protectNobodyRow, standIns := [], harness := (true, "415dab24c33df1f3a2370a201567c8e671a875de433bb4e70a53a7dc5b0eb599"), looks := true }, kinds := [], alts := [], laidByText := true, laidKinds := [.handle, .data], laidTests := true, laidLooks := .later }
def ProtectNobodyCardSaid : Prop := Claim7.holds Tryz.pinned (.plain (OpenSpec.ofChange protectNobodySpec)) protectNobodyCard

/-- THE TIED CARD OF 'caravellaw10.ProtectBack'. -/
def protectBackCard : Claim7 := { stood := { row := protectBackRow, standIns := [], harness := (true, "415dab24c33df1f3a2370a201567c8e671a875de433bb4e70a53a7dc5b0eb599"), looks := true }, kinds := [], alts := [], laidByText := true, laidKinds := [.data], laidTests := true, laidLooks := .later }
def ProtectBackCardSaid : Prop := Claim7.holds Tryz.pinned (.plain (OpenSpec.ofChange protectBackSpec)) protectBackCard

/-- THE SECOND FORM's CARD OF 'caravellaw10.ProtectPackets'. -/
def protectPacketsUptoCard : Claim7 := { stood := { row := protectPacketsUptoRow, standIns := [], harness := (true, "415dab24c33df1f3a2370a201567c8e671a875de433bb4e70a53a7dc5b0eb599"), looks := true }, kinds := [], alts := [], laidByText := true, laidKinds := [.handle, .data], laidTests := true, laidLooks := .later }
def ProtectPacketsUptoCardSaid : Prop := Claim7.holds Tryz.pinned (.plain (OpenSpec.upto protectPacketsSpec)) protectPacketsUptoCard

/-- THE SECOND FORM's CARD OF 'caravellaw10.ProtectNobody'. -/
def protectNobodyUptoCard : Claim7 := { stood := { row := protectNobodyUptoRow, standIns := [], harness := (true, "415dab24c33df1f3a2370a201567c8e671a875de433bb4e70a53a7dc5b0eb599"), looks := true }, kinds := [], alts := [], laidByText := true, laidKinds := [.handle, .data], laidTests := true, laidLooks := .later }
def ProtectNobodyUptoCardSaid : Prop := Claim7.holds Tryz.pinned (.plain (OpenSpec.upto protectNobodySpec)) protectNobodyUptoCard

/-- THE SECOND FORM's CARD OF 'caravellaw10.ProtectBack'. -/
def protectBackUptoCard : Claim7 := { stood := { row := protectBackUptoRow, standIns := [], harness := (true, "415dab24c33df1f3a2370a201567c8e671a875de433bb4e70a53a7dc5b0eb599"), looks := true }, kinds := [], alts := [], laidByText := true, laidKinds := [.data], laidTests := true, laidLooks := .later }
def ProtectBackUptoCardSaid : Prop := Claim7.holds Tryz.pinned (.plain (OpenSpec.upto protectBackSpec)) protectBackUptoCard
end Rows
end Go.Proofs.YtdklkofnekacdaaGreatDoor
