/-
  DERIVED. GIVEN WITH THE SEED: THE CARDS: each row of YthdenbclfogojaaGreatDoorRows.lean that lists a variable, with what it lists TIED to the program's text (the seventh form; the later family's looks); each row that meets fmt, with fmt's text TOLD by the authors' own Lean function (tested against real Go, not proved from fmt's source: count such statements apart). THE CARD IS WHAT COUNTS. Prove the row's statement (the work); the ties are given (YthdenbclfogojaaGreatDoorTie.lean); close each card by the builder's one call (the guide's Derived/Test/ToyasCard.lean, 'card_holds'). Laid BY PROGRAM, IN A SANDBOX (cutbox-door.mjs). By AI agents, Wed Nov 11 2026. No macro, syntax, notation, axiom, sorry.
-/
import Derived.Test.YthdenbclfogojaaGreatDoorRows
import GoSem.ClaimSeven
namespace Go.Proofs.YthdenbclfogojaaGreatDoor
namespace Rows

/-- THE TIED CARD OF 'caravellaw13.HandshakeNobody'. -/
def handshakeNobodyCard : Claim7 := { stood := { row := handshakeNobodyRow, standIns := [], harness := (true, "0c67e3e4e4fb4363ef0fc08de0a958b5259f4aac0795f951b75edcc90872168e"), looks := true }, kinds := [], alts := [], laidByText := true, laidKinds := [.handle], laidTests := true, laidLooks := .later }
def HandshakeNobodyCardSaid : Prop := Claim7.holds Tryz.pinned (.plain (OpenSpec.ofChange handshakeNobodySpec)) handshakeNobodyCard

/-- THE TIED CARD OF 'caravellaw13.HandshakeCompletes'. -/
def handshakeCompletesCard : Claim7 := { stood := { row := handshakeCompletesRow, standIns := [], harness := (true, "0c67e3e4e4fb4363ef0fc08de0a958b5259f4aac0795f951b75edcc90872168e"), looks := true }, kinds := [], alts := [], laidByText := true, laidKinds := [.handle], laidTests := true, laidLooks := .later }
def HandshakeCompletesCardSaid : Prop := Claim7.holds Tryz.pinned (.plain (OpenSpec.ofChange handshakeCompletesSpec)) handshakeCompletesCard

/-- THE TIED CARD OF 'caravellaw13.HandshakeAgrees'. -/
def handshakeAgreesCard : Claim7 := { stood := { row := handshakeAgreesRow, standIns := [], harness := (true, "0c67e3e4e4fb4363ef0fc08de0a958b5259f4aac0795f951b75edcc90872168e"), looks := true }, kinds := [], alts := [], laidByText := true, laidKinds := [.handle], laidTests := true, laidLooks := .later }
def HandshakeAgreesCardSaid : Prop := Claim7.holds Tryz.pinned (.plain (OpenSpec.ofChange handshakeAgreesSpec)) handshakeAgreesCard

/-- THE TIED CARD OF 'caravellaw13.HandshakeCuts'. -/
def handshakeCutsCard : Claim7 := { stood := { row := handshakeCutsRow, standIns := [], harness := (true, "0c67e3e4e4fb4363ef0fc08de0a958b5259f4aac0795f951b75edcc90872168e"), looks := true }, kinds := [], alts := [], laidByText := true, laidKinds := [.handle], laidTests := true, laidLooks := .later }
def HandshakeCutsCardSaid : Prop := Claim7.holds Tryz.pinned (.plain (OpenSpec.ofChange handshakeCutsSpec)) handshakeCutsCard

/-- THE SECOND FORM's CARD OF 'caravellaw13.HandshakeNobody'. -/
def handshakeNobodyUptoCard : Claim7 := { stood := { row := handshakeNobodyUptoRow, standIns := [], harness := (true, "0c67e3e4e4fb4363ef0fc08de0a958b5259f4aac0795f951b75edcc90872168e"), looks := true }, kinds := [], alts := [], laidByText := true, laidKinds := [.handle], laidTests := true, laidLooks := .later }
def HandshakeNobodyUptoCardSaid : Prop := Claim7.holds Tryz.pinned (.plain (OpenSpec.upto handshakeNobodySpec)) handshakeNobodyUptoCard

/-- THE SECOND FORM's CARD OF 'caravellaw13.HandshakeCompletes'. -/
def handshakeCompletesUptoCard : Claim7 := { stood := { row := handshakeCompletesUptoRow, standIns := [], harness := (true, "0c67e3e4e4fb4363ef0fc08de0a958b5259f4aac0795f951b75edcc90872168e"), looks := true }, kinds := [], alts := [], laidByText := true, laidKinds := [.handle], laidTests := true, laidLooks := .later }
def HandshakeCompletesUptoCardSaid : Prop := Claim7.holds Tryz.pinned (.plain (OpenSpec.upto handshakeCompletesSpec)) handshakeCompletesUptoCard

/-- THE SECOND FORM's CARD OF 'caravellaw13.HandshakeAgrees'. -/
def handshakeAgreesUptoCard : Claim7 := { stood := { row := handshakeAgreesUptoRow, standIns := [], harness := (true, "0c67e3e4e4fb4363ef0fc08de0a958b5259f4aac0795f951b75edcc90872168e"), looks := true }, kinds := [], alts := [], laidByText := true, laidKinds := [.handle], laidTests := true, laidLooks := .later }
def HandshakeAgreesUptoCardSaid : Prop := Claim7.holds Tryz.pinned (.plain (OpenSpec.upto handshakeAgreesSpec)) handshakeAgreesUptoCard

/-- THE SECOND FORM's CARD OF 'caravellaw13.HandshakeCuts'. -/
def handshakeCutsUptoCard : Claim7 := { stood := { row := handshakeCutsUptoRow, standIns := [], harness := (true, "0c67e3e4e4fb4363ef0fc08de0a958b5259f4aac0795f951b75edcc90872168e"), looks := true }, kinds := [], alts := [], laidByText := true, laidKinds := [.handle], laidTests := true, laidLooks := .later }
def HandshakeCutsUptoCardSaid : Prop := Claim7.holds Tryz.pinned (.plain (OpenSpec.upto handshakeCutsSpec)) handshakeCutsUptoCard
end Rows
end Go.Proofs.YthdenbclfogojaaGreatDoor
