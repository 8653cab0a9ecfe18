/-
  DERIVED. GIVEN WITH THE SEED: THE CARDS: each row of YtpbiokcelglaaaaDoorRows.lean that lists a variable, with what it lists TIED to the program's text (the seventh form; the later family's looks); each row that meets fmt, with fmt's text TOLD by the authors' own Lean function (tested against real Go, not proved from fmt's source: count such statements apart). THE CARD IS WHAT COUNTS. Prove the row's statement (the work); the ties are given (YtpbiokcelglaaaaDoorTie.lean); close each card by the builder's one call (the guide's Derived/Test/ToyasCard.lean, 'card_holds'). Laid BY PROGRAM, IN A SANDBOX (cutbox-door.mjs). By AI agents, Wed Nov 11 2026. No macro, syntax, notation, axiom, sorry.
-/
import Derived.Test.YtpbiokcelglaaaaDoorRows
import GoSem.ClaimSeven
namespace Go.Proofs.YtpbiokcelglaaaaDoor
namespace Rows

/-- THE TIED CARD OF 'caravellaw06.InboxPlays'. -/
def inboxPlaysCard : Claim7 := { stood := { row := inboxPlaysRow, standIns := [], harness := (true, "0433ebd20cce4d4bf63f23f802d953ad9823764a8f5695526107ded2527ee9a0"), looks := false }, kinds := [], alts := [], laidByText := true, laidKinds := [.data], laidTests := true, laidLooks := .later }
def InboxPlaysCardSaid : Prop := Claim7.holds Tryd.pinned (.plain (OpenSpec.ofChange inboxPlaysSpec)) inboxPlaysCard

/-- THE TIED CARD OF 'caravellaw06.InboxNobody'. -/
def inboxNobodyCard : Claim7 := { stood := { row := inboxNobodyRow, standIns := [], harness := (true, "0433ebd20cce4d4bf63f23f802d953ad9823764a8f5695526107ded2527ee9a0"), looks := false }, kinds := [], alts := [], laidByText := true, laidKinds := [.data], laidTests := true, laidLooks := .later }
def InboxNobodyCardSaid : Prop := Claim7.holds Tryd.pinned (.plain (OpenSpec.ofChange inboxNobodySpec)) inboxNobodyCard

/-- THE TIED CARD OF 'caravellaw06.InboxBack'. -/
def inboxBackCard : Claim7 := { stood := { row := inboxBackRow, standIns := [], harness := (true, "0433ebd20cce4d4bf63f23f802d953ad9823764a8f5695526107ded2527ee9a0"), looks := false }, kinds := [], alts := [], laidByText := true, laidKinds := [.data], laidTests := true, laidLooks := .later }
def InboxBackCardSaid : Prop := Claim7.holds Tryd.pinned (.plain (OpenSpec.ofChange inboxBackSpec)) inboxBackCard

/-- THE TIED CARD OF 'caravellaw06.InboxEnds'. -/
def inboxEndsCard : Claim7 := { stood := { row := inboxEndsRow, standIns := [], harness := (true, "0433ebd20cce4d4bf63f23f802d953ad9823764a8f5695526107ded2527ee9a0"), looks := false }, kinds := [], alts := [], laidByText := true, laidKinds := [.data], laidTests := true, laidLooks := .later }
def InboxEndsCardSaid : Prop := Claim7.holds Tryd.pinned (.plain (OpenSpec.ofChange inboxEndsSpec)) inboxEndsCard

/-- THE SECOND FORM's CARD OF 'caravellaw06.InboxPlays'. -/
def inboxPlaysUptoCard : Claim7 := { stood := { row := inboxPlaysUptoRow, standIns := [], harness := (true, "0433ebd20cce4d4bf63f23f802d953ad9823764a8f5695526107ded2527ee9a0"), looks := false }, kinds := [], alts := [], laidByText := true, laidKinds := [.data], laidTests := true, laidLooks := .later }
def InboxPlaysUptoCardSaid : Prop := Claim7.holds Tryd.pinned (.plain (OpenSpec.upto inboxPlaysSpec)) inboxPlaysUptoCard

/-- THE SECOND FORM's CARD OF 'caravellaw06.InboxNobody'. -/
def inboxNobodyUptoCard : Claim7 := { stood := { row := inboxNobodyUptoRow, standIns := [], harness := (true, "0433ebd20cce4d4bf63f23f802d953ad9823764a8f5695526107ded2527ee9a0"), looks := false }, kinds := [], alts := [], laidByText := true, laidKinds := [.data], laidTests := true, laidLooks := .later }
def InboxNobodyUptoCardSaid : Prop := Claim7.holds Tryd.pinned (.plain (OpenSpec.upto inboxNobodySpec)) inboxNobodyUptoCard

/-- THE SECOND FORM's CARD OF 'caravellaw06.InboxBack'. -/
def inboxBackUptoCard : Claim7 := { stood := { row := inboxBackUptoRow, standIns := [], harness := (true, "0433ebd20cce4d4bf63f23f802d953ad9823764a8f5695526107ded2527ee9a0"), looks := false }, kinds := [], alts := [], laidByText := true, laidKinds := [.data], laidTests := true, laidLooks := .later }
def InboxBackUptoCardSaid : Prop := Claim7.holds Tryd.pinned (.plain (OpenSpec.upto inboxBackSpec)) inboxBackUptoCard

/-- THE SECOND FORM's CARD OF 'caravellaw06.InboxEnds'. -/
def inboxEndsUptoCard : Claim7 := { stood := { row := inboxEndsUptoRow, standIns := [], harness := (true, "0433ebd20cce4d4bf63f23f802d953ad9823764a8f5695526107ded2527ee9a0"), looks := false }, kinds := [], alts := [], laidByText := true, laidKinds := [.data], laidTests := true, laidLooks := .later }
def InboxEndsUptoCardSaid : Prop := Claim7.holds Tryd.pinned (.plain (OpenSpec.upto inboxEndsSpec)) inboxEndsUptoCard
end Rows
end Go.Proofs.YtpbiokcelglaaaaDoor
