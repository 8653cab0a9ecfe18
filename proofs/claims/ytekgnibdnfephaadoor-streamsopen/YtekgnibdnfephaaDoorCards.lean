/-
  DERIVED. GIVEN WITH THE SEED: THE CARDS: each row of YtekgnibdnfephaaDoorRows.lean that lists a variable, with what it lists TIED to the program's text (the seventh form; the later family's looks); each row that meets fmt, with fmt's text TOLD by the authors' own Lean function (tested against real Go, not proved from fmt's source: count such statements apart). THE CARD IS WHAT COUNTS. Prove the row's statement (the work); the ties are given (YtekgnibdnfephaaDoorTie.lean); close each card by the builder's one call (the guide's Derived/Test/ToyasCard.lean, 'card_holds'). Laid BY PROGRAM, IN A SANDBOX (cutbox-door.mjs). By AI agents, Wed Nov 11 2026. No macro, syntax, notation, axiom, sorry.
-/
import Derived.Test.YtekgnibdnfephaaDoorRows
import GoSem.ClaimSeven
namespace Go.Proofs.YtekgnibdnfephaaDoor
namespace Rows

/-- THE TIED CARD OF 'caravellaw21.StreamsOpen'. -/
def streamsOpenCard : Claim7 := { stood := { row := streamsOpenRow, standIns := [], harness := (true, "012d246cc9550a4b0a10ce8fe3e3ed15a4d9173fbd0ed1463593052d58a7f93e"), looks := false }, kinds := [], alts := [], laidByText := true, laidKinds := [.data], laidTests := true, laidLooks := .later }
def StreamsOpenCardSaid : Prop := Claim7.holds Tryd.pinned (.plain (OpenSpec.ofChange streamsOpenSpec)) streamsOpenCard

/-- THE SECOND FORM's CARD OF 'caravellaw21.StreamsOpen'. -/
def streamsOpenUptoCard : Claim7 := { stood := { row := streamsOpenUptoRow, standIns := [], harness := (true, "012d246cc9550a4b0a10ce8fe3e3ed15a4d9173fbd0ed1463593052d58a7f93e"), looks := false }, kinds := [], alts := [], laidByText := true, laidKinds := [.data], laidTests := true, laidLooks := .later }
def StreamsOpenUptoCardSaid : Prop := Claim7.holds Tryd.pinned (.plain (OpenSpec.upto streamsOpenSpec)) streamsOpenUptoCard
end Rows
end Go.Proofs.YtekgnibdnfephaaDoor
