/-
  DERIVED. GIVEN WITH THE SEED: THE CARDS: each row of YtijndpjdmiljkaaGreatDoorRows.lean that lists a variable, with what it lists TIED to the program's text (the seventh form; the later family's looks); each row that meets fmt, with fmt's text TOLD by the authors' own Lean function (tested against real Go, not proved from fmt's source: count such statements apart). THE CARD IS WHAT COUNTS. Prove the row's statement (the work); the ties are given (YtijndpjdmiljkaaGreatDoorTie.lean); close each card by the builder's one call (the guide's Derived/Test/ToyasCard.lean, 'card_holds'). Laid BY PROGRAM, IN A SANDBOX (cutbox-door.mjs). By AI agents, Wed Nov 11 2026. No macro, syntax, notation, axiom, sorry.
-/
import Derived.Test.YtijndpjdmiljkaaGreatDoorRows
import GoSem.ClaimSeven
namespace Go.Proofs.YtijndpjdmiljkaaGreatDoor
namespace Rows

/-- THE TIED CARD OF 'caravellaw21.StreamsWorld'. -/
def streamsWorldCard : Claim7 := { stood := { row := streamsWorldRow, standIns := [], harness := (true, "896570d56453072881b09447429e31be63e9223bd70989fafd03504640407a56"), looks := true }, kinds := [], alts := [], laidByText := true, laidKinds := [.data, .data], laidTests := true, laidLooks := .later }
def StreamsWorldCardSaid : Prop := Claim7.holds Tryz.pinned (.plain (OpenSpec.ofChange streamsWorldSpec)) streamsWorldCard

/-- THE TIED CARD OF 'caravellaw21.StreamsArrive'. -/
def streamsArriveCard : Claim7 := { stood := { row := streamsArriveRow, standIns := [], harness := (true, "896570d56453072881b09447429e31be63e9223bd70989fafd03504640407a56"), looks := true }, kinds := [], alts := [], laidByText := true, laidKinds := [.data, .data], laidTests := true, laidLooks := .later }
def StreamsArriveCardSaid : Prop := Claim7.holds Tryz.pinned (.plain (OpenSpec.ofChange streamsArriveSpec)) streamsArriveCard

/-- THE TIED CARD OF 'caravellaw21.StreamsApart'. -/
def streamsApartCard : Claim7 := { stood := { row := streamsApartRow, standIns := [], harness := (true, "896570d56453072881b09447429e31be63e9223bd70989fafd03504640407a56"), looks := true }, kinds := [], alts := [], laidByText := true, laidKinds := [.data, .data], laidTests := true, laidLooks := .later }
def StreamsApartCardSaid : Prop := Claim7.holds Tryz.pinned (.plain (OpenSpec.ofChange streamsApartSpec)) streamsApartCard

/-- THE TIED CARD OF 'caravellaw21.StreamsRefuse'. -/
def streamsRefuseCard : Claim7 := { stood := { row := streamsRefuseRow, standIns := [], harness := (true, "896570d56453072881b09447429e31be63e9223bd70989fafd03504640407a56"), looks := true }, kinds := [], alts := [], laidByText := true, laidKinds := [.data, .handle], laidTests := true, laidLooks := .later }
def StreamsRefuseCardSaid : Prop := Claim7.holds Tryz.pinned (.plain (OpenSpec.ofChange streamsRefuseSpec)) streamsRefuseCard

/-- THE TIED CARD OF 'caravellaw21.StreamsNobody'. -/
def streamsNobodyCard : Claim7 := { stood := { row := streamsNobodyRow, standIns := [], harness := (true, "896570d56453072881b09447429e31be63e9223bd70989fafd03504640407a56"), looks := true }, kinds := [], alts := [], laidByText := true, laidKinds := [.data, .data], laidTests := true, laidLooks := .later }
def StreamsNobodyCardSaid : Prop := Claim7.holds Tryz.pinned (.plain (OpenSpec.ofChange streamsNobodySpec)) streamsNobodyCard

/-- THE SECOND FORM's CARD OF 'caravellaw21.StreamsWorld'. -/
def streamsWorldUptoCard : Claim7 := { stood := { row := streamsWorldUptoRow, standIns := [], harness := (true, "896570d56453072881b09447429e31be63e9223bd70989fafd03504640407a56"), looks := true }, kinds := [], alts := [], laidByText := true, laidKinds := [.data, .data], laidTests := true, laidLooks := .later }
def StreamsWorldUptoCardSaid : Prop := Claim7.holds Tryz.pinned (.plain (OpenSpec.upto streamsWorldSpec)) streamsWorldUptoCard

/-- THE SECOND FORM's CARD OF 'caravellaw21.StreamsArrive'. -/
def streamsArriveUptoCard : Claim7 := { stood := { row := streamsArriveUptoRow, standIns := [], harness := (true, "896570d56453072881b09447429e31be63e9223bd70989fafd03504640407a56"), looks := true }, kinds := [], alts := [], laidByText := true, laidKinds := [.data, .data], laidTests := true, laidLooks := .later }
def StreamsArriveUptoCardSaid : Prop := Claim7.holds Tryz.pinned (.plain (OpenSpec.upto streamsArriveSpec)) streamsArriveUptoCard

/-- THE SECOND FORM's CARD OF 'caravellaw21.StreamsApart'. -/
def streamsApartUptoCard : Claim7 := { stood := { row := streamsApartUptoRow, standIns := [], harness := (true, "896570d56453072881b09447429e31be63e9223bd70989fafd03504640407a56"), looks := true }, kinds := [], alts := [], laidByText := true, laidKinds := [.data, .data], laidTests := true, laidLooks := .later }
def StreamsApartUptoCardSaid : Prop := Claim7.holds Tryz.pinned (.plain (OpenSpec.upto streamsApartSpec)) streamsApartUptoCard

/-- THE SECOND FORM's CARD OF 'caravellaw21.StreamsRefuse'. -/
def streamsRefuseUptoCard : Claim7 := { stood := { row := streamsRefuseUptoRow, standIns := [], harness := (true, "896570d56453072881b09447429e31be63e9223bd70989fafd03504640407a56"), looks := true }, kinds := [], alts := [], laidByText := true, laidKinds := [.data, .handle], laidTests := true, laidLooks := .later }
def StreamsRefuseUptoCardSaid : Prop := Claim7.holds Tryz.pinned (.plain (OpenSpec.upto streamsRefuseSpec)) streamsRefuseUptoCard

/-- THE SECOND FORM's CARD OF 'caravellaw21.StreamsNobody'. -/
def streamsNobodyUptoCard : Claim7 := { stood := { row := streamsNobodyUptoRow, standIns := [], harness := (true, "896570d56453072881b09447429e31be63e9223bd70989fafd03504640407a56"), looks := true }, kinds := [], alts := [], laidByText := true, laidKinds := [.data, .data], laidTests := true, laidLooks := .later }
def StreamsNobodyUptoCardSaid : Prop := Claim7.holds Tryz.pinned (.plain (OpenSpec.upto streamsNobodySpec)) streamsNobodyUptoCard
end Rows
end Go.Proofs.YtijndpjdmiljkaaGreatDoor
