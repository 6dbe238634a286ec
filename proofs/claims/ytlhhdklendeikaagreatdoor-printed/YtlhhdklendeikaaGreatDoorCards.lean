/-
  DERIVED. GIVEN WITH THE SEED: THE CARDS: each row of YtlhhdklendeikaaGreatDoorRows.lean that lists a variable, with what it lists TIED to the program's text (the seventh form; the later family's looks); each row that meets fmt, with fmt's text TOLD by the authors' own Lean function (tested against real Go, not proved from fmt's source: count such statements apart). THE CARD IS WHAT COUNTS. Prove the row's statement (the work); the ties are given (YtlhhdklendeikaaGreatDoorTie.lean); close each card by the builder's one call (the guide's Derived/Test/ToyasCard.lean, 'card_holds'). Laid BY PROGRAM, IN A SANDBOX (cutbox-door.mjs). By AI agents, Wed Nov 11 2026. No macro, syntax, notation, axiom, sorry.
-/
import Derived.Test.YtlhhdklendeikaaGreatDoorRows
import GoSem.ClaimSeven
namespace Go.Proofs.YtlhhdklendeikaaGreatDoor
namespace Rows

/-- THE TIED CARD OF 'bywaykeep.Printed'. -/
def printedCard : Claim7 := { stood := { row := printedRow, standIns := [], harness := (true, "b65cf47e79b06683adaeee0a9feeb852adfa0132b65902152a1d4622fc0addf3"), looks := false }, kinds := [], alts := [], laidByText := true, laidKinds := [.data, .data, .data, .data, .data, .data, .pinned], laidTests := true, laidLooks := .later }
def PrintedCardSaid : Prop := Claim7.holds Tryz.pinned (.plain (OpenSpec.ofChange printedSpec)) printedCard

/-- THE TIED CARD OF 'bywaykeep.Likened'. -/
def likenedCard : Claim7 := { stood := { row := likenedRow, standIns := [], harness := (true, "b65cf47e79b06683adaeee0a9feeb852adfa0132b65902152a1d4622fc0addf3"), looks := false }, kinds := [], alts := [], laidByText := true, laidKinds := [.data, .data, .data, .data, .data, .data, .pinned], laidTests := true, laidLooks := .later }
def LikenedCardSaid : Prop := Claim7.holds Tryz.pinned (.plain (OpenSpec.ofChange likenedSpec)) likenedCard

/-- THE TIED CARD OF 'bywaykeep.Ranged'. -/
def rangedCard : Claim7 := { stood := { row := rangedRow, standIns := [], harness := (true, "b65cf47e79b06683adaeee0a9feeb852adfa0132b65902152a1d4622fc0addf3"), looks := false }, kinds := [], alts := [], laidByText := true, laidKinds := [.data, .data, .data, .data, .data, .data, .pinned], laidTests := true, laidLooks := .later }
def RangedCardSaid : Prop := Claim7.holds Tryz.pinned (.plain (OpenSpec.ofChange rangedSpec)) rangedCard

/-- THE TIED CARD OF 'bywaykeep.Sided'. -/
def sidedCard : Claim7 := { stood := { row := sidedRow, standIns := [], harness := (true, "b65cf47e79b06683adaeee0a9feeb852adfa0132b65902152a1d4622fc0addf3"), looks := false }, kinds := [], alts := [], laidByText := true, laidKinds := [.data, .data, .data, .data, .data, .data, .pinned], laidTests := true, laidLooks := .later }
def SidedCardSaid : Prop := Claim7.holds Tryz.pinned (.plain (OpenSpec.ofChange sidedSpec)) sidedCard

/-- THE TIED CARD OF 'bywaykeep.Reckoned'. -/
def reckonedCard : Claim7 := { stood := { row := reckonedRow, standIns := [], harness := (true, "b65cf47e79b06683adaeee0a9feeb852adfa0132b65902152a1d4622fc0addf3"), looks := false }, kinds := [], alts := [], laidByText := true, laidKinds := [.data, .data, .data, .data, .data, .data, .pinned], laidTests := true, laidLooks := .later }
def ReckonedCardSaid : Prop := Claim7.holds Tryz.pinned (.plain (OpenSpec.ofChange reckonedSpec)) reckonedCard

/-- THE TIED CARD OF 'bywaykeep.Marked'. -/
def markedCard : Claim7 := { stood := { row := markedRow, standIns := [], harness := (true, "b65cf47e79b06683adaeee0a9feeb852adfa0132b65902152a1d4622fc0addf3"), looks := false }, kinds := [], alts := [], laidByText := true, laidKinds := [.data, .data, .data, .data, .data, .data, .pinned], laidTests := true, laidLooks := .later }
def MarkedCardSaid : Prop := Claim7.holds Tryz.pinned (.plain (OpenSpec.ofChange markedSpec)) markedCard

/-- THE SECOND FORM's CARD OF 'bywaykeep.Printed'. -/
def printedUptoCard : Claim7 := { stood := { row := printedUptoRow, standIns := [], harness := (true, "b65cf47e79b06683adaeee0a9feeb852adfa0132b65902152a1d4622fc0addf3"), looks := false }, kinds := [], alts := [], laidByText := true, laidKinds := [.data, .data, .data, .data, .data, .data, .pinned], laidTests := true, laidLooks := .later }
def PrintedUptoCardSaid : Prop := Claim7.holds Tryz.pinned (.plain (OpenSpec.upto printedSpec)) printedUptoCard

/-- THE SECOND FORM's CARD OF 'bywaykeep.Likened'. -/
def likenedUptoCard : Claim7 := { stood := { row := likenedUptoRow, standIns := [], harness := (true, "b65cf47e79b06683adaeee0a9feeb852adfa0132b65902152a1d4622fc0addf3"), looks := false }, kinds := [], alts := [], laidByText := true, laidKinds := [.data, .data, .data, .data, .data, .data, .pinned], laidTests := true, laidLooks := .later }
def LikenedUptoCardSaid : Prop := Claim7.holds Tryz.pinned (.plain (OpenSpec.upto likenedSpec)) likenedUptoCard

/-- THE SECOND FORM's CARD OF 'bywaykeep.Ranged'. -/
def rangedUptoCard : Claim7 := { stood := { row := rangedUptoRow, standIns := [], harness := (true, "b65cf47e79b06683adaeee0a9feeb852adfa0132b65902152a1d4622fc0addf3"), looks := false }, kinds := [], alts := [], laidByText := true, laidKinds := [.data, .data, .data, .data, .data, .data, .pinned], laidTests := true, laidLooks := .later }
def RangedUptoCardSaid : Prop := Claim7.holds Tryz.pinned (.plain (OpenSpec.upto rangedSpec)) rangedUptoCard

/-- THE SECOND FORM's CARD OF 'bywaykeep.Sided'. -/
def sidedUptoCard : Claim7 := { stood := { row := sidedUptoRow, standIns := [], harness := (true, "b65cf47e79b06683adaeee0a9feeb852adfa0132b65902152a1d4622fc0addf3"), looks := false }, kinds := [], alts := [], laidByText := true, laidKinds := [.data, .data, .data, .data, .data, .data, .pinned], laidTests := true, laidLooks := .later }
def SidedUptoCardSaid : Prop := Claim7.holds Tryz.pinned (.plain (OpenSpec.upto sidedSpec)) sidedUptoCard

/-- THE SECOND FORM's CARD OF 'bywaykeep.Reckoned'. -/
def reckonedUptoCard : Claim7 := { stood := { row := reckonedUptoRow, standIns := [], harness := (true, "b65cf47e79b06683adaeee0a9feeb852adfa0132b65902152a1d4622fc0addf3"), looks := false }, kinds := [], alts := [], laidByText := true, laidKinds := [.data, .data, .data, .data, .data, .data, .pinned], laidTests := true, laidLooks := .later }
def ReckonedUptoCardSaid : Prop := Claim7.holds Tryz.pinned (.plain (OpenSpec.upto reckonedSpec)) reckonedUptoCard

/-- THE SECOND FORM's CARD OF 'bywaykeep.Marked'. -/
def markedUptoCard : Claim7 := { stood := { row := markedUptoRow, standIns := [], harness := (true, "b65cf47e79b06683adaeee0a9feeb852adfa0132b65902152a1d4622fc0addf3"), looks := false }, kinds := [], alts := [], laidByText := true, laidKinds := [.data, .data, .data, .data, .data, .data, .pinned], laidTests := true, laidLooks := .later }
def MarkedUptoCardSaid : Prop := Claim7.holds Tryz.pinned (.plain (OpenSpec.upto markedSpec)) markedUptoCard
end Rows
end Go.Proofs.YtlhhdklendeikaaGreatDoor
