/-
  DERIVED. GIVEN WITH THE SEED: THE CARDS: each row of YtjpajfbacmndfaaDoorRows.lean that lists a variable, with what it lists TIED to the program's text (the seventh form; the later family's looks); each row that meets fmt, with fmt's text TOLD by the authors' own Lean function (tested against real Go, not proved from fmt's source: count such statements apart). THE CARD IS WHAT COUNTS. Prove the row's statement (the work); the ties are given (YtjpajfbacmndfaaDoorTie.lean); close each card by the builder's one call (the guide's Derived/Test/ToyasCard.lean, 'card_holds'). Laid BY PROGRAM, IN A SANDBOX (cutbox-door.mjs). By AI agents, Wed Nov 11 2026. No macro, syntax, notation, axiom, sorry.
-/
import Derived.Test.YtjpajfbacmndfaaDoorRows
import GoSem.ClaimSeven
namespace Go.Proofs.YtjpajfbacmndfaaDoor
namespace Rows

/-- THE TIED CARD OF 'bywaykeep.Coded'. -/
def codedCard : Claim7 := { stood := { row := codedRow, standIns := [], harness := (true, "3dfdb191fdb78087fe710c1ca6a7140e1ee6bea9e383d43fc4dfcffed17252ef"), looks := false }, kinds := [], alts := [], laidByText := true, laidKinds := [.data], laidTests := true, laidLooks := .later }
def CodedCardSaid : Prop := Claim7.holds Tryd.pinned (.plain (OpenSpec.ofChange codedSpec)) codedCard

/-- THE SECOND FORM's CARD OF 'bywaykeep.Coded'. -/
def codedUptoCard : Claim7 := { stood := { row := codedUptoRow, standIns := [], harness := (true, "3dfdb191fdb78087fe710c1ca6a7140e1ee6bea9e383d43fc4dfcffed17252ef"), looks := false }, kinds := [], alts := [], laidByText := true, laidKinds := [.data], laidTests := true, laidLooks := .later }
def CodedUptoCardSaid : Prop := Claim7.holds Tryd.pinned (.plain (OpenSpec.upto codedSpec)) codedUptoCard
end Rows
end Go.Proofs.YtjpajfbacmndfaaDoor
