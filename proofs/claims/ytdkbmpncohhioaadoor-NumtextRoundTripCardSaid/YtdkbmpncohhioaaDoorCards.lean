/-
  DERIVED. GIVEN WITH THE SEED: THE CARDS: each row of YtdkbmpncohhioaaDoorRows.lean that lists a variable, with what it lists TIED to the program's text (the seventh form; the later family's looks); each row that meets fmt, with fmt's text TOLD by the authors' own Lean function (tested against real Go, not proved from fmt's source: count such statements apart). THE CARD IS WHAT COUNTS. Prove the row's statement (the work); the ties are given (YtdkbmpncohhioaaDoorTie.lean); close each card by the builder's one call (the guide's Derived/Test/ToyasCard.lean, 'card_holds'). Laid BY PROGRAM, IN A SANDBOX (cutbox-door.mjs). By AI agents, Wed Nov 11 2026. No macro, syntax, notation, axiom, sorry.
-/
import Derived.Test.YtdkbmpncohhioaaDoorRows
import GoSem.ClaimSeven
namespace Go.Proofs.YtdkbmpncohhioaaDoor
namespace Rows

/-- THE TIED CARD OF 'grisaillelaw04.NumtextRoundTrip'. -/
def numtextRoundTripCard : Claim7 := { stood := { row := numtextRoundTripRow, standIns := [], harness := (true, "358980e5b3c38c50fc7494ec4d761d639ca01d79af53e115d904bb2a3afc0fd7"), looks := false }, kinds := [], alts := [], laidByText := true, laidKinds := [.data, .data, .data], laidTests := true, laidLooks := .later }
def NumtextRoundTripCardSaid : Prop := Claim7.holds Tryd.pinned (.plain (OpenSpec.ofChange numtextRoundTripSpec)) numtextRoundTripCard

/-- THE TIED CARD OF 'grisaillelaw04.NumtextHex'. -/
def numtextHexCard : Claim7 := { stood := { row := numtextHexRow, standIns := [], harness := (true, "358980e5b3c38c50fc7494ec4d761d639ca01d79af53e115d904bb2a3afc0fd7"), looks := false }, kinds := [], alts := [], laidByText := true, laidKinds := [.data, .data, .data], laidTests := true, laidLooks := .later }
def NumtextHexCardSaid : Prop := Claim7.holds Tryd.pinned (.plain (OpenSpec.ofChange numtextHexSpec)) numtextHexCard

/-- THE TIED CARD OF 'grisaillelaw04.NumtextHexRoundTrip'. -/
def numtextHexRoundTripCard : Claim7 := { stood := { row := numtextHexRoundTripRow, standIns := [], harness := (true, "358980e5b3c38c50fc7494ec4d761d639ca01d79af53e115d904bb2a3afc0fd7"), looks := false }, kinds := [], alts := [], laidByText := true, laidKinds := [.data, .data, .data], laidTests := true, laidLooks := .later }
def NumtextHexRoundTripCardSaid : Prop := Claim7.holds Tryd.pinned (.plain (OpenSpec.ofChange numtextHexRoundTripSpec)) numtextHexRoundTripCard

/-- THE TIED CARD OF 'grisaillelaw04.NumtextIntRange'. -/
def numtextIntRangeCard : Claim7 := { stood := { row := numtextIntRangeRow, standIns := [], harness := (true, "358980e5b3c38c50fc7494ec4d761d639ca01d79af53e115d904bb2a3afc0fd7"), looks := false }, kinds := [], alts := [], laidByText := true, laidKinds := [.data, .data, .data], laidTests := true, laidLooks := .later }
def NumtextIntRangeCardSaid : Prop := Claim7.holds Tryd.pinned (.plain (OpenSpec.ofChange numtextIntRangeSpec)) numtextIntRangeCard

/-- THE SECOND FORM's CARD OF 'grisaillelaw04.NumtextRoundTrip'. -/
def numtextRoundTripUptoCard : Claim7 := { stood := { row := numtextRoundTripUptoRow, standIns := [], harness := (true, "358980e5b3c38c50fc7494ec4d761d639ca01d79af53e115d904bb2a3afc0fd7"), looks := false }, kinds := [], alts := [], laidByText := true, laidKinds := [.data, .data, .data], laidTests := true, laidLooks := .later }
def NumtextRoundTripUptoCardSaid : Prop := Claim7.holds Tryd.pinned (.plain (OpenSpec.upto numtextRoundTripSpec)) numtextRoundTripUptoCard

/-- THE SECOND FORM's CARD OF 'grisaillelaw04.NumtextHex'. -/
def numtextHexUptoCard : Claim7 := { stood := { row := numtextHexUptoRow, standIns := [], harness := (true, "358980e5b3c38c50fc7494ec4d761d639ca01d79af53e115d904bb2a3afc0fd7"), looks := false }, kinds := [], alts := [], laidByText := true, laidKinds := [.data, .data, .data], laidTests := true, laidLooks := .later }
def NumtextHexUptoCardSaid : Prop := Claim7.holds Tryd.pinned (.plain (OpenSpec.upto numtextHexSpec)) numtextHexUptoCard

/-- THE SECOND FORM's CARD OF 'grisaillelaw04.NumtextHexRoundTrip'. -/
def numtextHexRoundTripUptoCard : Claim7 := { stood := { row := numtextHexRoundTripUptoRow, standIns := [], harness := (true, "358980e5b3c38c50fc7494ec4d761d639ca01d79af53e115d904bb2a3afc0fd7"), looks := false }, kinds := [], alts := [], laidByText := true, laidKinds := [.data, .data, .data], laidTests := true, laidLooks := .later }
def NumtextHexRoundTripUptoCardSaid : Prop := Claim7.holds Tryd.pinned (.plain (OpenSpec.upto numtextHexRoundTripSpec)) numtextHexRoundTripUptoCard

/-- THE SECOND FORM's CARD OF 'grisaillelaw04.NumtextIntRange'. -/
def numtextIntRangeUptoCard : Claim7 := { stood := { row := numtextIntRangeUptoRow, standIns := [], harness := (true, "358980e5b3c38c50fc7494ec4d761d639ca01d79af53e115d904bb2a3afc0fd7"), looks := false }, kinds := [], alts := [], laidByText := true, laidKinds := [.data, .data, .data], laidTests := true, laidLooks := .later }
def NumtextIntRangeUptoCardSaid : Prop := Claim7.holds Tryd.pinned (.plain (OpenSpec.upto numtextIntRangeSpec)) numtextIntRangeUptoCard
end Rows
end Go.Proofs.YtdkbmpncohhioaaDoor
