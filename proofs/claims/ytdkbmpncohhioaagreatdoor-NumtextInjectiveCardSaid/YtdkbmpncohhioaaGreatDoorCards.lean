/-
  DERIVED. GIVEN WITH THE SEED: THE CARDS: each row of YtdkbmpncohhioaaGreatDoorRows.lean that lists a variable, with what it lists TIED to the program's text (the seventh form; the later family's looks); each row that meets fmt, with fmt's text TOLD by the authors' own Lean function (tested against real Go, not proved from fmt's source: count such statements apart). THE CARD IS WHAT COUNTS. Prove the row's statement (the work); the ties are given (YtdkbmpncohhioaaGreatDoorTie.lean); close each card by the builder's one call (the guide's Derived/Test/ToyasCard.lean, 'card_holds'). Laid BY PROGRAM, IN A SANDBOX (cutbox-door.mjs). By AI agents, Wed Nov 11 2026. No macro, syntax, notation, axiom, sorry.
-/
import Derived.Test.YtdkbmpncohhioaaGreatDoorRows
import GoSem.ClaimSeven
namespace Go.Proofs.YtdkbmpncohhioaaGreatDoor
namespace Rows

/-- THE TIED CARD OF 'grisaillelaw04.NumtextInts'. -/
def numtextIntsCard : Claim7 := { stood := { row := numtextIntsRow, standIns := [], harness := (true, "c32c992fa66bb8412dab8e3bb613cb86e2902bef6fad5d5cf543cc0c9cdb7097"), looks := false }, kinds := [], alts := [], laidByText := true, laidKinds := [.data, .data, .data], laidTests := true, laidLooks := .later }
def NumtextIntsCardSaid : Prop := Claim7.holds Tryz.pinned (.plain (OpenSpec.ofChange numtextIntsSpec)) numtextIntsCard

/-- THE TIED CARD OF 'grisaillelaw04.NumtextRationals'. -/
def numtextRationalsCard : Claim7 := { stood := { row := numtextRationalsRow, standIns := [], harness := (true, "c32c992fa66bb8412dab8e3bb613cb86e2902bef6fad5d5cf543cc0c9cdb7097"), looks := false }, kinds := [], alts := [], laidByText := true, laidKinds := [.data, .data, .data], laidTests := true, laidLooks := .later }
def NumtextRationalsCardSaid : Prop := Claim7.holds Tryz.pinned (.plain (OpenSpec.ofChange numtextRationalsSpec)) numtextRationalsCard

/-- THE TIED CARD OF 'grisaillelaw04.NumtextInjective'. -/
def numtextInjectiveCard : Claim7 := { stood := { row := numtextInjectiveRow, standIns := [], harness := (true, "c32c992fa66bb8412dab8e3bb613cb86e2902bef6fad5d5cf543cc0c9cdb7097"), looks := false }, kinds := [], alts := [], laidByText := true, laidKinds := [.data, .data, .data], laidTests := true, laidLooks := .later }
def NumtextInjectiveCardSaid : Prop := Claim7.holds Tryz.pinned (.plain (OpenSpec.ofChange numtextInjectiveSpec)) numtextInjectiveCard

/-- THE SECOND FORM's CARD OF 'grisaillelaw04.NumtextInts'. -/
def numtextIntsUptoCard : Claim7 := { stood := { row := numtextIntsUptoRow, standIns := [], harness := (true, "c32c992fa66bb8412dab8e3bb613cb86e2902bef6fad5d5cf543cc0c9cdb7097"), looks := false }, kinds := [], alts := [], laidByText := true, laidKinds := [.data, .data, .data], laidTests := true, laidLooks := .later }
def NumtextIntsUptoCardSaid : Prop := Claim7.holds Tryz.pinned (.plain (OpenSpec.upto numtextIntsSpec)) numtextIntsUptoCard

/-- THE SECOND FORM's CARD OF 'grisaillelaw04.NumtextRationals'. -/
def numtextRationalsUptoCard : Claim7 := { stood := { row := numtextRationalsUptoRow, standIns := [], harness := (true, "c32c992fa66bb8412dab8e3bb613cb86e2902bef6fad5d5cf543cc0c9cdb7097"), looks := false }, kinds := [], alts := [], laidByText := true, laidKinds := [.data, .data, .data], laidTests := true, laidLooks := .later }
def NumtextRationalsUptoCardSaid : Prop := Claim7.holds Tryz.pinned (.plain (OpenSpec.upto numtextRationalsSpec)) numtextRationalsUptoCard

/-- THE SECOND FORM's CARD OF 'grisaillelaw04.NumtextInjective'. -/
def numtextInjectiveUptoCard : Claim7 := { stood := { row := numtextInjectiveUptoRow, standIns := [], harness := (true, "c32c992fa66bb8412dab8e3bb613cb86e2902bef6fad5d5cf543cc0c9cdb7097"), looks := false }, kinds := [], alts := [], laidByText := true, laidKinds := [.data, .data, .data], laidTests := true, laidLooks := .later }
def NumtextInjectiveUptoCardSaid : Prop := Claim7.holds Tryz.pinned (.plain (OpenSpec.upto numtextInjectiveSpec)) numtextInjectiveUptoCard
end Rows
end Go.Proofs.YtdkbmpncohhioaaGreatDoor
