/-
  DERIVED. GIVEN WITH THE SEED: THE CARDS: each row of YtmmbmeifljnnhaaDoorRows.lean that lists a variable, with what it lists TIED to the program's text (the seventh form; the later family's looks); each row that meets fmt, with fmt's text TOLD by the authors' own Lean function (tested against real Go, not proved from fmt's source: count such statements apart). THE CARD IS WHAT COUNTS. Prove the row's statement (the work); the ties are given (YtmmbmeifljnnhaaDoorTie.lean); close each card by the builder's one call (the guide's Derived/Test/ToyasCard.lean, 'card_holds'). Laid BY PROGRAM, IN A SANDBOX (cutbox-door.mjs). By AI agents, Wed Nov 11 2026. No macro, syntax, notation, axiom, sorry.
-/
import Derived.Test.YtmmbmeifljnnhaaDoorRows
import GoSem.ClaimSeven
namespace Go.Proofs.YtmmbmeifljnnhaaDoor
namespace Rows

/-- THE TIED CARD OF 'grisaillelaw02.IntegerConstructors'. -/
def integerConstructorsCard : Claim7 := { stood := { row := integerConstructorsRow, standIns := [], harness := (true, "96d407384a532c9dda75e2f969311575e0681dd711892b1eeaaca19ceba065bc"), looks := false }, kinds := [], alts := [], laidByText := true, laidKinds := [.data, .data, .data], laidTests := true, laidLooks := .later }
def IntegerConstructorsCardSaid : Prop := Claim7.holds Tryd.pinned (.plain (OpenSpec.ofChange integerConstructorsSpec)) integerConstructorsCard

/-- THE TIED CARD OF 'grisaillelaw02.IntegerArithmetic'. -/
def integerArithmeticCard : Claim7 := { stood := { row := integerArithmeticRow, standIns := [], harness := (true, "96d407384a532c9dda75e2f969311575e0681dd711892b1eeaaca19ceba065bc"), looks := false }, kinds := [], alts := [], laidByText := true, laidKinds := [.data, .data, .data], laidTests := true, laidLooks := .later }
def IntegerArithmeticCardSaid : Prop := Claim7.holds Tryd.pinned (.plain (OpenSpec.ofChange integerArithmeticSpec)) integerArithmeticCard

/-- THE TIED CARD OF 'grisaillelaw02.IntegerDivision'. -/
def integerDivisionCard : Claim7 := { stood := { row := integerDivisionRow, standIns := [], harness := (true, "96d407384a532c9dda75e2f969311575e0681dd711892b1eeaaca19ceba065bc"), looks := false }, kinds := [], alts := [], laidByText := true, laidKinds := [.data, .data, .data], laidTests := true, laidLooks := .later }
def IntegerDivisionCardSaid : Prop := Claim7.holds Tryd.pinned (.plain (OpenSpec.ofChange integerDivisionSpec)) integerDivisionCard

/-- THE TIED CARD OF 'grisaillelaw02.IntegerText'. -/
def integerTextCard : Claim7 := { stood := { row := integerTextRow, standIns := [], harness := (true, "96d407384a532c9dda75e2f969311575e0681dd711892b1eeaaca19ceba065bc"), looks := false }, kinds := [], alts := [], laidByText := true, laidKinds := [.data, .data, .data], laidTests := true, laidLooks := .later }
def IntegerTextCardSaid : Prop := Claim7.holds Tryd.pinned (.plain (OpenSpec.ofChange integerTextSpec)) integerTextCard

/-- THE TIED CARD OF 'grisaillelaw02.IntegerDivMod'. -/
def integerDivModCard : Claim7 := { stood := { row := integerDivModRow, standIns := [], harness := (true, "96d407384a532c9dda75e2f969311575e0681dd711892b1eeaaca19ceba065bc"), looks := false }, kinds := [], alts := [], laidByText := true, laidKinds := [.data, .data, .data], laidTests := true, laidLooks := .later }
def IntegerDivModCardSaid : Prop := Claim7.holds Tryd.pinned (.plain (OpenSpec.ofChange integerDivModSpec)) integerDivModCard

/-- THE TIED CARD OF 'grisaillelaw02.IntegerRing'. -/
def integerRingCard : Claim7 := { stood := { row := integerRingRow, standIns := [], harness := (true, "96d407384a532c9dda75e2f969311575e0681dd711892b1eeaaca19ceba065bc"), looks := false }, kinds := [], alts := [], laidByText := true, laidKinds := [.data, .data, .data], laidTests := true, laidLooks := .later }
def IntegerRingCardSaid : Prop := Claim7.holds Tryd.pinned (.plain (OpenSpec.ofChange integerRingSpec)) integerRingCard

/-- THE SECOND FORM's CARD OF 'grisaillelaw02.IntegerConstructors'. -/
def integerConstructorsUptoCard : Claim7 := { stood := { row := integerConstructorsUptoRow, standIns := [], harness := (true, "96d407384a532c9dda75e2f969311575e0681dd711892b1eeaaca19ceba065bc"), looks := false }, kinds := [], alts := [], laidByText := true, laidKinds := [.data, .data, .data], laidTests := true, laidLooks := .later }
def IntegerConstructorsUptoCardSaid : Prop := Claim7.holds Tryd.pinned (.plain (OpenSpec.upto integerConstructorsSpec)) integerConstructorsUptoCard

/-- THE SECOND FORM's CARD OF 'grisaillelaw02.IntegerArithmetic'. -/
def integerArithmeticUptoCard : Claim7 := { stood := { row := integerArithmeticUptoRow, standIns := [], harness := (true, "96d407384a532c9dda75e2f969311575e0681dd711892b1eeaaca19ceba065bc"), looks := false }, kinds := [], alts := [], laidByText := true, laidKinds := [.data, .data, .data], laidTests := true, laidLooks := .later }
def IntegerArithmeticUptoCardSaid : Prop := Claim7.holds Tryd.pinned (.plain (OpenSpec.upto integerArithmeticSpec)) integerArithmeticUptoCard

/-- THE SECOND FORM's CARD OF 'grisaillelaw02.IntegerDivision'. -/
def integerDivisionUptoCard : Claim7 := { stood := { row := integerDivisionUptoRow, standIns := [], harness := (true, "96d407384a532c9dda75e2f969311575e0681dd711892b1eeaaca19ceba065bc"), looks := false }, kinds := [], alts := [], laidByText := true, laidKinds := [.data, .data, .data], laidTests := true, laidLooks := .later }
def IntegerDivisionUptoCardSaid : Prop := Claim7.holds Tryd.pinned (.plain (OpenSpec.upto integerDivisionSpec)) integerDivisionUptoCard

/-- THE SECOND FORM's CARD OF 'grisaillelaw02.IntegerText'. -/
def integerTextUptoCard : Claim7 := { stood := { row := integerTextUptoRow, standIns := [], harness := (true, "96d407384a532c9dda75e2f969311575e0681dd711892b1eeaaca19ceba065bc"), looks := false }, kinds := [], alts := [], laidByText := true, laidKinds := [.data, .data, .data], laidTests := true, laidLooks := .later }
def IntegerTextUptoCardSaid : Prop := Claim7.holds Tryd.pinned (.plain (OpenSpec.upto integerTextSpec)) integerTextUptoCard

/-- THE SECOND FORM's CARD OF 'grisaillelaw02.IntegerDivMod'. -/
def integerDivModUptoCard : Claim7 := { stood := { row := integerDivModUptoRow, standIns := [], harness := (true, "96d407384a532c9dda75e2f969311575e0681dd711892b1eeaaca19ceba065bc"), looks := false }, kinds := [], alts := [], laidByText := true, laidKinds := [.data, .data, .data], laidTests := true, laidLooks := .later }
def IntegerDivModUptoCardSaid : Prop := Claim7.holds Tryd.pinned (.plain (OpenSpec.upto integerDivModSpec)) integerDivModUptoCard

/-- THE SECOND FORM's CARD OF 'grisaillelaw02.IntegerRing'. -/
def integerRingUptoCard : Claim7 := { stood := { row := integerRingUptoRow, standIns := [], harness := (true, "96d407384a532c9dda75e2f969311575e0681dd711892b1eeaaca19ceba065bc"), looks := false }, kinds := [], alts := [], laidByText := true, laidKinds := [.data, .data, .data], laidTests := true, laidLooks := .later }
def IntegerRingUptoCardSaid : Prop := Claim7.holds Tryd.pinned (.plain (OpenSpec.upto integerRingSpec)) integerRingUptoCard
end Rows
end Go.Proofs.YtmmbmeifljnnhaaDoor
