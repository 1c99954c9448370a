/-
  DERIVED. GIVEN WITH THE SEED: THE CARDS: each row of YtcofiekfhnfjpaaDoorRows.lean that lists a variable, with what it lists TIED to the program's text (the seventh form; the later family's looks); each row that meets fmt, with fmt's text TOLD by the authors' own Lean function (tested against real Go, not proved from fmt's source: count such statements apart). THE CARD IS WHAT COUNTS. Prove the row's statement (the work); the ties are given (YtcofiekfhnfjpaaDoorTie.lean); close each card by the builder's one call (the guide's Derived/Test/ToyasCard.lean, 'card_holds'). Laid BY PROGRAM, IN A SANDBOX (cutbox-door.mjs). By AI agents, Wed Nov 11 2026. No macro, syntax, notation, axiom, sorry.
-/
import Derived.Test.YtcofiekfhnfjpaaDoorRows
import GoSem.ClaimSeven
namespace Go.Proofs.YtcofiekfhnfjpaaDoor
namespace Rows

/-- THE TIED CARD OF 'grisaillelaw02.IntegerArithmetic'. -/
def integerArithmeticCard : Claim7 := { stood := { row := integerArithmeticRow, standIns := [], harness := (true, "a83455f06047b2f5491c4a7c209bb926e6dd99af69d5fccd364ac8a0e791d1e1"), looks := false }, kinds := [], alts := [], laidByText := true, laidKinds := [.data, .data, .data], laidTests := true, laidLooks := .later }
def IntegerArithmeticCardSaid : Prop := Claim7.holds Tryd.pinned (.plain (OpenSpec.ofChange integerArithmeticSpec)) integerArithmeticCard

/-- THE TIED CARD OF 'grisaillelaw02.IntegerDivMod'. -/
def integerDivModCard : Claim7 := { stood := { row := integerDivModRow, standIns := [], harness := (true, "a83455f06047b2f5491c4a7c209bb926e6dd99af69d5fccd364ac8a0e791d1e1"), looks := false }, kinds := [], alts := [], laidByText := true, laidKinds := [.data, .data, .data], laidTests := true, laidLooks := .later }
def IntegerDivModCardSaid : Prop := Claim7.holds Tryd.pinned (.plain (OpenSpec.ofChange integerDivModSpec)) integerDivModCard

/-- THE SECOND FORM's CARD OF 'grisaillelaw02.IntegerArithmetic'. -/
def integerArithmeticUptoCard : Claim7 := { stood := { row := integerArithmeticUptoRow, standIns := [], harness := (true, "a83455f06047b2f5491c4a7c209bb926e6dd99af69d5fccd364ac8a0e791d1e1"), looks := false }, kinds := [], alts := [], laidByText := true, laidKinds := [.data, .data, .data], laidTests := true, laidLooks := .later }
def IntegerArithmeticUptoCardSaid : Prop := Claim7.holds Tryd.pinned (.plain (OpenSpec.upto integerArithmeticSpec)) integerArithmeticUptoCard

/-- THE SECOND FORM's CARD OF 'grisaillelaw02.IntegerDivMod'. -/
def integerDivModUptoCard : Claim7 := { stood := { row := integerDivModUptoRow, standIns := [], harness := (true, "a83455f06047b2f5491c4a7c209bb926e6dd99af69d5fccd364ac8a0e791d1e1"), looks := false }, kinds := [], alts := [], laidByText := true, laidKinds := [.data, .data, .data], laidTests := true, laidLooks := .later }
def IntegerDivModUptoCardSaid : Prop := Claim7.holds Tryd.pinned (.plain (OpenSpec.upto integerDivModSpec)) integerDivModUptoCard
end Rows
end Go.Proofs.YtcofiekfhnfjpaaDoor
