/-
  DERIVED. GIVEN WITH THE SEED: THE CARDS: each row of YtbnialhpflaoaaaDoorRows.lean that lists a variable, with what it lists TIED to the program's text (the seventh form; the later family's looks); each row that meets fmt, with fmt's text TOLD by the authors' own Lean function (tested against real Go, not proved from fmt's source: count such statements apart). THE CARD IS WHAT COUNTS. Prove the row's statement (the work); the ties are given (YtbnialhpflaoaaaDoorTie.lean); close each card by the builder's one call (the guide's Derived/Test/ToyasCard.lean, 'card_holds'). Laid BY PROGRAM, IN A SANDBOX (cutbox-door.mjs). By AI agents, Wed Nov 11 2026. No macro, syntax, notation, axiom, sorry.
-/
import Derived.Test.YtbnialhpflaoaaaDoorRows
import GoSem.ClaimSeven
namespace Go.Proofs.YtbnialhpflaoaaaDoor
namespace Rows

/-- THE TIED CARD OF 'grisaillelaw01.NaturalBasics'. -/
def naturalBasicsCard : Claim7 := { stood := { row := naturalBasicsRow, standIns := [], harness := (true, "9cc30edc7125307ded95ee76b4f8e814f47617e4158c4cb0ed4170e25e4fd98f"), looks := false }, kinds := [], alts := [], laidByText := true, laidKinds := [.data, .data, .data], laidTests := true, laidLooks := .later }
def NaturalBasicsCardSaid : Prop := Claim7.holds Tryd.pinned (.plain (OpenSpec.ofChange naturalBasicsSpec)) naturalBasicsCard

/-- THE TIED CARD OF 'grisaillelaw01.NaturalArithmetic'. -/
def naturalArithmeticCard : Claim7 := { stood := { row := naturalArithmeticRow, standIns := [], harness := (true, "9cc30edc7125307ded95ee76b4f8e814f47617e4158c4cb0ed4170e25e4fd98f"), looks := false }, kinds := [], alts := [], laidByText := true, laidKinds := [.data, .data, .data], laidTests := true, laidLooks := .later }
def NaturalArithmeticCardSaid : Prop := Claim7.holds Tryd.pinned (.plain (OpenSpec.ofChange naturalArithmeticSpec)) naturalArithmeticCard

/-- THE TIED CARD OF 'grisaillelaw01.NaturalDivMod'. -/
def naturalDivModCard : Claim7 := { stood := { row := naturalDivModRow, standIns := [], harness := (true, "9cc30edc7125307ded95ee76b4f8e814f47617e4158c4cb0ed4170e25e4fd98f"), looks := false }, kinds := [], alts := [], laidByText := true, laidKinds := [.data, .data, .data], laidTests := true, laidLooks := .later }
def NaturalDivModCardSaid : Prop := Claim7.holds Tryd.pinned (.plain (OpenSpec.ofChange naturalDivModSpec)) naturalDivModCard

/-- THE TIED CARD OF 'grisaillelaw01.NaturalGCD'. -/
def naturalGCDCard : Claim7 := { stood := { row := naturalGCDRow, standIns := [], harness := (true, "9cc30edc7125307ded95ee76b4f8e814f47617e4158c4cb0ed4170e25e4fd98f"), looks := false }, kinds := [], alts := [], laidByText := true, laidKinds := [.data, .data, .data], laidTests := true, laidLooks := .later }
def NaturalGCDCardSaid : Prop := Claim7.holds Tryd.pinned (.plain (OpenSpec.ofChange naturalGCDSpec)) naturalGCDCard

/-- THE TIED CARD OF 'grisaillelaw01.NaturalShift'. -/
def naturalShiftCard : Claim7 := { stood := { row := naturalShiftRow, standIns := [], harness := (true, "9cc30edc7125307ded95ee76b4f8e814f47617e4158c4cb0ed4170e25e4fd98f"), looks := false }, kinds := [], alts := [], laidByText := true, laidKinds := [.data, .data, .data], laidTests := true, laidLooks := .later }
def NaturalShiftCardSaid : Prop := Claim7.holds Tryd.pinned (.plain (OpenSpec.ofChange naturalShiftSpec)) naturalShiftCard

/-- THE TIED CARD OF 'grisaillelaw01.NaturalSqrt'. -/
def naturalSqrtCard : Claim7 := { stood := { row := naturalSqrtRow, standIns := [], harness := (true, "9cc30edc7125307ded95ee76b4f8e814f47617e4158c4cb0ed4170e25e4fd98f"), looks := false }, kinds := [], alts := [], laidByText := true, laidKinds := [.data, .data, .data], laidTests := true, laidLooks := .later }
def NaturalSqrtCardSaid : Prop := Claim7.holds Tryd.pinned (.plain (OpenSpec.ofChange naturalSqrtSpec)) naturalSqrtCard

/-- THE TIED CARD OF 'grisaillelaw01.NaturalText'. -/
def naturalTextCard : Claim7 := { stood := { row := naturalTextRow, standIns := [], harness := (true, "9cc30edc7125307ded95ee76b4f8e814f47617e4158c4cb0ed4170e25e4fd98f"), looks := false }, kinds := [], alts := [], laidByText := true, laidKinds := [.data, .data, .data], laidTests := true, laidLooks := .later }
def NaturalTextCardSaid : Prop := Claim7.holds Tryd.pinned (.plain (OpenSpec.ofChange naturalTextSpec)) naturalTextCard

/-- THE TIED CARD OF 'grisaillelaw01.NaturalRoundTrip'. -/
def naturalRoundTripCard : Claim7 := { stood := { row := naturalRoundTripRow, standIns := [], harness := (true, "9cc30edc7125307ded95ee76b4f8e814f47617e4158c4cb0ed4170e25e4fd98f"), looks := false }, kinds := [], alts := [], laidByText := true, laidKinds := [.data, .data, .data], laidTests := true, laidLooks := .later }
def NaturalRoundTripCardSaid : Prop := Claim7.holds Tryd.pinned (.plain (OpenSpec.ofChange naturalRoundTripSpec)) naturalRoundTripCard

/-- THE TIED CARD OF 'grisaillelaw01.NaturalRingLaws'. -/
def naturalRingLawsCard : Claim7 := { stood := { row := naturalRingLawsRow, standIns := [], harness := (true, "9cc30edc7125307ded95ee76b4f8e814f47617e4158c4cb0ed4170e25e4fd98f"), looks := false }, kinds := [], alts := [], laidByText := true, laidKinds := [.data, .data, .data], laidTests := true, laidLooks := .later }
def NaturalRingLawsCardSaid : Prop := Claim7.holds Tryd.pinned (.plain (OpenSpec.ofChange naturalRingLawsSpec)) naturalRingLawsCard

/-- THE SECOND FORM's CARD OF 'grisaillelaw01.NaturalBasics'. -/
def naturalBasicsUptoCard : Claim7 := { stood := { row := naturalBasicsUptoRow, standIns := [], harness := (true, "9cc30edc7125307ded95ee76b4f8e814f47617e4158c4cb0ed4170e25e4fd98f"), looks := false }, kinds := [], alts := [], laidByText := true, laidKinds := [.data, .data, .data], laidTests := true, laidLooks := .later }
def NaturalBasicsUptoCardSaid : Prop := Claim7.holds Tryd.pinned (.plain (OpenSpec.upto naturalBasicsSpec)) naturalBasicsUptoCard

/-- THE SECOND FORM's CARD OF 'grisaillelaw01.NaturalArithmetic'. -/
def naturalArithmeticUptoCard : Claim7 := { stood := { row := naturalArithmeticUptoRow, standIns := [], harness := (true, "9cc30edc7125307ded95ee76b4f8e814f47617e4158c4cb0ed4170e25e4fd98f"), looks := false }, kinds := [], alts := [], laidByText := true, laidKinds := [.data, .data, .data], laidTests := true, laidLooks := .later }
def NaturalArithmeticUptoCardSaid : Prop := Claim7.holds Tryd.pinned (.plain (OpenSpec.upto naturalArithmeticSpec)) naturalArithmeticUptoCard

/-- THE SECOND FORM's CARD OF 'grisaillelaw01.NaturalDivMod'. -/
def naturalDivModUptoCard : Claim7 := { stood := { row := naturalDivModUptoRow, standIns := [], harness := (true, "9cc30edc7125307ded95ee76b4f8e814f47617e4158c4cb0ed4170e25e4fd98f"), looks := false }, kinds := [], alts := [], laidByText := true, laidKinds := [.data, .data, .data], laidTests := true, laidLooks := .later }
def NaturalDivModUptoCardSaid : Prop := Claim7.holds Tryd.pinned (.plain (OpenSpec.upto naturalDivModSpec)) naturalDivModUptoCard

/-- THE SECOND FORM's CARD OF 'grisaillelaw01.NaturalGCD'. -/
def naturalGCDUptoCard : Claim7 := { stood := { row := naturalGCDUptoRow, standIns := [], harness := (true, "9cc30edc7125307ded95ee76b4f8e814f47617e4158c4cb0ed4170e25e4fd98f"), looks := false }, kinds := [], alts := [], laidByText := true, laidKinds := [.data, .data, .data], laidTests := true, laidLooks := .later }
def NaturalGCDUptoCardSaid : Prop := Claim7.holds Tryd.pinned (.plain (OpenSpec.upto naturalGCDSpec)) naturalGCDUptoCard

/-- THE SECOND FORM's CARD OF 'grisaillelaw01.NaturalShift'. -/
def naturalShiftUptoCard : Claim7 := { stood := { row := naturalShiftUptoRow, standIns := [], harness := (true, "9cc30edc7125307ded95ee76b4f8e814f47617e4158c4cb0ed4170e25e4fd98f"), looks := false }, kinds := [], alts := [], laidByText := true, laidKinds := [.data, .data, .data], laidTests := true, laidLooks := .later }
def NaturalShiftUptoCardSaid : Prop := Claim7.holds Tryd.pinned (.plain (OpenSpec.upto naturalShiftSpec)) naturalShiftUptoCard

/-- THE SECOND FORM's CARD OF 'grisaillelaw01.NaturalSqrt'. -/
def naturalSqrtUptoCard : Claim7 := { stood := { row := naturalSqrtUptoRow, standIns := [], harness := (true, "9cc30edc7125307ded95ee76b4f8e814f47617e4158c4cb0ed4170e25e4fd98f"), looks := false }, kinds := [], alts := [], laidByText := true, laidKinds := [.data, .data, .data], laidTests := true, laidLooks := .later }
def NaturalSqrtUptoCardSaid : Prop := Claim7.holds Tryd.pinned (.plain (OpenSpec.upto naturalSqrtSpec)) naturalSqrtUptoCard

/-- THE SECOND FORM's CARD OF 'grisaillelaw01.NaturalText'. -/
def naturalTextUptoCard : Claim7 := { stood := { row := naturalTextUptoRow, standIns := [], harness := (true, "9cc30edc7125307ded95ee76b4f8e814f47617e4158c4cb0ed4170e25e4fd98f"), looks := false }, kinds := [], alts := [], laidByText := true, laidKinds := [.data, .data, .data], laidTests := true, laidLooks := .later }
def NaturalTextUptoCardSaid : Prop := Claim7.holds Tryd.pinned (.plain (OpenSpec.upto naturalTextSpec)) naturalTextUptoCard

/-- THE SECOND FORM's CARD OF 'grisaillelaw01.NaturalRoundTrip'. -/
def naturalRoundTripUptoCard : Claim7 := { stood := { row := naturalRoundTripUptoRow, standIns := [], harness := (true, "9cc30edc7125307ded95ee76b4f8e814f47617e4158c4cb0ed4170e25e4fd98f"), looks := false }, kinds := [], alts := [], laidByText := true, laidKinds := [.data, .data, .data], laidTests := true, laidLooks := .later }
def NaturalRoundTripUptoCardSaid : Prop := Claim7.holds Tryd.pinned (.plain (OpenSpec.upto naturalRoundTripSpec)) naturalRoundTripUptoCard

/-- THE SECOND FORM's CARD OF 'grisaillelaw01.NaturalRingLaws'. -/
def naturalRingLawsUptoCard : Claim7 := { stood := { row := naturalRingLawsUptoRow, standIns := [], harness := (true, "9cc30edc7125307ded95ee76b4f8e814f47617e4158c4cb0ed4170e25e4fd98f"), looks := false }, kinds := [], alts := [], laidByText := true, laidKinds := [.data, .data, .data], laidTests := true, laidLooks := .later }
def NaturalRingLawsUptoCardSaid : Prop := Claim7.holds Tryd.pinned (.plain (OpenSpec.upto naturalRingLawsSpec)) naturalRingLawsUptoCard
end Rows
end Go.Proofs.YtbnialhpflaoaaaDoor
