/-
  DERIVED. GIVEN WITH THE SEED: THE CARDS: each row of YtdhajiaepaamgaaDoorRows.lean that lists a variable, with what it lists TIED to the program's text (the seventh form; the later family's looks); each row that meets fmt, with fmt's text TOLD by the authors' own Lean function (tested against real Go, not proved from fmt's source: count such statements apart). THE CARD IS WHAT COUNTS. Prove the row's statement (the work); the ties are given (YtdhajiaepaamgaaDoorTie.lean); close each card by the builder's one call (the guide's Derived/Test/ToyasCard.lean, 'card_holds'). Laid BY PROGRAM, IN A SANDBOX (cutbox-door.mjs). By AI agents, Wed Nov 11 2026. No macro, syntax, notation, axiom, sorry.
-/
import Derived.Test.YtdhajiaepaamgaaDoorRows
import GoSem.ClaimSeven
namespace Go.Proofs.YtdhajiaepaamgaaDoor
namespace Rows

/-- THE TIED CARD OF 'grisaillelaw28.BlendModeNames'. -/
def blendModeNamesCard : Claim7 := { stood := { row := blendModeNamesRow, standIns := [], harness := (true, "0c2241fc8f5ce3f5db2331bd034beaa7f2f42f212eeeeea9ef8d74bf82240524"), looks := false }, kinds := [], alts := [], laidByText := true, laidKinds := [.data], laidTests := true, laidLooks := .later }
def BlendModeNamesCardSaid : Prop := Claim7.holds Tryd.pinned (.plain (OpenSpec.ofChange blendModeNamesSpec)) blendModeNamesCard

/-- THE TIED CARD OF 'grisaillelaw28.BlendTerms'. -/
def blendTermsCard : Claim7 := { stood := { row := blendTermsRow, standIns := [], harness := (true, "0c2241fc8f5ce3f5db2331bd034beaa7f2f42f212eeeeea9ef8d74bf82240524"), looks := false }, kinds := [], alts := [], laidByText := true, laidKinds := [.data], laidTests := true, laidLooks := .later }
def BlendTermsCardSaid : Prop := Claim7.holds Tryd.pinned (.plain (OpenSpec.ofChange blendTermsSpec)) blendTermsCard

/-- THE TIED CARD OF 'grisaillelaw28.BlendPixels'. -/
def blendPixelsCard : Claim7 := { stood := { row := blendPixelsRow, standIns := [], harness := (true, "0c2241fc8f5ce3f5db2331bd034beaa7f2f42f212eeeeea9ef8d74bf82240524"), looks := false }, kinds := [], alts := [], laidByText := true, laidKinds := [.data], laidTests := true, laidLooks := .later }
def BlendPixelsCardSaid : Prop := Claim7.holds Tryd.pinned (.plain (OpenSpec.ofChange blendPixelsSpec)) blendPixelsCard

/-- THE TIED CARD OF 'grisaillelaw28.BlendTermRange'. -/
def blendTermRangeCard : Claim7 := { stood := { row := blendTermRangeRow, standIns := [], harness := (true, "0c2241fc8f5ce3f5db2331bd034beaa7f2f42f212eeeeea9ef8d74bf82240524"), looks := false }, kinds := [], alts := [], laidByText := true, laidKinds := [.data], laidTests := true, laidLooks := .later }
def BlendTermRangeCardSaid : Prop := Claim7.holds Tryd.pinned (.plain (OpenSpec.ofChange blendTermRangeSpec)) blendTermRangeCard

/-- THE TIED CARD OF 'grisaillelaw28.BlendTransparent'. -/
def blendTransparentCard : Claim7 := { stood := { row := blendTransparentRow, standIns := [], harness := (true, "0c2241fc8f5ce3f5db2331bd034beaa7f2f42f212eeeeea9ef8d74bf82240524"), looks := false }, kinds := [], alts := [], laidByText := true, laidKinds := [.data], laidTests := true, laidLooks := .later }
def BlendTransparentCardSaid : Prop := Claim7.holds Tryd.pinned (.plain (OpenSpec.ofChange blendTransparentSpec)) blendTransparentCard

/-- THE TIED CARD OF 'grisaillelaw28.BlendSymmetry'. -/
def blendSymmetryCard : Claim7 := { stood := { row := blendSymmetryRow, standIns := [], harness := (true, "0c2241fc8f5ce3f5db2331bd034beaa7f2f42f212eeeeea9ef8d74bf82240524"), looks := false }, kinds := [], alts := [], laidByText := true, laidKinds := [.data], laidTests := true, laidLooks := .later }
def BlendSymmetryCardSaid : Prop := Claim7.holds Tryd.pinned (.plain (OpenSpec.ofChange blendSymmetrySpec)) blendSymmetryCard

/-- THE TIED CARD OF 'grisaillelaw28.BlendOpaque'. -/
def blendOpaqueCard : Claim7 := { stood := { row := blendOpaqueRow, standIns := [], harness := (true, "0c2241fc8f5ce3f5db2331bd034beaa7f2f42f212eeeeea9ef8d74bf82240524"), looks := false }, kinds := [], alts := [], laidByText := true, laidKinds := [.data], laidTests := true, laidLooks := .later }
def BlendOpaqueCardSaid : Prop := Claim7.holds Tryd.pinned (.plain (OpenSpec.ofChange blendOpaqueSpec)) blendOpaqueCard

/-- THE TIED CARD OF 'grisaillelaw28.BlendLuminosity'. -/
def blendLuminosityCard : Claim7 := { stood := { row := blendLuminosityRow, standIns := [], harness := (true, "0c2241fc8f5ce3f5db2331bd034beaa7f2f42f212eeeeea9ef8d74bf82240524"), looks := false }, kinds := [], alts := [], laidByText := true, laidKinds := [.data], laidTests := true, laidLooks := .later }
def BlendLuminosityCardSaid : Prop := Claim7.holds Tryd.pinned (.plain (OpenSpec.ofChange blendLuminositySpec)) blendLuminosityCard

/-- THE TIED CARD OF 'grisaillelaw28.BlendSelf'. -/
def blendSelfCard : Claim7 := { stood := { row := blendSelfRow, standIns := [], harness := (true, "0c2241fc8f5ce3f5db2331bd034beaa7f2f42f212eeeeea9ef8d74bf82240524"), looks := false }, kinds := [], alts := [], laidByText := true, laidKinds := [.data], laidTests := true, laidLooks := .later }
def BlendSelfCardSaid : Prop := Claim7.holds Tryd.pinned (.plain (OpenSpec.ofChange blendSelfSpec)) blendSelfCard

/-- THE TIED CARD OF 'grisaillelaw28.BlendGray'. -/
def blendGrayCard : Claim7 := { stood := { row := blendGrayRow, standIns := [], harness := (true, "0c2241fc8f5ce3f5db2331bd034beaa7f2f42f212eeeeea9ef8d74bf82240524"), looks := false }, kinds := [], alts := [], laidByText := true, laidKinds := [.data], laidTests := true, laidLooks := .later }
def BlendGrayCardSaid : Prop := Claim7.holds Tryd.pinned (.plain (OpenSpec.ofChange blendGraySpec)) blendGrayCard

/-- THE TIED CARD OF 'grisaillelaw28.BlendAlpha'. -/
def blendAlphaCard : Claim7 := { stood := { row := blendAlphaRow, standIns := [], harness := (true, "0c2241fc8f5ce3f5db2331bd034beaa7f2f42f212eeeeea9ef8d74bf82240524"), looks := false }, kinds := [], alts := [], laidByText := true, laidKinds := [.data], laidTests := true, laidLooks := .later }
def BlendAlphaCardSaid : Prop := Claim7.holds Tryd.pinned (.plain (OpenSpec.ofChange blendAlphaSpec)) blendAlphaCard

/-- THE SECOND FORM's CARD OF 'grisaillelaw28.BlendModeNames'. -/
def blendModeNamesUptoCard : Claim7 := { stood := { row := blendModeNamesUptoRow, standIns := [], harness := (true, "0c2241fc8f5ce3f5db2331bd034beaa7f2f42f212eeeeea9ef8d74bf82240524"), looks := false }, kinds := [], alts := [], laidByText := true, laidKinds := [.data], laidTests := true, laidLooks := .later }
def BlendModeNamesUptoCardSaid : Prop := Claim7.holds Tryd.pinned (.plain (OpenSpec.upto blendModeNamesSpec)) blendModeNamesUptoCard

/-- THE SECOND FORM's CARD OF 'grisaillelaw28.BlendTerms'. -/
def blendTermsUptoCard : Claim7 := { stood := { row := blendTermsUptoRow, standIns := [], harness := (true, "0c2241fc8f5ce3f5db2331bd034beaa7f2f42f212eeeeea9ef8d74bf82240524"), looks := false }, kinds := [], alts := [], laidByText := true, laidKinds := [.data], laidTests := true, laidLooks := .later }
def BlendTermsUptoCardSaid : Prop := Claim7.holds Tryd.pinned (.plain (OpenSpec.upto blendTermsSpec)) blendTermsUptoCard

/-- THE SECOND FORM's CARD OF 'grisaillelaw28.BlendPixels'. -/
def blendPixelsUptoCard : Claim7 := { stood := { row := blendPixelsUptoRow, standIns := [], harness := (true, "0c2241fc8f5ce3f5db2331bd034beaa7f2f42f212eeeeea9ef8d74bf82240524"), looks := false }, kinds := [], alts := [], laidByText := true, laidKinds := [.data], laidTests := true, laidLooks := .later }
def BlendPixelsUptoCardSaid : Prop := Claim7.holds Tryd.pinned (.plain (OpenSpec.upto blendPixelsSpec)) blendPixelsUptoCard

/-- THE SECOND FORM's CARD OF 'grisaillelaw28.BlendTermRange'. -/
def blendTermRangeUptoCard : Claim7 := { stood := { row := blendTermRangeUptoRow, standIns := [], harness := (true, "0c2241fc8f5ce3f5db2331bd034beaa7f2f42f212eeeeea9ef8d74bf82240524"), looks := false }, kinds := [], alts := [], laidByText := true, laidKinds := [.data], laidTests := true, laidLooks := .later }
def BlendTermRangeUptoCardSaid : Prop := Claim7.holds Tryd.pinned (.plain (OpenSpec.upto blendTermRangeSpec)) blendTermRangeUptoCard

/-- THE SECOND FORM's CARD OF 'grisaillelaw28.BlendTransparent'. -/
def blendTransparentUptoCard : Claim7 := { stood := { row := blendTransparentUptoRow, standIns := [], harness := (true, "0c2241fc8f5ce3f5db2331bd034beaa7f2f42f212eeeeea9ef8d74bf82240524"), looks := false }, kinds := [], alts := [], laidByText := true, laidKinds := [.data], laidTests := true, laidLooks := .later }
def BlendTransparentUptoCardSaid : Prop := Claim7.holds Tryd.pinned (.plain (OpenSpec.upto blendTransparentSpec)) blendTransparentUptoCard

/-- THE SECOND FORM's CARD OF 'grisaillelaw28.BlendSymmetry'. -/
def blendSymmetryUptoCard : Claim7 := { stood := { row := blendSymmetryUptoRow, standIns := [], harness := (true, "0c2241fc8f5ce3f5db2331bd034beaa7f2f42f212eeeeea9ef8d74bf82240524"), looks := false }, kinds := [], alts := [], laidByText := true, laidKinds := [.data], laidTests := true, laidLooks := .later }
def BlendSymmetryUptoCardSaid : Prop := Claim7.holds Tryd.pinned (.plain (OpenSpec.upto blendSymmetrySpec)) blendSymmetryUptoCard

/-- THE SECOND FORM's CARD OF 'grisaillelaw28.BlendOpaque'. -/
def blendOpaqueUptoCard : Claim7 := { stood := { row := blendOpaqueUptoRow, standIns := [], harness := (true, "0c2241fc8f5ce3f5db2331bd034beaa7f2f42f212eeeeea9ef8d74bf82240524"), looks := false }, kinds := [], alts := [], laidByText := true, laidKinds := [.data], laidTests := true, laidLooks := .later }
def BlendOpaqueUptoCardSaid : Prop := Claim7.holds Tryd.pinned (.plain (OpenSpec.upto blendOpaqueSpec)) blendOpaqueUptoCard

/-- THE SECOND FORM's CARD OF 'grisaillelaw28.BlendLuminosity'. -/
def blendLuminosityUptoCard : Claim7 := { stood := { row := blendLuminosityUptoRow, standIns := [], harness := (true, "0c2241fc8f5ce3f5db2331bd034beaa7f2f42f212eeeeea9ef8d74bf82240524"), looks := false }, kinds := [], alts := [], laidByText := true, laidKinds := [.data], laidTests := true, laidLooks := .later }
def BlendLuminosityUptoCardSaid : Prop := Claim7.holds Tryd.pinned (.plain (OpenSpec.upto blendLuminositySpec)) blendLuminosityUptoCard

/-- THE SECOND FORM's CARD OF 'grisaillelaw28.BlendSelf'. -/
def blendSelfUptoCard : Claim7 := { stood := { row := blendSelfUptoRow, standIns := [], harness := (true, "0c2241fc8f5ce3f5db2331bd034beaa7f2f42f212eeeeea9ef8d74bf82240524"), looks := false }, kinds := [], alts := [], laidByText := true, laidKinds := [.data], laidTests := true, laidLooks := .later }
def BlendSelfUptoCardSaid : Prop := Claim7.holds Tryd.pinned (.plain (OpenSpec.upto blendSelfSpec)) blendSelfUptoCard

/-- THE SECOND FORM's CARD OF 'grisaillelaw28.BlendGray'. -/
def blendGrayUptoCard : Claim7 := { stood := { row := blendGrayUptoRow, standIns := [], harness := (true, "0c2241fc8f5ce3f5db2331bd034beaa7f2f42f212eeeeea9ef8d74bf82240524"), looks := false }, kinds := [], alts := [], laidByText := true, laidKinds := [.data], laidTests := true, laidLooks := .later }
def BlendGrayUptoCardSaid : Prop := Claim7.holds Tryd.pinned (.plain (OpenSpec.upto blendGraySpec)) blendGrayUptoCard

/-- THE SECOND FORM's CARD OF 'grisaillelaw28.BlendAlpha'. -/
def blendAlphaUptoCard : Claim7 := { stood := { row := blendAlphaUptoRow, standIns := [], harness := (true, "0c2241fc8f5ce3f5db2331bd034beaa7f2f42f212eeeeea9ef8d74bf82240524"), looks := false }, kinds := [], alts := [], laidByText := true, laidKinds := [.data], laidTests := true, laidLooks := .later }
def BlendAlphaUptoCardSaid : Prop := Claim7.holds Tryd.pinned (.plain (OpenSpec.upto blendAlphaSpec)) blendAlphaUptoCard
end Rows
end Go.Proofs.YtdhajiaepaamgaaDoor
