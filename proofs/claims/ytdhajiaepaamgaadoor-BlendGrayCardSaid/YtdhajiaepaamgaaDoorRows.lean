/-
  NARROWER THAN 'FOR EVERY INPUT', by the rows' own cells (each row's printed sentence says how): BlendModeNames: laid · BlendTerms: laid · BlendPixels: laid · BlendTermRange: laid · BlendTransparent: laid · BlendSymmetry: laid · BlendOpaque: laid · BlendLuminosity: laid · BlendSelf: laid · BlendGray: laid · BlendAlpha: laid.
  DERIVED. THE GIVEN ROWS OF THIS SEAT. 11 by the template 'for every input the law returns true; each argument reads behind the call as it read before'; 0 by the template 'total and deterministic' (their statements: YtdhajiaepaamgaaDoorTotals.lean).
  GIVEN WITH THE SEED: the statements are not yours to turn. If you find one false, say at which input.
  Laid BY PROGRAM, IN A SANDBOX (cutbox-rows.mjs): the forced cells as the released guide's own fill.sh prints them over the translation 3ede1124abe755c9… (all of the seat's roots in one cut). By AI agents, Wed Nov 11 2026. No macro, syntax, notation, axiom, sorry.
-/
import Derived.Test.YtdhajiaepaamgaaDoorChecked
import GoSem.Claim
import GoSem.ClaimJoined
import GoSem.ClaimMapViews
import Derived.JoinedTies
import Derived.KernelRfl
namespace Go.Proofs.YtdhajiaepaamgaaDoor
/- THE CELL 'sum', in the pinned program and in every row, IS THE sha256 OF THE DUMP (.gsa) THAT YtdhajiaepaamgaaDoorProg.lean LOADS. Nothing in Lean hashes anything: it is a label: what it is worth is what the hold of that sum in a sandbox is worth. -/
noncomputable def Tryd.pinned : Pinned := { name := "ytdhajiaepaamgaadoor", sum := "3ede1124abe755c9a5b1343ce6e37e283e3888518522402096d70d32cd71b2de", checked := Tryd.checked }
namespace Rows
def none {H : Type} : Left H := { results := [], args := [] }

/- WHAT THE LISTED PACKAGE-LEVEL VARIABLES READ AS WHEN THE CALL BEGINS. Each datum BY PROGRAM (the guide's laid-datum.mjs) off the statement by which the dump's own 'gosem.cut.vars' lays the variable. In a bare row this is a premise. The card (YtdhajiaepaamgaaDoorCards.lean) ties it to the program's text. -/
def laid_grisaille_blend_modeNames {H : Type} : DataW H := .agg [.lit (.string [110, 111, 114, 109, 97, 108]), .lit (.string [109, 117, 108, 116, 105, 112, 108, 121]), .lit (.string [115, 99, 114, 101, 101, 110]), .lit (.string [111, 118, 101, 114, 108, 97, 121]), .lit (.string [100, 97, 114, 107, 101, 110]), .lit (.string [108, 105, 103, 104, 116, 101, 110]), .lit (.string [100, 105, 102, 102, 101, 114, 101, 110, 99, 101]), .lit (.string [101, 120, 99, 108, 117, 115, 105, 111, 110]), .lit (.string [104, 97, 114, 100, 108, 105, 103, 104, 116]), .lit (.string [104, 117, 101]), .lit (.string [115, 97, 116, 117, 114, 97, 116, 105, 111, 110]), .lit (.string [99, 111, 108, 111, 114]), .lit (.string [108, 117, 109, 105, 110, 111, 115, 105, 116, 121])]

/-- 'grisaillelaw28.BlendModeNames': WHATEVER THE INPUT: true; the input reads as it did. -/
def blendModeNamesSpec : ChangeSpec := { name := "blendModeNames", fn := fun _ => fun
  | [d1, d2] => { results := [.lit (.bool true)], args := [d1, d2] }
  | _ => none }
def blendModeNamesRow : OpenClaim := { program := "ytdhajiaepaamgaadoor", sum := "3ede1124abe755c9a5b1343ce6e37e283e3888518522402096d70d32cd71b2de", func := "grisaille/grisaillelaw28.BlendModeNames", spec := "blendModeNames", named := ["grisaille/blend.modeNames"], apart := false, laid := [("grisaille/blend.modeNames", laid_grisaille_blend_modeNames)] }
def BlendModeNamesSaid : Prop := blendModeNamesRow.holds Tryd.pinned (OpenSpec.ofChange blendModeNamesSpec)

/-- ITS FALSE NEIGHBOUR: 'it returns false'. Refute it at one input. -/
def blendModeNamesWrong : ChangeSpec := { name := "blendModeNames", fn := fun _ => fun
  | [d1, d2] => { results := [.lit (.bool false)], args := [d1, d2] }
  | _ => none }
def BlendModeNamesWrongFalsely : Prop := blendModeNamesRow.holds Tryd.pinned (OpenSpec.ofChange blendModeNamesWrong)

/-- 'grisaillelaw28.BlendTerms': WHATEVER THE INPUT: true; the input reads as it did. -/
def blendTermsSpec : ChangeSpec := { name := "blendTerms", fn := fun _ => fun
  | [d1, d2, d3, d4, d5] => { results := [.lit (.bool true)], args := [d1, d2, d3, d4, d5] }
  | _ => none }
def blendTermsRow : OpenClaim := { program := "ytdhajiaepaamgaadoor", sum := "3ede1124abe755c9a5b1343ce6e37e283e3888518522402096d70d32cd71b2de", func := "grisaille/grisaillelaw28.BlendTerms", spec := "blendTerms", named := ["grisaille/blend.modeNames"], apart := false, laid := [("grisaille/blend.modeNames", laid_grisaille_blend_modeNames)] }
def BlendTermsSaid : Prop := blendTermsRow.holds Tryd.pinned (OpenSpec.ofChange blendTermsSpec)

/-- ITS FALSE NEIGHBOUR: 'it returns false'. Refute it at one input. -/
def blendTermsWrong : ChangeSpec := { name := "blendTerms", fn := fun _ => fun
  | [d1, d2, d3, d4, d5] => { results := [.lit (.bool false)], args := [d1, d2, d3, d4, d5] }
  | _ => none }
def BlendTermsWrongFalsely : Prop := blendTermsRow.holds Tryd.pinned (OpenSpec.ofChange blendTermsWrong)

/-- 'grisaillelaw28.BlendPixels': WHATEVER THE INPUT: true; the input reads as it did. -/
def blendPixelsSpec : ChangeSpec := { name := "blendPixels", fn := fun _ => fun
  | [d1, d2, d3] => { results := [.lit (.bool true)], args := [d1, d2, d3] }
  | _ => none }
def blendPixelsRow : OpenClaim := { program := "ytdhajiaepaamgaadoor", sum := "3ede1124abe755c9a5b1343ce6e37e283e3888518522402096d70d32cd71b2de", func := "grisaille/grisaillelaw28.BlendPixels", spec := "blendPixels", named := ["grisaille/blend.modeNames"], apart := false, laid := [("grisaille/blend.modeNames", laid_grisaille_blend_modeNames)] }
def BlendPixelsSaid : Prop := blendPixelsRow.holds Tryd.pinned (OpenSpec.ofChange blendPixelsSpec)

/-- ITS FALSE NEIGHBOUR: 'it returns false'. Refute it at one input. -/
def blendPixelsWrong : ChangeSpec := { name := "blendPixels", fn := fun _ => fun
  | [d1, d2, d3] => { results := [.lit (.bool false)], args := [d1, d2, d3] }
  | _ => none }
def BlendPixelsWrongFalsely : Prop := blendPixelsRow.holds Tryd.pinned (OpenSpec.ofChange blendPixelsWrong)

/-- 'grisaillelaw28.BlendTermRange': WHATEVER THE INPUT: true; the input reads as it did. -/
def blendTermRangeSpec : ChangeSpec := { name := "blendTermRange", fn := fun _ => fun
  | [d1, d2, d3] => { results := [.lit (.bool true)], args := [d1, d2, d3] }
  | _ => none }
def blendTermRangeRow : OpenClaim := { program := "ytdhajiaepaamgaadoor", sum := "3ede1124abe755c9a5b1343ce6e37e283e3888518522402096d70d32cd71b2de", func := "grisaille/grisaillelaw28.BlendTermRange", spec := "blendTermRange", named := ["grisaille/blend.modeNames"], apart := false, laid := [("grisaille/blend.modeNames", laid_grisaille_blend_modeNames)] }
def BlendTermRangeSaid : Prop := blendTermRangeRow.holds Tryd.pinned (OpenSpec.ofChange blendTermRangeSpec)

/-- ITS FALSE NEIGHBOUR: 'it returns false'. Refute it at one input. -/
def blendTermRangeWrong : ChangeSpec := { name := "blendTermRange", fn := fun _ => fun
  | [d1, d2, d3] => { results := [.lit (.bool false)], args := [d1, d2, d3] }
  | _ => none }
def BlendTermRangeWrongFalsely : Prop := blendTermRangeRow.holds Tryd.pinned (OpenSpec.ofChange blendTermRangeWrong)

/-- 'grisaillelaw28.BlendTransparent': WHATEVER THE INPUT: true; the input reads as it did. -/
def blendTransparentSpec : ChangeSpec := { name := "blendTransparent", fn := fun _ => fun
  | [d1, d2] => { results := [.lit (.bool true)], args := [d1, d2] }
  | _ => none }
def blendTransparentRow : OpenClaim := { program := "ytdhajiaepaamgaadoor", sum := "3ede1124abe755c9a5b1343ce6e37e283e3888518522402096d70d32cd71b2de", func := "grisaille/grisaillelaw28.BlendTransparent", spec := "blendTransparent", named := ["grisaille/blend.modeNames"], apart := false, laid := [("grisaille/blend.modeNames", laid_grisaille_blend_modeNames)] }
def BlendTransparentSaid : Prop := blendTransparentRow.holds Tryd.pinned (OpenSpec.ofChange blendTransparentSpec)

/-- ITS FALSE NEIGHBOUR: 'it returns false'. Refute it at one input. -/
def blendTransparentWrong : ChangeSpec := { name := "blendTransparent", fn := fun _ => fun
  | [d1, d2] => { results := [.lit (.bool false)], args := [d1, d2] }
  | _ => none }
def BlendTransparentWrongFalsely : Prop := blendTransparentRow.holds Tryd.pinned (OpenSpec.ofChange blendTransparentWrong)

/-- 'grisaillelaw28.BlendSymmetry': WHATEVER THE INPUT: true; the input reads as it did. -/
def blendSymmetrySpec : ChangeSpec := { name := "blendSymmetry", fn := fun _ => fun
  | [d1, d2, d3] => { results := [.lit (.bool true)], args := [d1, d2, d3] }
  | _ => none }
def blendSymmetryRow : OpenClaim := { program := "ytdhajiaepaamgaadoor", sum := "3ede1124abe755c9a5b1343ce6e37e283e3888518522402096d70d32cd71b2de", func := "grisaille/grisaillelaw28.BlendSymmetry", spec := "blendSymmetry", named := ["grisaille/blend.modeNames"], apart := false, laid := [("grisaille/blend.modeNames", laid_grisaille_blend_modeNames)] }
def BlendSymmetrySaid : Prop := blendSymmetryRow.holds Tryd.pinned (OpenSpec.ofChange blendSymmetrySpec)

/-- ITS FALSE NEIGHBOUR: 'it returns false'. Refute it at one input. -/
def blendSymmetryWrong : ChangeSpec := { name := "blendSymmetry", fn := fun _ => fun
  | [d1, d2, d3] => { results := [.lit (.bool false)], args := [d1, d2, d3] }
  | _ => none }
def BlendSymmetryWrongFalsely : Prop := blendSymmetryRow.holds Tryd.pinned (OpenSpec.ofChange blendSymmetryWrong)

/-- 'grisaillelaw28.BlendOpaque': WHATEVER THE INPUT: true; the input reads as it did. -/
def blendOpaqueSpec : ChangeSpec := { name := "blendOpaque", fn := fun _ => fun
  | [d1, d2] => { results := [.lit (.bool true)], args := [d1, d2] }
  | _ => none }
def blendOpaqueRow : OpenClaim := { program := "ytdhajiaepaamgaadoor", sum := "3ede1124abe755c9a5b1343ce6e37e283e3888518522402096d70d32cd71b2de", func := "grisaille/grisaillelaw28.BlendOpaque", spec := "blendOpaque", named := ["grisaille/blend.modeNames"], apart := false, laid := [("grisaille/blend.modeNames", laid_grisaille_blend_modeNames)] }
def BlendOpaqueSaid : Prop := blendOpaqueRow.holds Tryd.pinned (OpenSpec.ofChange blendOpaqueSpec)

/-- ITS FALSE NEIGHBOUR: 'it returns false'. Refute it at one input. -/
def blendOpaqueWrong : ChangeSpec := { name := "blendOpaque", fn := fun _ => fun
  | [d1, d2] => { results := [.lit (.bool false)], args := [d1, d2] }
  | _ => none }
def BlendOpaqueWrongFalsely : Prop := blendOpaqueRow.holds Tryd.pinned (OpenSpec.ofChange blendOpaqueWrong)

/-- 'grisaillelaw28.BlendLuminosity': WHATEVER THE INPUT: true; the input reads as it did. -/
def blendLuminositySpec : ChangeSpec := { name := "blendLuminosity", fn := fun _ => fun
  | [d1, d2] => { results := [.lit (.bool true)], args := [d1, d2] }
  | _ => none }
def blendLuminosityRow : OpenClaim := { program := "ytdhajiaepaamgaadoor", sum := "3ede1124abe755c9a5b1343ce6e37e283e3888518522402096d70d32cd71b2de", func := "grisaille/grisaillelaw28.BlendLuminosity", spec := "blendLuminosity", named := ["grisaille/blend.modeNames"], apart := false, laid := [("grisaille/blend.modeNames", laid_grisaille_blend_modeNames)] }
def BlendLuminositySaid : Prop := blendLuminosityRow.holds Tryd.pinned (OpenSpec.ofChange blendLuminositySpec)

/-- ITS FALSE NEIGHBOUR: 'it returns false'. Refute it at one input. -/
def blendLuminosityWrong : ChangeSpec := { name := "blendLuminosity", fn := fun _ => fun
  | [d1, d2] => { results := [.lit (.bool false)], args := [d1, d2] }
  | _ => none }
def BlendLuminosityWrongFalsely : Prop := blendLuminosityRow.holds Tryd.pinned (OpenSpec.ofChange blendLuminosityWrong)

/-- 'grisaillelaw28.BlendSelf': WHATEVER THE INPUT: true; the input reads as it did. -/
def blendSelfSpec : ChangeSpec := { name := "blendSelf", fn := fun _ => fun
  | [d1, d2] => { results := [.lit (.bool true)], args := [d1, d2] }
  | _ => none }
def blendSelfRow : OpenClaim := { program := "ytdhajiaepaamgaadoor", sum := "3ede1124abe755c9a5b1343ce6e37e283e3888518522402096d70d32cd71b2de", func := "grisaille/grisaillelaw28.BlendSelf", spec := "blendSelf", named := ["grisaille/blend.modeNames"], apart := false, laid := [("grisaille/blend.modeNames", laid_grisaille_blend_modeNames)] }
def BlendSelfSaid : Prop := blendSelfRow.holds Tryd.pinned (OpenSpec.ofChange blendSelfSpec)

/-- ITS FALSE NEIGHBOUR: 'it returns false'. Refute it at one input. -/
def blendSelfWrong : ChangeSpec := { name := "blendSelf", fn := fun _ => fun
  | [d1, d2] => { results := [.lit (.bool false)], args := [d1, d2] }
  | _ => none }
def BlendSelfWrongFalsely : Prop := blendSelfRow.holds Tryd.pinned (OpenSpec.ofChange blendSelfWrong)

/-- 'grisaillelaw28.BlendGray': WHATEVER THE INPUT: true; the input reads as it did. -/
def blendGraySpec : ChangeSpec := { name := "blendGray", fn := fun _ => fun
  | [d1, d2] => { results := [.lit (.bool true)], args := [d1, d2] }
  | _ => none }
def blendGrayRow : OpenClaim := { program := "ytdhajiaepaamgaadoor", sum := "3ede1124abe755c9a5b1343ce6e37e283e3888518522402096d70d32cd71b2de", func := "grisaille/grisaillelaw28.BlendGray", spec := "blendGray", named := ["grisaille/blend.modeNames"], apart := false, laid := [("grisaille/blend.modeNames", laid_grisaille_blend_modeNames)] }
def BlendGraySaid : Prop := blendGrayRow.holds Tryd.pinned (OpenSpec.ofChange blendGraySpec)

/-- ITS FALSE NEIGHBOUR: 'it returns false'. Refute it at one input. -/
def blendGrayWrong : ChangeSpec := { name := "blendGray", fn := fun _ => fun
  | [d1, d2] => { results := [.lit (.bool false)], args := [d1, d2] }
  | _ => none }
def BlendGrayWrongFalsely : Prop := blendGrayRow.holds Tryd.pinned (OpenSpec.ofChange blendGrayWrong)

/-- 'grisaillelaw28.BlendAlpha': WHATEVER THE INPUT: true; the input reads as it did. -/
def blendAlphaSpec : ChangeSpec := { name := "blendAlpha", fn := fun _ => fun
  | [d1, d2, d3] => { results := [.lit (.bool true)], args := [d1, d2, d3] }
  | _ => none }
def blendAlphaRow : OpenClaim := { program := "ytdhajiaepaamgaadoor", sum := "3ede1124abe755c9a5b1343ce6e37e283e3888518522402096d70d32cd71b2de", func := "grisaille/grisaillelaw28.BlendAlpha", spec := "blendAlpha", named := ["grisaille/blend.modeNames"], apart := false, laid := [("grisaille/blend.modeNames", laid_grisaille_blend_modeNames)] }
def BlendAlphaSaid : Prop := blendAlphaRow.holds Tryd.pinned (OpenSpec.ofChange blendAlphaSpec)

/-- ITS FALSE NEIGHBOUR: 'it returns false'. Refute it at one input. -/
def blendAlphaWrong : ChangeSpec := { name := "blendAlpha", fn := fun _ => fun
  | [d1, d2, d3] => { results := [.lit (.bool false)], args := [d1, d2, d3] }
  | _ => none }
def BlendAlphaWrongFalsely : Prop := blendAlphaRow.holds Tryd.pinned (OpenSpec.ofChange blendAlphaWrong)

/- THE SECOND FORM. 'bulk': how many values and letters a reading holds, each counted each time it is reached (what is shared counts as often as it is met; a slice's spare places count too). A statement '..UptoSaid' is the law's where the arguments, and the package variables that the reading takes, are together of bulk at most 1048576: NARROWER than '..Said'. Prove '..Said' where nothing that the law and all that it calls make is longer than what came in: it says more and counts as full. Else prove '..UptoSaid'. A law counts once. -/
mutual
def uptoBulk {H : Type} : DataW H → Nat
  | .lit (.string bytes) => bytes.length + 1
  | .lit _ => 1
  | .nil => 1
  | .ptr d => uptoBulk d + 1
  | .slice elems spare => uptoBulkAll elems + uptoBulkAll spare + 1
  | .agg parts => uptoBulkAll parts + 1
  | .iface _ d => uptoBulk d + 1
  | .map entries => uptoBulkEntries entries + 1
  | .held _ => 1
def uptoBulkAll {H : Type} : List (DataW H) → Nat
  | [] => 0
  | d :: r => uptoBulk d + uptoBulkAll r
def uptoBulkEntries {H : Type} : List (Lit × DataW H) → Nat
  | [] => 0
  | x :: r => uptoBulkEntry x + uptoBulkEntries r
def uptoBulkEntry {H : Type} : Lit × DataW H → Nat
  | (.string bytes, d) => bytes.length + uptoBulk d + 1
  | (_, d) => uptoBulk d + 1
 end
def uptoSmall : (H : Type) → List (DataW H) → Bool := fun _ ds => decide (uptoBulkAll ds ≤ 1048576)
def OpenSpec.upto (s : _root_.Go.ChangeSpec) : _root_.Go.OpenSpec := { _root_.Go.OpenSpec.ofChange s with cond := some uptoSmall }

/-- 'grisaillelaw28.BlendModeNames', WHERE WHAT IT READS IS OF BULK AT MOST 1048576: true; the input reads as it did. -/
def blendModeNamesUptoRow : OpenClaim := { program := "ytdhajiaepaamgaadoor", sum := "3ede1124abe755c9a5b1343ce6e37e283e3888518522402096d70d32cd71b2de", func := "grisaille/grisaillelaw28.BlendModeNames", spec := "blendModeNames", named := ["grisaille/blend.modeNames"], apart := false, laid := [("grisaille/blend.modeNames", laid_grisaille_blend_modeNames)], narrowed := true }
def BlendModeNamesUptoSaid : Prop := blendModeNamesUptoRow.holds Tryd.pinned (OpenSpec.upto blendModeNamesSpec)

/-- 'grisaillelaw28.BlendTerms', WHERE WHAT IT READS IS OF BULK AT MOST 1048576: true; the input reads as it did. -/
def blendTermsUptoRow : OpenClaim := { program := "ytdhajiaepaamgaadoor", sum := "3ede1124abe755c9a5b1343ce6e37e283e3888518522402096d70d32cd71b2de", func := "grisaille/grisaillelaw28.BlendTerms", spec := "blendTerms", named := ["grisaille/blend.modeNames"], apart := false, laid := [("grisaille/blend.modeNames", laid_grisaille_blend_modeNames)], narrowed := true }
def BlendTermsUptoSaid : Prop := blendTermsUptoRow.holds Tryd.pinned (OpenSpec.upto blendTermsSpec)

/-- 'grisaillelaw28.BlendPixels', WHERE WHAT IT READS IS OF BULK AT MOST 1048576: true; the input reads as it did. -/
def blendPixelsUptoRow : OpenClaim := { program := "ytdhajiaepaamgaadoor", sum := "3ede1124abe755c9a5b1343ce6e37e283e3888518522402096d70d32cd71b2de", func := "grisaille/grisaillelaw28.BlendPixels", spec := "blendPixels", named := ["grisaille/blend.modeNames"], apart := false, laid := [("grisaille/blend.modeNames", laid_grisaille_blend_modeNames)], narrowed := true }
def BlendPixelsUptoSaid : Prop := blendPixelsUptoRow.holds Tryd.pinned (OpenSpec.upto blendPixelsSpec)

/-- 'grisaillelaw28.BlendTermRange', WHERE WHAT IT READS IS OF BULK AT MOST 1048576: true; the input reads as it did. -/
def blendTermRangeUptoRow : OpenClaim := { program := "ytdhajiaepaamgaadoor", sum := "3ede1124abe755c9a5b1343ce6e37e283e3888518522402096d70d32cd71b2de", func := "grisaille/grisaillelaw28.BlendTermRange", spec := "blendTermRange", named := ["grisaille/blend.modeNames"], apart := false, laid := [("grisaille/blend.modeNames", laid_grisaille_blend_modeNames)], narrowed := true }
def BlendTermRangeUptoSaid : Prop := blendTermRangeUptoRow.holds Tryd.pinned (OpenSpec.upto blendTermRangeSpec)

/-- 'grisaillelaw28.BlendTransparent', WHERE WHAT IT READS IS OF BULK AT MOST 1048576: true; the input reads as it did. -/
def blendTransparentUptoRow : OpenClaim := { program := "ytdhajiaepaamgaadoor", sum := "3ede1124abe755c9a5b1343ce6e37e283e3888518522402096d70d32cd71b2de", func := "grisaille/grisaillelaw28.BlendTransparent", spec := "blendTransparent", named := ["grisaille/blend.modeNames"], apart := false, laid := [("grisaille/blend.modeNames", laid_grisaille_blend_modeNames)], narrowed := true }
def BlendTransparentUptoSaid : Prop := blendTransparentUptoRow.holds Tryd.pinned (OpenSpec.upto blendTransparentSpec)

/-- 'grisaillelaw28.BlendSymmetry', WHERE WHAT IT READS IS OF BULK AT MOST 1048576: true; the input reads as it did. -/
def blendSymmetryUptoRow : OpenClaim := { program := "ytdhajiaepaamgaadoor", sum := "3ede1124abe755c9a5b1343ce6e37e283e3888518522402096d70d32cd71b2de", func := "grisaille/grisaillelaw28.BlendSymmetry", spec := "blendSymmetry", named := ["grisaille/blend.modeNames"], apart := false, laid := [("grisaille/blend.modeNames", laid_grisaille_blend_modeNames)], narrowed := true }
def BlendSymmetryUptoSaid : Prop := blendSymmetryUptoRow.holds Tryd.pinned (OpenSpec.upto blendSymmetrySpec)

/-- 'grisaillelaw28.BlendOpaque', WHERE WHAT IT READS IS OF BULK AT MOST 1048576: true; the input reads as it did. -/
def blendOpaqueUptoRow : OpenClaim := { program := "ytdhajiaepaamgaadoor", sum := "3ede1124abe755c9a5b1343ce6e37e283e3888518522402096d70d32cd71b2de", func := "grisaille/grisaillelaw28.BlendOpaque", spec := "blendOpaque", named := ["grisaille/blend.modeNames"], apart := false, laid := [("grisaille/blend.modeNames", laid_grisaille_blend_modeNames)], narrowed := true }
def BlendOpaqueUptoSaid : Prop := blendOpaqueUptoRow.holds Tryd.pinned (OpenSpec.upto blendOpaqueSpec)

/-- 'grisaillelaw28.BlendLuminosity', WHERE WHAT IT READS IS OF BULK AT MOST 1048576: true; the input reads as it did. -/
def blendLuminosityUptoRow : OpenClaim := { program := "ytdhajiaepaamgaadoor", sum := "3ede1124abe755c9a5b1343ce6e37e283e3888518522402096d70d32cd71b2de", func := "grisaille/grisaillelaw28.BlendLuminosity", spec := "blendLuminosity", named := ["grisaille/blend.modeNames"], apart := false, laid := [("grisaille/blend.modeNames", laid_grisaille_blend_modeNames)], narrowed := true }
def BlendLuminosityUptoSaid : Prop := blendLuminosityUptoRow.holds Tryd.pinned (OpenSpec.upto blendLuminositySpec)

/-- 'grisaillelaw28.BlendSelf', WHERE WHAT IT READS IS OF BULK AT MOST 1048576: true; the input reads as it did. -/
def blendSelfUptoRow : OpenClaim := { program := "ytdhajiaepaamgaadoor", sum := "3ede1124abe755c9a5b1343ce6e37e283e3888518522402096d70d32cd71b2de", func := "grisaille/grisaillelaw28.BlendSelf", spec := "blendSelf", named := ["grisaille/blend.modeNames"], apart := false, laid := [("grisaille/blend.modeNames", laid_grisaille_blend_modeNames)], narrowed := true }
def BlendSelfUptoSaid : Prop := blendSelfUptoRow.holds Tryd.pinned (OpenSpec.upto blendSelfSpec)

/-- 'grisaillelaw28.BlendGray', WHERE WHAT IT READS IS OF BULK AT MOST 1048576: true; the input reads as it did. -/
def blendGrayUptoRow : OpenClaim := { program := "ytdhajiaepaamgaadoor", sum := "3ede1124abe755c9a5b1343ce6e37e283e3888518522402096d70d32cd71b2de", func := "grisaille/grisaillelaw28.BlendGray", spec := "blendGray", named := ["grisaille/blend.modeNames"], apart := false, laid := [("grisaille/blend.modeNames", laid_grisaille_blend_modeNames)], narrowed := true }
def BlendGrayUptoSaid : Prop := blendGrayUptoRow.holds Tryd.pinned (OpenSpec.upto blendGraySpec)

/-- 'grisaillelaw28.BlendAlpha', WHERE WHAT IT READS IS OF BULK AT MOST 1048576: true; the input reads as it did. -/
def blendAlphaUptoRow : OpenClaim := { program := "ytdhajiaepaamgaadoor", sum := "3ede1124abe755c9a5b1343ce6e37e283e3888518522402096d70d32cd71b2de", func := "grisaille/grisaillelaw28.BlendAlpha", spec := "blendAlpha", named := ["grisaille/blend.modeNames"], apart := false, laid := [("grisaille/blend.modeNames", laid_grisaille_blend_modeNames)], narrowed := true }
def BlendAlphaUptoSaid : Prop := blendAlphaUptoRow.holds Tryd.pinned (OpenSpec.upto blendAlphaSpec)

end Rows
end Go.Proofs.YtdhajiaepaamgaaDoor
