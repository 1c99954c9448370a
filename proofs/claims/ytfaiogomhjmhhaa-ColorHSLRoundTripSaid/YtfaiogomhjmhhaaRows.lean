/-
  No cell of these rows narrows 'for every input' (looked for: loops, veiled, ifaces, maps, wideKeys, modest, calm, conditions, laid).
  DERIVED. THE GIVEN ROWS OF THIS SEAT. 6 by the template 'for every input the law returns true; each argument reads behind the call as it read before'; 0 by the template 'total and deterministic' (their statements: YtfaiogomhjmhhaaTotals.lean).
  GIVEN WITH THE SEED: the statements are not yours to turn. If you find one false, say at which input.
  Laid BY PROGRAM, IN A SANDBOX (cutbox-rows.mjs): the forced cells as the released guide's own fill.sh prints them over the translation d3f2b05c7eb2182d… (all of the seat's roots in one cut). By AI agents, Wed Nov 11 2026. No macro, syntax, notation, axiom, sorry.
-/
import Derived.Test.YtfaiogomhjmhhaaChecked
import GoSem.Claim
import GoSem.ClaimJoined
import GoSem.ClaimMapViews
import Derived.JoinedTies
import Derived.KernelRfl
namespace Go.Proofs.Ytfaiogomhjmhhaa
/- THE CELL 'sum', in the pinned program and in every row, IS THE sha256 OF THE DUMP (.gsa) THAT YtfaiogomhjmhhaaProg.lean LOADS. Nothing in Lean hashes anything: it is a label: what it is worth is what the hold of that sum in a sandbox is worth. -/
noncomputable def Try.pinned : Pinned := { name := "ytfaiogomhjmhhaa", sum := "d3f2b05c7eb2182d18304fd15b3d198cd87efbf75cc93d6245df01a68a7651bd", checked := Try.checked }
namespace Rows
def none {H : Type} : Left H := { results := [], args := [] }

/-- 'grisaillelaw27.ColorPremultiply': WHATEVER THE INPUT: true; the input reads as it did. -/
def colorPremultiplySpec : ChangeSpec := { name := "colorPremultiply", fn := fun _ => fun
  | [d] => { results := [.lit (.bool true)], args := [d] }
  | _ => none }
def colorPremultiplyRow : OpenClaim := { program := "ytfaiogomhjmhhaa", sum := "d3f2b05c7eb2182d18304fd15b3d198cd87efbf75cc93d6245df01a68a7651bd", func := "grisaille/grisaillelaw27.ColorPremultiply", spec := "colorPremultiply", inPlace := ["internal/abi.NoEscape", "internal/bytealg.MakeNoZero"], unfollowed := true, recurses := true, apart := false }
def ColorPremultiplySaid : Prop := colorPremultiplyRow.holds Try.pinned (OpenSpec.ofChange colorPremultiplySpec)

/-- ITS FALSE NEIGHBOUR: 'it returns false'. Refute it at one input. -/
def colorPremultiplyWrong : ChangeSpec := { name := "colorPremultiply", fn := fun _ => fun
  | [d] => { results := [.lit (.bool false)], args := [d] }
  | _ => none }
def ColorPremultiplyWrongFalsely : Prop := colorPremultiplyRow.holds Try.pinned (OpenSpec.ofChange colorPremultiplyWrong)

/-- 'grisaillelaw27.ColorScale': WHATEVER THE INPUT: true; the input reads as it did. -/
def colorScaleSpec : ChangeSpec := { name := "colorScale", fn := fun _ => fun
  | [d1, d2, d3] => { results := [.lit (.bool true)], args := [d1, d2, d3] }
  | _ => none }
def colorScaleRow : OpenClaim := { program := "ytfaiogomhjmhhaa", sum := "d3f2b05c7eb2182d18304fd15b3d198cd87efbf75cc93d6245df01a68a7651bd", func := "grisaille/grisaillelaw27.ColorScale", spec := "colorScale", inPlace := ["internal/abi.NoEscape", "internal/bytealg.MakeNoZero"], unfollowed := true, recurses := true, apart := false }
def ColorScaleSaid : Prop := colorScaleRow.holds Try.pinned (OpenSpec.ofChange colorScaleSpec)

/-- ITS FALSE NEIGHBOUR: 'it returns false'. Refute it at one input. -/
def colorScaleWrong : ChangeSpec := { name := "colorScale", fn := fun _ => fun
  | [d1, d2, d3] => { results := [.lit (.bool false)], args := [d1, d2, d3] }
  | _ => none }
def ColorScaleWrongFalsely : Prop := colorScaleRow.holds Try.pinned (OpenSpec.ofChange colorScaleWrong)

/-- 'grisaillelaw27.ColorParse': WHATEVER THE INPUT: true; the input reads as it did. -/
def colorParseSpec : ChangeSpec := { name := "colorParse", fn := fun _ => fun
  | [d] => { results := [.lit (.bool true)], args := [d] }
  | _ => none }
def colorParseRow : OpenClaim := { program := "ytfaiogomhjmhhaa", sum := "d3f2b05c7eb2182d18304fd15b3d198cd87efbf75cc93d6245df01a68a7651bd", func := "grisaille/grisaillelaw27.ColorParse", spec := "colorParse", inPlace := ["internal/abi.NoEscape", "internal/bytealg.MakeNoZero"], unfollowed := true, recurses := true, apart := false }
def ColorParseSaid : Prop := colorParseRow.holds Try.pinned (OpenSpec.ofChange colorParseSpec)

/-- ITS FALSE NEIGHBOUR: 'it returns false'. Refute it at one input. -/
def colorParseWrong : ChangeSpec := { name := "colorParse", fn := fun _ => fun
  | [d] => { results := [.lit (.bool false)], args := [d] }
  | _ => none }
def ColorParseWrongFalsely : Prop := colorParseRow.holds Try.pinned (OpenSpec.ofChange colorParseWrong)

/-- 'grisaillelaw27.ColorRoundTrip': WHATEVER THE INPUT: true; the input reads as it did. -/
def colorRoundTripSpec : ChangeSpec := { name := "colorRoundTrip", fn := fun _ => fun
  | [d1, d2, d3] => { results := [.lit (.bool true)], args := [d1, d2, d3] }
  | _ => none }
def colorRoundTripRow : OpenClaim := { program := "ytfaiogomhjmhhaa", sum := "d3f2b05c7eb2182d18304fd15b3d198cd87efbf75cc93d6245df01a68a7651bd", func := "grisaille/grisaillelaw27.ColorRoundTrip", spec := "colorRoundTrip", inPlace := ["internal/abi.NoEscape", "internal/bytealg.MakeNoZero"], unfollowed := true, recurses := true, named := ["math/bits.divideError", "math/bits.overflowError"], apart := false }
def ColorRoundTripSaid : Prop := colorRoundTripRow.holds Try.pinned (OpenSpec.ofChange colorRoundTripSpec)

/-- ITS FALSE NEIGHBOUR: 'it returns false'. Refute it at one input. -/
def colorRoundTripWrong : ChangeSpec := { name := "colorRoundTrip", fn := fun _ => fun
  | [d1, d2, d3] => { results := [.lit (.bool false)], args := [d1, d2, d3] }
  | _ => none }
def ColorRoundTripWrongFalsely : Prop := colorRoundTripRow.holds Try.pinned (OpenSpec.ofChange colorRoundTripWrong)

/-- 'grisaillelaw27.ColorHSLRoundTrip': WHATEVER THE INPUT: true; the input reads as it did. -/
def colorHSLRoundTripSpec : ChangeSpec := { name := "colorHSLRoundTrip", fn := fun _ => fun
  | [d] => { results := [.lit (.bool true)], args := [d] }
  | _ => none }
def colorHSLRoundTripRow : OpenClaim := { program := "ytfaiogomhjmhhaa", sum := "d3f2b05c7eb2182d18304fd15b3d198cd87efbf75cc93d6245df01a68a7651bd", func := "grisaille/grisaillelaw27.ColorHSLRoundTrip", spec := "colorHSLRoundTrip", inPlace := ["internal/abi.NoEscape", "internal/bytealg.MakeNoZero"], unfollowed := true, recurses := true, named := ["math/bits.divideError", "math/bits.overflowError"], apart := false }
def ColorHSLRoundTripSaid : Prop := colorHSLRoundTripRow.holds Try.pinned (OpenSpec.ofChange colorHSLRoundTripSpec)

/-- ITS FALSE NEIGHBOUR: 'it returns false'. Refute it at one input. -/
def colorHSLRoundTripWrong : ChangeSpec := { name := "colorHSLRoundTrip", fn := fun _ => fun
  | [d] => { results := [.lit (.bool false)], args := [d] }
  | _ => none }
def ColorHSLRoundTripWrongFalsely : Prop := colorHSLRoundTripRow.holds Try.pinned (OpenSpec.ofChange colorHSLRoundTripWrong)

/-- 'grisaillelaw27.ColorMatrixIdentity': WHATEVER THE INPUT: true; the input reads as it did. -/
def colorMatrixIdentitySpec : ChangeSpec := { name := "colorMatrixIdentity", fn := fun _ => fun
  | [d1, d2] => { results := [.lit (.bool true)], args := [d1, d2] }
  | _ => none }
def colorMatrixIdentityRow : OpenClaim := { program := "ytfaiogomhjmhhaa", sum := "d3f2b05c7eb2182d18304fd15b3d198cd87efbf75cc93d6245df01a68a7651bd", func := "grisaille/grisaillelaw27.ColorMatrixIdentity", spec := "colorMatrixIdentity", inPlace := ["internal/abi.NoEscape", "internal/bytealg.MakeNoZero"], unfollowed := true, recurses := true, named := ["math/bits.divideError", "math/bits.overflowError"], apart := false }
def ColorMatrixIdentitySaid : Prop := colorMatrixIdentityRow.holds Try.pinned (OpenSpec.ofChange colorMatrixIdentitySpec)

/-- ITS FALSE NEIGHBOUR: 'it returns false'. Refute it at one input. -/
def colorMatrixIdentityWrong : ChangeSpec := { name := "colorMatrixIdentity", fn := fun _ => fun
  | [d1, d2] => { results := [.lit (.bool false)], args := [d1, d2] }
  | _ => none }
def ColorMatrixIdentityWrongFalsely : Prop := colorMatrixIdentityRow.holds Try.pinned (OpenSpec.ofChange colorMatrixIdentityWrong)

/- THE SECOND FORM. 'bulk': how many values and letters a reading holds, each counted each time it is reached (what is shared counts as often as it is met; a slice's spare places count too). A statement '..UptoSaid' is the law's where the arguments, and the package variables that the reading takes, are together of bulk at most 1048576: NARROWER than '..Said'. Prove '..Said' where nothing that the law and all that it calls make is longer than what came in: it says more and counts as full. Else prove '..UptoSaid'. A law counts once. -/
mutual
def uptoBulk {H : Type} : DataW H → Nat
  | .lit (.string bytes) => bytes.length + 1
  | .lit _ => 1
  | .nil => 1
  | .ptr d => uptoBulk d + 1
  | .slice elems spare => uptoBulkAll elems + uptoBulkAll spare + 1
  | .agg parts => uptoBulkAll parts + 1
  | .iface _ d => uptoBulk d + 1
  | .map entries => uptoBulkEntries entries + 1
  | .held _ => 1
def uptoBulkAll {H : Type} : List (DataW H) → Nat
  | [] => 0
  | d :: r => uptoBulk d + uptoBulkAll r
def uptoBulkEntries {H : Type} : List (Lit × DataW H) → Nat
  | [] => 0
  | x :: r => uptoBulkEntry x + uptoBulkEntries r
def uptoBulkEntry {H : Type} : Lit × DataW H → Nat
  | (.string bytes, d) => bytes.length + uptoBulk d + 1
  | (_, d) => uptoBulk d + 1
 end
def uptoSmall : (H : Type) → List (DataW H) → Bool := fun _ ds => decide (uptoBulkAll ds ≤ 1048576)
def OpenSpec.upto (s : _root_.Go.ChangeSpec) : _root_.Go.OpenSpec := { _root_.Go.OpenSpec.ofChange s with cond := some uptoSmall }

/-- 'grisaillelaw27.ColorPremultiply', WHERE WHAT IT READS IS OF BULK AT MOST 1048576: true; the input reads as it did. -/
def colorPremultiplyUptoRow : OpenClaim := { program := "ytfaiogomhjmhhaa", sum := "d3f2b05c7eb2182d18304fd15b3d198cd87efbf75cc93d6245df01a68a7651bd", func := "grisaille/grisaillelaw27.ColorPremultiply", spec := "colorPremultiply", inPlace := ["internal/abi.NoEscape", "internal/bytealg.MakeNoZero"], unfollowed := true, recurses := true, apart := false, narrowed := true }
def ColorPremultiplyUptoSaid : Prop := colorPremultiplyUptoRow.holds Try.pinned (OpenSpec.upto colorPremultiplySpec)

/-- 'grisaillelaw27.ColorScale', WHERE WHAT IT READS IS OF BULK AT MOST 1048576: true; the input reads as it did. -/
def colorScaleUptoRow : OpenClaim := { program := "ytfaiogomhjmhhaa", sum := "d3f2b05c7eb2182d18304fd15b3d198cd87efbf75cc93d6245df01a68a7651bd", func := "grisaille/grisaillelaw27.ColorScale", spec := "colorScale", inPlace := ["internal/abi.NoEscape", "internal/bytealg.MakeNoZero"], unfollowed := true, recurses := true, apart := false, narrowed := true }
def ColorScaleUptoSaid : Prop := colorScaleUptoRow.holds Try.pinned (OpenSpec.upto colorScaleSpec)

/-- 'grisaillelaw27.ColorParse', WHERE WHAT IT READS IS OF BULK AT MOST 1048576: true; the input reads as it did. -/
def colorParseUptoRow : OpenClaim := { program := "ytfaiogomhjmhhaa", sum := "d3f2b05c7eb2182d18304fd15b3d198cd87efbf75cc93d6245df01a68a7651bd", func := "grisaille/grisaillelaw27.ColorParse", spec := "colorParse", inPlace := ["internal/abi.NoEscape", "internal/bytealg.MakeNoZero"], unfollowed := true, recurses := true, apart := false, narrowed := true }
def ColorParseUptoSaid : Prop := colorParseUptoRow.holds Try.pinned (OpenSpec.upto colorParseSpec)

/-- 'grisaillelaw27.ColorRoundTrip', WHERE WHAT IT READS IS OF BULK AT MOST 1048576: true; the input reads as it did. -/
def colorRoundTripUptoRow : OpenClaim := { program := "ytfaiogomhjmhhaa", sum := "d3f2b05c7eb2182d18304fd15b3d198cd87efbf75cc93d6245df01a68a7651bd", func := "grisaille/grisaillelaw27.ColorRoundTrip", spec := "colorRoundTrip", inPlace := ["internal/abi.NoEscape", "internal/bytealg.MakeNoZero"], unfollowed := true, recurses := true, named := ["math/bits.divideError", "math/bits.overflowError"], apart := false, narrowed := true }
def ColorRoundTripUptoSaid : Prop := colorRoundTripUptoRow.holds Try.pinned (OpenSpec.upto colorRoundTripSpec)

/-- 'grisaillelaw27.ColorHSLRoundTrip', WHERE WHAT IT READS IS OF BULK AT MOST 1048576: true; the input reads as it did. -/
def colorHSLRoundTripUptoRow : OpenClaim := { program := "ytfaiogomhjmhhaa", sum := "d3f2b05c7eb2182d18304fd15b3d198cd87efbf75cc93d6245df01a68a7651bd", func := "grisaille/grisaillelaw27.ColorHSLRoundTrip", spec := "colorHSLRoundTrip", inPlace := ["internal/abi.NoEscape", "internal/bytealg.MakeNoZero"], unfollowed := true, recurses := true, named := ["math/bits.divideError", "math/bits.overflowError"], apart := false, narrowed := true }
def ColorHSLRoundTripUptoSaid : Prop := colorHSLRoundTripUptoRow.holds Try.pinned (OpenSpec.upto colorHSLRoundTripSpec)

/-- 'grisaillelaw27.ColorMatrixIdentity', WHERE WHAT IT READS IS OF BULK AT MOST 1048576: true; the input reads as it did. -/
def colorMatrixIdentityUptoRow : OpenClaim := { program := "ytfaiogomhjmhhaa", sum := "d3f2b05c7eb2182d18304fd15b3d198cd87efbf75cc93d6245df01a68a7651bd", func := "grisaille/grisaillelaw27.ColorMatrixIdentity", spec := "colorMatrixIdentity", inPlace := ["internal/abi.NoEscape", "internal/bytealg.MakeNoZero"], unfollowed := true, recurses := true, named := ["math/bits.divideError", "math/bits.overflowError"], apart := false, narrowed := true }
def ColorMatrixIdentityUptoSaid : Prop := colorMatrixIdentityUptoRow.holds Try.pinned (OpenSpec.upto colorMatrixIdentitySpec)

end Rows
end Go.Proofs.Ytfaiogomhjmhhaa
