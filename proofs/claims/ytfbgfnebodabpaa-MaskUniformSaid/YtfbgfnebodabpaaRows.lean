/-
  No cell of these rows narrows 'for every input' (looked for: loops, veiled, ifaces, maps, wideKeys, modest, calm, conditions, laid).
  DERIVED. THE GIVEN ROWS OF THIS SEAT. 11 by the template 'for every input the law returns true; each argument reads behind the call as it read before'; 0 by the template 'total and deterministic' (their statements: YtfbgfnebodabpaaTotals.lean).
  GIVEN WITH THE SEED: the statements are not yours to turn. If you find one false, say at which input.
  Laid BY PROGRAM, IN A SANDBOX (cutbox-rows.mjs): the forced cells as the released guide's own fill.sh prints them over the translation c7710f405b890aca… (all of the seat's roots in one cut). By AI agents, Wed Nov 11 2026. No macro, syntax, notation, axiom, sorry.
-/
import Derived.Test.YtfbgfnebodabpaaChecked
import GoSem.Claim
import GoSem.ClaimJoined
import GoSem.ClaimMapViews
import Derived.JoinedTies
import Derived.KernelRfl
namespace Go.Proofs.Ytfbgfnebodabpaa
/- THE CELL 'sum', in the pinned program and in every row, IS THE sha256 OF THE DUMP (.gsa) THAT YtfbgfnebodabpaaProg.lean LOADS. Nothing in Lean hashes anything: it is a label: what it is worth is what the hold of that sum in a sandbox is worth. -/
noncomputable def Try.pinned : Pinned := { name := "ytfbgfnebodabpaa", sum := "c7710f405b890aca7918ebd56cb0a98a74754c6a59403ae33d37cd7194668820", checked := Try.checked }
namespace Rows
def none {H : Type} : Left H := { results := [], args := [] }

/-- 'grisaillelaw21.MaskQueries': WHATEVER THE INPUT: true; the input reads as it did. -/
def maskQueriesSpec : ChangeSpec := { name := "maskQueries", fn := fun _ => fun
  | [d1, d2, d3] => { results := [.lit (.bool true)], args := [d1, d2, d3] }
  | _ => none }
def maskQueriesRow : OpenClaim := { program := "ytfbgfnebodabpaa", sum := "c7710f405b890aca7918ebd56cb0a98a74754c6a59403ae33d37cd7194668820", func := "grisaille/grisaillelaw21.MaskQueries", spec := "maskQueries", unfollowed := true, recurses := true, apart := false }
def MaskQueriesSaid : Prop := maskQueriesRow.holds Try.pinned (OpenSpec.ofChange maskQueriesSpec)

/-- ITS FALSE NEIGHBOUR: 'it returns false'. Refute it at one input. -/
def maskQueriesWrong : ChangeSpec := { name := "maskQueries", fn := fun _ => fun
  | [d1, d2, d3] => { results := [.lit (.bool false)], args := [d1, d2, d3] }
  | _ => none }
def MaskQueriesWrongFalsely : Prop := maskQueriesRow.holds Try.pinned (OpenSpec.ofChange maskQueriesWrong)

/-- 'grisaillelaw21.MaskUniform': WHATEVER THE INPUT: true; the input reads as it did. -/
def maskUniformSpec : ChangeSpec := { name := "maskUniform", fn := fun _ => fun
  | [d1, d2] => { results := [.lit (.bool true)], args := [d1, d2] }
  | _ => none }
def maskUniformRow : OpenClaim := { program := "ytfbgfnebodabpaa", sum := "c7710f405b890aca7918ebd56cb0a98a74754c6a59403ae33d37cd7194668820", func := "grisaille/grisaillelaw21.MaskUniform", spec := "maskUniform", unfollowed := true, recurses := true, apart := false }
def MaskUniformSaid : Prop := maskUniformRow.holds Try.pinned (OpenSpec.ofChange maskUniformSpec)

/-- ITS FALSE NEIGHBOUR: 'it returns false'. Refute it at one input. -/
def maskUniformWrong : ChangeSpec := { name := "maskUniform", fn := fun _ => fun
  | [d1, d2] => { results := [.lit (.bool false)], args := [d1, d2] }
  | _ => none }
def MaskUniformWrongFalsely : Prop := maskUniformRow.holds Try.pinned (OpenSpec.ofChange maskUniformWrong)

/-- 'grisaillelaw21.MaskMultiply': WHATEVER THE INPUT: true; the input reads as it did. -/
def maskMultiplySpec : ChangeSpec := { name := "maskMultiply", fn := fun _ => fun
  | [d] => { results := [.lit (.bool true)], args := [d] }
  | _ => none }
def maskMultiplyRow : OpenClaim := { program := "ytfbgfnebodabpaa", sum := "c7710f405b890aca7918ebd56cb0a98a74754c6a59403ae33d37cd7194668820", func := "grisaille/grisaillelaw21.MaskMultiply", spec := "maskMultiply", unfollowed := true, recurses := true, apart := false }
def MaskMultiplySaid : Prop := maskMultiplyRow.holds Try.pinned (OpenSpec.ofChange maskMultiplySpec)

/-- ITS FALSE NEIGHBOUR: 'it returns false'. Refute it at one input. -/
def maskMultiplyWrong : ChangeSpec := { name := "maskMultiply", fn := fun _ => fun
  | [d] => { results := [.lit (.bool false)], args := [d] }
  | _ => none }
def MaskMultiplyWrongFalsely : Prop := maskMultiplyRow.holds Try.pinned (OpenSpec.ofChange maskMultiplyWrong)

/-- 'grisaillelaw21.MaskUnion': WHATEVER THE INPUT: true; the input reads as it did. -/
def maskUnionSpec : ChangeSpec := { name := "maskUnion", fn := fun _ => fun
  | [d1, d2] => { results := [.lit (.bool true)], args := [d1, d2] }
  | _ => none }
def maskUnionRow : OpenClaim := { program := "ytfbgfnebodabpaa", sum := "c7710f405b890aca7918ebd56cb0a98a74754c6a59403ae33d37cd7194668820", func := "grisaille/grisaillelaw21.MaskUnion", spec := "maskUnion", unfollowed := true, recurses := true, apart := false }
def MaskUnionSaid : Prop := maskUnionRow.holds Try.pinned (OpenSpec.ofChange maskUnionSpec)

/-- ITS FALSE NEIGHBOUR: 'it returns false'. Refute it at one input. -/
def maskUnionWrong : ChangeSpec := { name := "maskUnion", fn := fun _ => fun
  | [d1, d2] => { results := [.lit (.bool false)], args := [d1, d2] }
  | _ => none }
def MaskUnionWrongFalsely : Prop := maskUnionRow.holds Try.pinned (OpenSpec.ofChange maskUnionWrong)

/-- 'grisaillelaw21.MaskTransforms': WHATEVER THE INPUT: true; the input reads as it did. -/
def maskTransformsSpec : ChangeSpec := { name := "maskTransforms", fn := fun _ => fun
  | [d1, d2, d3] => { results := [.lit (.bool true)], args := [d1, d2, d3] }
  | _ => none }
def maskTransformsRow : OpenClaim := { program := "ytfbgfnebodabpaa", sum := "c7710f405b890aca7918ebd56cb0a98a74754c6a59403ae33d37cd7194668820", func := "grisaille/grisaillelaw21.MaskTransforms", spec := "maskTransforms", unfollowed := true, recurses := true, apart := false }
def MaskTransformsSaid : Prop := maskTransformsRow.holds Try.pinned (OpenSpec.ofChange maskTransformsSpec)

/-- ITS FALSE NEIGHBOUR: 'it returns false'. Refute it at one input. -/
def maskTransformsWrong : ChangeSpec := { name := "maskTransforms", fn := fun _ => fun
  | [d1, d2, d3] => { results := [.lit (.bool false)], args := [d1, d2, d3] }
  | _ => none }
def MaskTransformsWrongFalsely : Prop := maskTransformsRow.holds Try.pinned (OpenSpec.ofChange maskTransformsWrong)

/-- 'grisaillelaw21.MaskOrder': WHATEVER THE INPUT: true; the input reads as it did. -/
def maskOrderSpec : ChangeSpec := { name := "maskOrder", fn := fun _ => fun
  | [d1, d2] => { results := [.lit (.bool true)], args := [d1, d2] }
  | _ => none }
def maskOrderRow : OpenClaim := { program := "ytfbgfnebodabpaa", sum := "c7710f405b890aca7918ebd56cb0a98a74754c6a59403ae33d37cd7194668820", func := "grisaille/grisaillelaw21.MaskOrder", spec := "maskOrder", unfollowed := true, recurses := true, apart := false }
def MaskOrderSaid : Prop := maskOrderRow.holds Try.pinned (OpenSpec.ofChange maskOrderSpec)

/-- ITS FALSE NEIGHBOUR: 'it returns false'. Refute it at one input. -/
def maskOrderWrong : ChangeSpec := { name := "maskOrder", fn := fun _ => fun
  | [d1, d2] => { results := [.lit (.bool false)], args := [d1, d2] }
  | _ => none }
def MaskOrderWrongFalsely : Prop := maskOrderRow.holds Try.pinned (OpenSpec.ofChange maskOrderWrong)

/-- 'grisaillelaw21.MaskCropCommutes': WHATEVER THE INPUT: true; the input reads as it did. -/
def maskCropCommutesSpec : ChangeSpec := { name := "maskCropCommutes", fn := fun _ => fun
  | [d1, d2, d3] => { results := [.lit (.bool true)], args := [d1, d2, d3] }
  | _ => none }
def maskCropCommutesRow : OpenClaim := { program := "ytfbgfnebodabpaa", sum := "c7710f405b890aca7918ebd56cb0a98a74754c6a59403ae33d37cd7194668820", func := "grisaille/grisaillelaw21.MaskCropCommutes", spec := "maskCropCommutes", unfollowed := true, recurses := true, apart := false }
def MaskCropCommutesSaid : Prop := maskCropCommutesRow.holds Try.pinned (OpenSpec.ofChange maskCropCommutesSpec)

/-- ITS FALSE NEIGHBOUR: 'it returns false'. Refute it at one input. -/
def maskCropCommutesWrong : ChangeSpec := { name := "maskCropCommutes", fn := fun _ => fun
  | [d1, d2, d3] => { results := [.lit (.bool false)], args := [d1, d2, d3] }
  | _ => none }
def MaskCropCommutesWrongFalsely : Prop := maskCropCommutesRow.holds Try.pinned (OpenSpec.ofChange maskCropCommutesWrong)

/-- 'grisaillelaw21.MaskMorphology': WHATEVER THE INPUT: true; the input reads as it did. -/
def maskMorphologySpec : ChangeSpec := { name := "maskMorphology", fn := fun _ => fun
  | [d1, d2] => { results := [.lit (.bool true)], args := [d1, d2] }
  | _ => none }
def maskMorphologyRow : OpenClaim := { program := "ytfbgfnebodabpaa", sum := "c7710f405b890aca7918ebd56cb0a98a74754c6a59403ae33d37cd7194668820", func := "grisaille/grisaillelaw21.MaskMorphology", spec := "maskMorphology", unfollowed := true, recurses := true, apart := false }
def MaskMorphologySaid : Prop := maskMorphologyRow.holds Try.pinned (OpenSpec.ofChange maskMorphologySpec)

/-- ITS FALSE NEIGHBOUR: 'it returns false'. Refute it at one input. -/
def maskMorphologyWrong : ChangeSpec := { name := "maskMorphology", fn := fun _ => fun
  | [d1, d2] => { results := [.lit (.bool false)], args := [d1, d2] }
  | _ => none }
def MaskMorphologyWrongFalsely : Prop := maskMorphologyRow.holds Try.pinned (OpenSpec.ofChange maskMorphologyWrong)

/-- 'grisaillelaw21.MaskDuality': WHATEVER THE INPUT: true; the input reads as it did. -/
def maskDualitySpec : ChangeSpec := { name := "maskDuality", fn := fun _ => fun
  | [d1, d2] => { results := [.lit (.bool true)], args := [d1, d2] }
  | _ => none }
def maskDualityRow : OpenClaim := { program := "ytfbgfnebodabpaa", sum := "c7710f405b890aca7918ebd56cb0a98a74754c6a59403ae33d37cd7194668820", func := "grisaille/grisaillelaw21.MaskDuality", spec := "maskDuality", unfollowed := true, recurses := true, apart := false }
def MaskDualitySaid : Prop := maskDualityRow.holds Try.pinned (OpenSpec.ofChange maskDualitySpec)

/-- ITS FALSE NEIGHBOUR: 'it returns false'. Refute it at one input. -/
def maskDualityWrong : ChangeSpec := { name := "maskDuality", fn := fun _ => fun
  | [d1, d2] => { results := [.lit (.bool false)], args := [d1, d2] }
  | _ => none }
def MaskDualityWrongFalsely : Prop := maskDualityRow.holds Try.pinned (OpenSpec.ofChange maskDualityWrong)

/-- 'grisaillelaw21.MaskDistance': WHATEVER THE INPUT: true; the input reads as it did. -/
def maskDistanceSpec : ChangeSpec := { name := "maskDistance", fn := fun _ => fun
  | [d1, d2, d3] => { results := [.lit (.bool true)], args := [d1, d2, d3] }
  | _ => none }
def maskDistanceRow : OpenClaim := { program := "ytfbgfnebodabpaa", sum := "c7710f405b890aca7918ebd56cb0a98a74754c6a59403ae33d37cd7194668820", func := "grisaille/grisaillelaw21.MaskDistance", spec := "maskDistance", unfollowed := true, recurses := true, apart := false }
def MaskDistanceSaid : Prop := maskDistanceRow.holds Try.pinned (OpenSpec.ofChange maskDistanceSpec)

/-- ITS FALSE NEIGHBOUR: 'it returns false'. Refute it at one input. -/
def maskDistanceWrong : ChangeSpec := { name := "maskDistance", fn := fun _ => fun
  | [d1, d2, d3] => { results := [.lit (.bool false)], args := [d1, d2, d3] }
  | _ => none }
def MaskDistanceWrongFalsely : Prop := maskDistanceRow.holds Try.pinned (OpenSpec.ofChange maskDistanceWrong)

/-- 'grisaillelaw21.MaskErosionDistance': WHATEVER THE INPUT: true; the input reads as it did. -/
def maskErosionDistanceSpec : ChangeSpec := { name := "maskErosionDistance", fn := fun _ => fun
  | [d1, d2] => { results := [.lit (.bool true)], args := [d1, d2] }
  | _ => none }
def maskErosionDistanceRow : OpenClaim := { program := "ytfbgfnebodabpaa", sum := "c7710f405b890aca7918ebd56cb0a98a74754c6a59403ae33d37cd7194668820", func := "grisaille/grisaillelaw21.MaskErosionDistance", spec := "maskErosionDistance", unfollowed := true, recurses := true, apart := false }
def MaskErosionDistanceSaid : Prop := maskErosionDistanceRow.holds Try.pinned (OpenSpec.ofChange maskErosionDistanceSpec)

/-- ITS FALSE NEIGHBOUR: 'it returns false'. Refute it at one input. -/
def maskErosionDistanceWrong : ChangeSpec := { name := "maskErosionDistance", fn := fun _ => fun
  | [d1, d2] => { results := [.lit (.bool false)], args := [d1, d2] }
  | _ => none }
def MaskErosionDistanceWrongFalsely : Prop := maskErosionDistanceRow.holds Try.pinned (OpenSpec.ofChange maskErosionDistanceWrong)

/- THE SECOND FORM. 'bulk': how many values and letters a reading holds, each counted each time it is reached (what is shared counts as often as it is met; a slice's spare places count too). A statement '..UptoSaid' is the law's where the arguments, and the package variables that the reading takes, are together of bulk at most 1048576: NARROWER than '..Said'. Prove '..Said' where nothing that the law and all that it calls make is longer than what came in: it says more and counts as full. Else prove '..UptoSaid'. A law counts once. -/
mutual
def uptoBulk {H : Type} : DataW H → Nat
  | .lit (.string bytes) => bytes.length + 1
  | .lit _ => 1
  | .nil => 1
  | .ptr d => uptoBulk d + 1
  | .slice elems spare => uptoBulkAll elems + uptoBulkAll spare + 1
  | .agg parts => uptoBulkAll parts + 1
  | .iface _ d => uptoBulk d + 1
  | .map entries => uptoBulkEntries entries + 1
  | .held _ => 1
def uptoBulkAll {H : Type} : List (DataW H) → Nat
  | [] => 0
  | d :: r => uptoBulk d + uptoBulkAll r
def uptoBulkEntries {H : Type} : List (Lit × DataW H) → Nat
  | [] => 0
  | x :: r => uptoBulkEntry x + uptoBulkEntries r
def uptoBulkEntry {H : Type} : Lit × DataW H → Nat
  | (.string bytes, d) => bytes.length + uptoBulk d + 1
  | (_, d) => uptoBulk d + 1
 end
def uptoSmall : (H : Type) → List (DataW H) → Bool := fun _ ds => decide (uptoBulkAll ds ≤ 1048576)
def OpenSpec.upto (s : _root_.Go.ChangeSpec) : _root_.Go.OpenSpec := { _root_.Go.OpenSpec.ofChange s with cond := some uptoSmall }

/-- 'grisaillelaw21.MaskQueries', WHERE WHAT IT READS IS OF BULK AT MOST 1048576: true; the input reads as it did. -/
def maskQueriesUptoRow : OpenClaim := { program := "ytfbgfnebodabpaa", sum := "c7710f405b890aca7918ebd56cb0a98a74754c6a59403ae33d37cd7194668820", func := "grisaille/grisaillelaw21.MaskQueries", spec := "maskQueries", unfollowed := true, recurses := true, apart := false, narrowed := true }
def MaskQueriesUptoSaid : Prop := maskQueriesUptoRow.holds Try.pinned (OpenSpec.upto maskQueriesSpec)

/-- 'grisaillelaw21.MaskUniform', WHERE WHAT IT READS IS OF BULK AT MOST 1048576: true; the input reads as it did. -/
def maskUniformUptoRow : OpenClaim := { program := "ytfbgfnebodabpaa", sum := "c7710f405b890aca7918ebd56cb0a98a74754c6a59403ae33d37cd7194668820", func := "grisaille/grisaillelaw21.MaskUniform", spec := "maskUniform", unfollowed := true, recurses := true, apart := false, narrowed := true }
def MaskUniformUptoSaid : Prop := maskUniformUptoRow.holds Try.pinned (OpenSpec.upto maskUniformSpec)

/-- 'grisaillelaw21.MaskMultiply', WHERE WHAT IT READS IS OF BULK AT MOST 1048576: true; the input reads as it did. -/
def maskMultiplyUptoRow : OpenClaim := { program := "ytfbgfnebodabpaa", sum := "c7710f405b890aca7918ebd56cb0a98a74754c6a59403ae33d37cd7194668820", func := "grisaille/grisaillelaw21.MaskMultiply", spec := "maskMultiply", unfollowed := true, recurses := true, apart := false, narrowed := true }
def MaskMultiplyUptoSaid : Prop := maskMultiplyUptoRow.holds Try.pinned (OpenSpec.upto maskMultiplySpec)

/-- 'grisaillelaw21.MaskUnion', WHERE WHAT IT READS IS OF BULK AT MOST 1048576: true; the input reads as it did. -/
def maskUnionUptoRow : OpenClaim := { program := "ytfbgfnebodabpaa", sum := "c7710f405b890aca7918ebd56cb0a98a74754c6a59403ae33d37cd7194668820", func := "grisaille/grisaillelaw21.MaskUnion", spec := "maskUnion", unfollowed := true, recurses := true, apart := false, narrowed := true }
def MaskUnionUptoSaid : Prop := maskUnionUptoRow.holds Try.pinned (OpenSpec.upto maskUnionSpec)

/-- 'grisaillelaw21.MaskTransforms', WHERE WHAT IT READS IS OF BULK AT MOST 1048576: true; the input reads as it did. -/
def maskTransformsUptoRow : OpenClaim := { program := "ytfbgfnebodabpaa", sum := "c7710f405b890aca7918ebd56cb0a98a74754c6a59403ae33d37cd7194668820", func := "grisaille/grisaillelaw21.MaskTransforms", spec := "maskTransforms", unfollowed := true, recurses := true, apart := false, narrowed := true }
def MaskTransformsUptoSaid : Prop := maskTransformsUptoRow.holds Try.pinned (OpenSpec.upto maskTransformsSpec)

/-- 'grisaillelaw21.MaskOrder', WHERE WHAT IT READS IS OF BULK AT MOST 1048576: true; the input reads as it did. -/
def maskOrderUptoRow : OpenClaim := { program := "ytfbgfnebodabpaa", sum := "c7710f405b890aca7918ebd56cb0a98a74754c6a59403ae33d37cd7194668820", func := "grisaille/grisaillelaw21.MaskOrder", spec := "maskOrder", unfollowed := true, recurses := true, apart := false, narrowed := true }
def MaskOrderUptoSaid : Prop := maskOrderUptoRow.holds Try.pinned (OpenSpec.upto maskOrderSpec)

/-- 'grisaillelaw21.MaskCropCommutes', WHERE WHAT IT READS IS OF BULK AT MOST 1048576: true; the input reads as it did. -/
def maskCropCommutesUptoRow : OpenClaim := { program := "ytfbgfnebodabpaa", sum := "c7710f405b890aca7918ebd56cb0a98a74754c6a59403ae33d37cd7194668820", func := "grisaille/grisaillelaw21.MaskCropCommutes", spec := "maskCropCommutes", unfollowed := true, recurses := true, apart := false, narrowed := true }
def MaskCropCommutesUptoSaid : Prop := maskCropCommutesUptoRow.holds Try.pinned (OpenSpec.upto maskCropCommutesSpec)

/-- 'grisaillelaw21.MaskMorphology', WHERE WHAT IT READS IS OF BULK AT MOST 1048576: true; the input reads as it did. -/
def maskMorphologyUptoRow : OpenClaim := { program := "ytfbgfnebodabpaa", sum := "c7710f405b890aca7918ebd56cb0a98a74754c6a59403ae33d37cd7194668820", func := "grisaille/grisaillelaw21.MaskMorphology", spec := "maskMorphology", unfollowed := true, recurses := true, apart := false, narrowed := true }
def MaskMorphologyUptoSaid : Prop := maskMorphologyUptoRow.holds Try.pinned (OpenSpec.upto maskMorphologySpec)

/-- 'grisaillelaw21.MaskDuality', WHERE WHAT IT READS IS OF BULK AT MOST 1048576: true; the input reads as it did. -/
def maskDualityUptoRow : OpenClaim := { program := "ytfbgfnebodabpaa", sum := "c7710f405b890aca7918ebd56cb0a98a74754c6a59403ae33d37cd7194668820", func := "grisaille/grisaillelaw21.MaskDuality", spec := "maskDuality", unfollowed := true, recurses := true, apart := false, narrowed := true }
def MaskDualityUptoSaid : Prop := maskDualityUptoRow.holds Try.pinned (OpenSpec.upto maskDualitySpec)

/-- 'grisaillelaw21.MaskDistance', WHERE WHAT IT READS IS OF BULK AT MOST 1048576: true; the input reads as it did. -/
def maskDistanceUptoRow : OpenClaim := { program := "ytfbgfnebodabpaa", sum := "c7710f405b890aca7918ebd56cb0a98a74754c6a59403ae33d37cd7194668820", func := "grisaille/grisaillelaw21.MaskDistance", spec := "maskDistance", unfollowed := true, recurses := true, apart := false, narrowed := true }
def MaskDistanceUptoSaid : Prop := maskDistanceUptoRow.holds Try.pinned (OpenSpec.upto maskDistanceSpec)

/-- 'grisaillelaw21.MaskErosionDistance', WHERE WHAT IT READS IS OF BULK AT MOST 1048576: true; the input reads as it did. -/
def maskErosionDistanceUptoRow : OpenClaim := { program := "ytfbgfnebodabpaa", sum := "c7710f405b890aca7918ebd56cb0a98a74754c6a59403ae33d37cd7194668820", func := "grisaille/grisaillelaw21.MaskErosionDistance", spec := "maskErosionDistance", unfollowed := true, recurses := true, apart := false, narrowed := true }
def MaskErosionDistanceUptoSaid : Prop := maskErosionDistanceUptoRow.holds Try.pinned (OpenSpec.upto maskErosionDistanceSpec)

end Rows
end Go.Proofs.Ytfbgfnebodabpaa
