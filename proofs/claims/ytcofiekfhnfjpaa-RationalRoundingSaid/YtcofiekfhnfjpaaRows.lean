/-
  No cell of these rows narrows 'for every input' (looked for: loops, veiled, ifaces, maps, wideKeys, modest, calm, conditions, laid).
  DERIVED. THE GIVEN ROWS OF THIS SEAT. 5 by the template 'for every input the law returns true; each argument reads behind the call as it read before'; 0 by the template 'total and deterministic' (their statements: YtcofiekfhnfjpaaTotals.lean).
  GIVEN WITH THE SEED: the statements are not yours to turn. If you find one false, say at which input.
  Laid BY PROGRAM, IN A SANDBOX (cutbox-rows.mjs): the forced cells as the released guide's own fill.sh prints them over the translation faffc123b4c60a20… (all of the seat's roots in one cut). By AI agents, Wed Nov 11 2026. No macro, syntax, notation, axiom, sorry.
-/
import Derived.Test.YtcofiekfhnfjpaaChecked
import GoSem.Claim
import GoSem.ClaimJoined
import GoSem.ClaimMapViews
import Derived.JoinedTies
import Derived.KernelRfl
namespace Go.Proofs.Ytcofiekfhnfjpaa
/- THE CELL 'sum', in the pinned program and in every row, IS THE sha256 OF THE DUMP (.gsa) THAT YtcofiekfhnfjpaaProg.lean LOADS. Nothing in Lean hashes anything: it is a label: what it is worth is what the hold of that sum in a sandbox is worth. -/
noncomputable def Try.pinned : Pinned := { name := "ytcofiekfhnfjpaa", sum := "faffc123b4c60a20cd8a21321c8fdd3294e5f141f34ee2bf46668d2b48251c79", checked := Try.checked }
namespace Rows
def none {H : Type} : Left H := { results := [], args := [] }

/-- 'grisaillelaw03.RationalNew': WHATEVER THE INPUT: true; the input reads as it did. -/
def rationalNewSpec : ChangeSpec := { name := "rationalNew", fn := fun _ => fun
  | [d] => { results := [.lit (.bool true)], args := [d] }
  | _ => none }
def rationalNewRow : OpenClaim := { program := "ytcofiekfhnfjpaa", sum := "faffc123b4c60a20cd8a21321c8fdd3294e5f141f34ee2bf46668d2b48251c79", func := "grisaille/grisaillelaw03.RationalNew", spec := "rationalNew", unfollowed := true, recurses := true, apart := false }
def RationalNewSaid : Prop := rationalNewRow.holds Try.pinned (OpenSpec.ofChange rationalNewSpec)

/-- ITS FALSE NEIGHBOUR: 'it returns false'. Refute it at one input. -/
def rationalNewWrong : ChangeSpec := { name := "rationalNew", fn := fun _ => fun
  | [d] => { results := [.lit (.bool false)], args := [d] }
  | _ => none }
def RationalNewWrongFalsely : Prop := rationalNewRow.holds Try.pinned (OpenSpec.ofChange rationalNewWrong)

/-- 'grisaillelaw03.RationalFromInts': WHATEVER THE INPUT: true; the input reads as it did. -/
def rationalFromIntsSpec : ChangeSpec := { name := "rationalFromInts", fn := fun _ => fun
  | [d1, d2] => { results := [.lit (.bool true)], args := [d1, d2] }
  | _ => none }
def rationalFromIntsRow : OpenClaim := { program := "ytcofiekfhnfjpaa", sum := "faffc123b4c60a20cd8a21321c8fdd3294e5f141f34ee2bf46668d2b48251c79", func := "grisaille/grisaillelaw03.RationalFromInts", spec := "rationalFromInts", unfollowed := true, recurses := true, apart := false }
def RationalFromIntsSaid : Prop := rationalFromIntsRow.holds Try.pinned (OpenSpec.ofChange rationalFromIntsSpec)

/-- ITS FALSE NEIGHBOUR: 'it returns false'. Refute it at one input. -/
def rationalFromIntsWrong : ChangeSpec := { name := "rationalFromInts", fn := fun _ => fun
  | [d1, d2] => { results := [.lit (.bool false)], args := [d1, d2] }
  | _ => none }
def RationalFromIntsWrongFalsely : Prop := rationalFromIntsRow.holds Try.pinned (OpenSpec.ofChange rationalFromIntsWrong)

/-- 'grisaillelaw03.RationalRounding': WHATEVER THE INPUT: true; the input reads as it did. -/
def rationalRoundingSpec : ChangeSpec := { name := "rationalRounding", fn := fun _ => fun
  | [d] => { results := [.lit (.bool true)], args := [d] }
  | _ => none }
def rationalRoundingRow : OpenClaim := { program := "ytcofiekfhnfjpaa", sum := "faffc123b4c60a20cd8a21321c8fdd3294e5f141f34ee2bf46668d2b48251c79", func := "grisaille/grisaillelaw03.RationalRounding", spec := "rationalRounding", unfollowed := true, recurses := true, apart := false }
def RationalRoundingSaid : Prop := rationalRoundingRow.holds Try.pinned (OpenSpec.ofChange rationalRoundingSpec)

/-- ITS FALSE NEIGHBOUR: 'it returns false'. Refute it at one input. -/
def rationalRoundingWrong : ChangeSpec := { name := "rationalRounding", fn := fun _ => fun
  | [d] => { results := [.lit (.bool false)], args := [d] }
  | _ => none }
def RationalRoundingWrongFalsely : Prop := rationalRoundingRow.holds Try.pinned (OpenSpec.ofChange rationalRoundingWrong)

/-- 'grisaillelaw03.RationalSum': WHATEVER THE INPUT: true; the input reads as it did. -/
def rationalSumSpec : ChangeSpec := { name := "rationalSum", fn := fun _ => fun
  | [d] => { results := [.lit (.bool true)], args := [d] }
  | _ => none }
def rationalSumRow : OpenClaim := { program := "ytcofiekfhnfjpaa", sum := "faffc123b4c60a20cd8a21321c8fdd3294e5f141f34ee2bf46668d2b48251c79", func := "grisaille/grisaillelaw03.RationalSum", spec := "rationalSum", unfollowed := true, recurses := true, apart := false }
def RationalSumSaid : Prop := rationalSumRow.holds Try.pinned (OpenSpec.ofChange rationalSumSpec)

/-- ITS FALSE NEIGHBOUR: 'it returns false'. Refute it at one input. -/
def rationalSumWrong : ChangeSpec := { name := "rationalSum", fn := fun _ => fun
  | [d] => { results := [.lit (.bool false)], args := [d] }
  | _ => none }
def RationalSumWrongFalsely : Prop := rationalSumRow.holds Try.pinned (OpenSpec.ofChange rationalSumWrong)

/-- 'grisaillelaw03.RationalField': WHATEVER THE INPUT: true; the input reads as it did. -/
def rationalFieldSpec : ChangeSpec := { name := "rationalField", fn := fun _ => fun
  | [d1, d2, d3] => { results := [.lit (.bool true)], args := [d1, d2, d3] }
  | _ => none }
def rationalFieldRow : OpenClaim := { program := "ytcofiekfhnfjpaa", sum := "faffc123b4c60a20cd8a21321c8fdd3294e5f141f34ee2bf46668d2b48251c79", func := "grisaille/grisaillelaw03.RationalField", spec := "rationalField", unfollowed := true, recurses := true, apart := false }
def RationalFieldSaid : Prop := rationalFieldRow.holds Try.pinned (OpenSpec.ofChange rationalFieldSpec)

/-- ITS FALSE NEIGHBOUR: 'it returns false'. Refute it at one input. -/
def rationalFieldWrong : ChangeSpec := { name := "rationalField", fn := fun _ => fun
  | [d1, d2, d3] => { results := [.lit (.bool false)], args := [d1, d2, d3] }
  | _ => none }
def RationalFieldWrongFalsely : Prop := rationalFieldRow.holds Try.pinned (OpenSpec.ofChange rationalFieldWrong)

/- THE SECOND FORM. 'bulk': how many values and letters a reading holds, each counted each time it is reached (what is shared counts as often as it is met; a slice's spare places count too). A statement '..UptoSaid' is the law's where the arguments, and the package variables that the reading takes, are together of bulk at most 1048576: NARROWER than '..Said'. Prove '..Said' where nothing that the law and all that it calls make is longer than what came in: it says more and counts as full. Else prove '..UptoSaid'. A law counts once. -/
mutual
def uptoBulk {H : Type} : DataW H → Nat
  | .lit (.string bytes) => bytes.length + 1
  | .lit _ => 1
  | .nil => 1
  | .ptr d => uptoBulk d + 1
  | .slice elems spare => uptoBulkAll elems + uptoBulkAll spare + 1
  | .agg parts => uptoBulkAll parts + 1
  | .iface _ d => uptoBulk d + 1
  | .map entries => uptoBulkEntries entries + 1
  | .held _ => 1
def uptoBulkAll {H : Type} : List (DataW H) → Nat
  | [] => 0
  | d :: r => uptoBulk d + uptoBulkAll r
def uptoBulkEntries {H : Type} : List (Lit × DataW H) → Nat
  | [] => 0
  | x :: r => uptoBulkEntry x + uptoBulkEntries r
def uptoBulkEntry {H : Type} : Lit × DataW H → Nat
  | (.string bytes, d) => bytes.length + uptoBulk d + 1
  | (_, d) => uptoBulk d + 1
 end
def uptoSmall : (H : Type) → List (DataW H) → Bool := fun _ ds => decide (uptoBulkAll ds ≤ 1048576)
def OpenSpec.upto (s : _root_.Go.ChangeSpec) : _root_.Go.OpenSpec := { _root_.Go.OpenSpec.ofChange s with cond := some uptoSmall }

/-- 'grisaillelaw03.RationalNew', WHERE WHAT IT READS IS OF BULK AT MOST 1048576: true; the input reads as it did. -/
def rationalNewUptoRow : OpenClaim := { program := "ytcofiekfhnfjpaa", sum := "faffc123b4c60a20cd8a21321c8fdd3294e5f141f34ee2bf46668d2b48251c79", func := "grisaille/grisaillelaw03.RationalNew", spec := "rationalNew", unfollowed := true, recurses := true, apart := false, narrowed := true }
def RationalNewUptoSaid : Prop := rationalNewUptoRow.holds Try.pinned (OpenSpec.upto rationalNewSpec)

/-- 'grisaillelaw03.RationalFromInts', WHERE WHAT IT READS IS OF BULK AT MOST 1048576: true; the input reads as it did. -/
def rationalFromIntsUptoRow : OpenClaim := { program := "ytcofiekfhnfjpaa", sum := "faffc123b4c60a20cd8a21321c8fdd3294e5f141f34ee2bf46668d2b48251c79", func := "grisaille/grisaillelaw03.RationalFromInts", spec := "rationalFromInts", unfollowed := true, recurses := true, apart := false, narrowed := true }
def RationalFromIntsUptoSaid : Prop := rationalFromIntsUptoRow.holds Try.pinned (OpenSpec.upto rationalFromIntsSpec)

/-- 'grisaillelaw03.RationalRounding', WHERE WHAT IT READS IS OF BULK AT MOST 1048576: true; the input reads as it did. -/
def rationalRoundingUptoRow : OpenClaim := { program := "ytcofiekfhnfjpaa", sum := "faffc123b4c60a20cd8a21321c8fdd3294e5f141f34ee2bf46668d2b48251c79", func := "grisaille/grisaillelaw03.RationalRounding", spec := "rationalRounding", unfollowed := true, recurses := true, apart := false, narrowed := true }
def RationalRoundingUptoSaid : Prop := rationalRoundingUptoRow.holds Try.pinned (OpenSpec.upto rationalRoundingSpec)

/-- 'grisaillelaw03.RationalSum', WHERE WHAT IT READS IS OF BULK AT MOST 1048576: true; the input reads as it did. -/
def rationalSumUptoRow : OpenClaim := { program := "ytcofiekfhnfjpaa", sum := "faffc123b4c60a20cd8a21321c8fdd3294e5f141f34ee2bf46668d2b48251c79", func := "grisaille/grisaillelaw03.RationalSum", spec := "rationalSum", unfollowed := true, recurses := true, apart := false, narrowed := true }
def RationalSumUptoSaid : Prop := rationalSumUptoRow.holds Try.pinned (OpenSpec.upto rationalSumSpec)

/-- 'grisaillelaw03.RationalField', WHERE WHAT IT READS IS OF BULK AT MOST 1048576: true; the input reads as it did. -/
def rationalFieldUptoRow : OpenClaim := { program := "ytcofiekfhnfjpaa", sum := "faffc123b4c60a20cd8a21321c8fdd3294e5f141f34ee2bf46668d2b48251c79", func := "grisaille/grisaillelaw03.RationalField", spec := "rationalField", unfollowed := true, recurses := true, apart := false, narrowed := true }
def RationalFieldUptoSaid : Prop := rationalFieldUptoRow.holds Try.pinned (OpenSpec.upto rationalFieldSpec)

end Rows
end Go.Proofs.Ytcofiekfhnfjpaa
