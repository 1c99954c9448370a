/-
  No cell of these rows narrows 'for every input' (looked for: loops, veiled, ifaces, maps, wideKeys, modest, calm, conditions, laid).
  DERIVED. THE GIVEN ROWS OF THIS SEAT. 7 by the template 'for every input the law returns true; each argument reads behind the call as it read before'; 0 by the template 'total and deterministic' (their statements: YtciaidlkhlgflaaTotals.lean).
  GIVEN WITH THE SEED: the statements are not yours to turn. If you find one false, say at which input.
  Laid BY PROGRAM, IN A SANDBOX (cutbox-rows.mjs): the forced cells as the released guide's own fill.sh prints them over the translation e988ef508d4cde8b… (all of the seat's roots in one cut). By AI agents, Wed Nov 11 2026. No macro, syntax, notation, axiom, sorry.
-/
import Derived.Test.YtciaidlkhlgflaaChecked
import GoSem.Claim
import GoSem.ClaimJoined
import GoSem.ClaimMapViews
import Derived.JoinedTies
import Derived.KernelRfl
namespace Go.Proofs.Ytciaidlkhlgflaa
/- THE CELL 'sum', in the pinned program and in every row, IS THE sha256 OF THE DUMP (.gsa) THAT YtciaidlkhlgflaaProg.lean LOADS. Nothing in Lean hashes anything: it is a label: what it is worth is what the hold of that sum in a sandbox is worth. -/
noncomputable def Try.pinned : Pinned := { name := "ytciaidlkhlgflaa", sum := "e988ef508d4cde8b82b09d8f45dcebb84f6cbca17a85dfbfc6e1d50ea3b333d7", checked := Try.checked }
namespace Rows
def none {H : Type} : Left H := { results := [], args := [] }

/-- 'grisaillelaw09.RectDifference': WHATEVER THE INPUT: true; the input reads as it did. -/
def rectDifferenceSpec : ChangeSpec := { name := "rectDifference", fn := fun _ => fun
  | [d1, d2] => { results := [.lit (.bool true)], args := [d1, d2] }
  | _ => none }
def rectDifferenceRow : OpenClaim := { program := "ytciaidlkhlgflaa", sum := "e988ef508d4cde8b82b09d8f45dcebb84f6cbca17a85dfbfc6e1d50ea3b333d7", func := "grisaille/grisaillelaw09.RectDifference", spec := "rectDifference", apart := false }
def RectDifferenceSaid : Prop := rectDifferenceRow.holds Try.pinned (OpenSpec.ofChange rectDifferenceSpec)

/-- ITS FALSE NEIGHBOUR: 'it returns false'. Refute it at one input. -/
def rectDifferenceWrong : ChangeSpec := { name := "rectDifference", fn := fun _ => fun
  | [d1, d2] => { results := [.lit (.bool false)], args := [d1, d2] }
  | _ => none }
def RectDifferenceWrongFalsely : Prop := rectDifferenceRow.holds Try.pinned (OpenSpec.ofChange rectDifferenceWrong)

/-- 'grisaillelaw09.RectTiles': WHATEVER THE INPUT: true; the input reads as it did. -/
def rectTilesSpec : ChangeSpec := { name := "rectTiles", fn := fun _ => fun
  | [d1, d2, d3] => { results := [.lit (.bool true)], args := [d1, d2, d3] }
  | _ => none }
def rectTilesRow : OpenClaim := { program := "ytciaidlkhlgflaa", sum := "e988ef508d4cde8b82b09d8f45dcebb84f6cbca17a85dfbfc6e1d50ea3b333d7", func := "grisaille/grisaillelaw09.RectTiles", spec := "rectTiles", unfollowed := true, recurses := true, apart := false }
def RectTilesSaid : Prop := rectTilesRow.holds Try.pinned (OpenSpec.ofChange rectTilesSpec)

/-- ITS FALSE NEIGHBOUR: 'it returns false'. Refute it at one input. -/
def rectTilesWrong : ChangeSpec := { name := "rectTiles", fn := fun _ => fun
  | [d1, d2, d3] => { results := [.lit (.bool false)], args := [d1, d2, d3] }
  | _ => none }
def RectTilesWrongFalsely : Prop := rectTilesRow.holds Try.pinned (OpenSpec.ofChange rectTilesWrong)

/-- 'grisaillelaw09.RectSubtract': WHATEVER THE INPUT: true; the input reads as it did. -/
def rectSubtractSpec : ChangeSpec := { name := "rectSubtract", fn := fun _ => fun
  | [d1, d2, d3] => { results := [.lit (.bool true)], args := [d1, d2, d3] }
  | _ => none }
def rectSubtractRow : OpenClaim := { program := "ytciaidlkhlgflaa", sum := "e988ef508d4cde8b82b09d8f45dcebb84f6cbca17a85dfbfc6e1d50ea3b333d7", func := "grisaille/grisaillelaw09.RectSubtract", spec := "rectSubtract", unfollowed := true, recurses := true, apart := false }
def RectSubtractSaid : Prop := rectSubtractRow.holds Try.pinned (OpenSpec.ofChange rectSubtractSpec)

/-- ITS FALSE NEIGHBOUR: 'it returns false'. Refute it at one input. -/
def rectSubtractWrong : ChangeSpec := { name := "rectSubtract", fn := fun _ => fun
  | [d1, d2, d3] => { results := [.lit (.bool false)], args := [d1, d2, d3] }
  | _ => none }
def RectSubtractWrongFalsely : Prop := rectSubtractRow.holds Try.pinned (OpenSpec.ofChange rectSubtractWrong)

/-- 'grisaillelaw09.RectPack': WHATEVER THE INPUT: true; the input reads as it did. -/
def rectPackSpec : ChangeSpec := { name := "rectPack", fn := fun _ => fun
  | [d1, d2, d3] => { results := [.lit (.bool true)], args := [d1, d2, d3] }
  | _ => none }
def rectPackRow : OpenClaim := { program := "ytciaidlkhlgflaa", sum := "e988ef508d4cde8b82b09d8f45dcebb84f6cbca17a85dfbfc6e1d50ea3b333d7", func := "grisaille/grisaillelaw09.RectPack", spec := "rectPack", apart := false }
def RectPackSaid : Prop := rectPackRow.holds Try.pinned (OpenSpec.ofChange rectPackSpec)

/-- ITS FALSE NEIGHBOUR: 'it returns false'. Refute it at one input. -/
def rectPackWrong : ChangeSpec := { name := "rectPack", fn := fun _ => fun
  | [d1, d2, d3] => { results := [.lit (.bool false)], args := [d1, d2, d3] }
  | _ => none }
def RectPackWrongFalsely : Prop := rectPackRow.holds Try.pinned (OpenSpec.ofChange rectPackWrong)

/-- 'grisaillelaw09.RectPackDisjoint': WHATEVER THE INPUT: true; the input reads as it did. -/
def rectPackDisjointSpec : ChangeSpec := { name := "rectPackDisjoint", fn := fun _ => fun
  | [d1, d2, d3] => { results := [.lit (.bool true)], args := [d1, d2, d3] }
  | _ => none }
def rectPackDisjointRow : OpenClaim := { program := "ytciaidlkhlgflaa", sum := "e988ef508d4cde8b82b09d8f45dcebb84f6cbca17a85dfbfc6e1d50ea3b333d7", func := "grisaille/grisaillelaw09.RectPackDisjoint", spec := "rectPackDisjoint", apart := false }
def RectPackDisjointSaid : Prop := rectPackDisjointRow.holds Try.pinned (OpenSpec.ofChange rectPackDisjointSpec)

/-- ITS FALSE NEIGHBOUR: 'it returns false'. Refute it at one input. -/
def rectPackDisjointWrong : ChangeSpec := { name := "rectPackDisjoint", fn := fun _ => fun
  | [d1, d2, d3] => { results := [.lit (.bool false)], args := [d1, d2, d3] }
  | _ => none }
def RectPackDisjointWrongFalsely : Prop := rectPackDisjointRow.holds Try.pinned (OpenSpec.ofChange rectPackDisjointWrong)

/-- 'grisaillelaw09.RectPackPrefix': WHATEVER THE INPUT: true; the input reads as it did. -/
def rectPackPrefixSpec : ChangeSpec := { name := "rectPackPrefix", fn := fun _ => fun
  | [d1, d2, d3] => { results := [.lit (.bool true)], args := [d1, d2, d3] }
  | _ => none }
def rectPackPrefixRow : OpenClaim := { program := "ytciaidlkhlgflaa", sum := "e988ef508d4cde8b82b09d8f45dcebb84f6cbca17a85dfbfc6e1d50ea3b333d7", func := "grisaille/grisaillelaw09.RectPackPrefix", spec := "rectPackPrefix", apart := false }
def RectPackPrefixSaid : Prop := rectPackPrefixRow.holds Try.pinned (OpenSpec.ofChange rectPackPrefixSpec)

/-- ITS FALSE NEIGHBOUR: 'it returns false'. Refute it at one input. -/
def rectPackPrefixWrong : ChangeSpec := { name := "rectPackPrefix", fn := fun _ => fun
  | [d1, d2, d3] => { results := [.lit (.bool false)], args := [d1, d2, d3] }
  | _ => none }
def RectPackPrefixWrongFalsely : Prop := rectPackPrefixRow.holds Try.pinned (OpenSpec.ofChange rectPackPrefixWrong)

/-- 'grisaillelaw09.RectPackSquares': WHATEVER THE INPUT: true; the input reads as it did. -/
def rectPackSquaresSpec : ChangeSpec := { name := "rectPackSquares", fn := fun _ => fun
  | [d1, d2, d3] => { results := [.lit (.bool true)], args := [d1, d2, d3] }
  | _ => none }
def rectPackSquaresRow : OpenClaim := { program := "ytciaidlkhlgflaa", sum := "e988ef508d4cde8b82b09d8f45dcebb84f6cbca17a85dfbfc6e1d50ea3b333d7", func := "grisaille/grisaillelaw09.RectPackSquares", spec := "rectPackSquares", apart := false }
def RectPackSquaresSaid : Prop := rectPackSquaresRow.holds Try.pinned (OpenSpec.ofChange rectPackSquaresSpec)

/-- ITS FALSE NEIGHBOUR: 'it returns false'. Refute it at one input. -/
def rectPackSquaresWrong : ChangeSpec := { name := "rectPackSquares", fn := fun _ => fun
  | [d1, d2, d3] => { results := [.lit (.bool false)], args := [d1, d2, d3] }
  | _ => none }
def RectPackSquaresWrongFalsely : Prop := rectPackSquaresRow.holds Try.pinned (OpenSpec.ofChange rectPackSquaresWrong)

/- THE SECOND FORM. 'bulk': how many values and letters a reading holds, each counted each time it is reached (what is shared counts as often as it is met; a slice's spare places count too). A statement '..UptoSaid' is the law's where the arguments, and the package variables that the reading takes, are together of bulk at most 1048576: NARROWER than '..Said'. Prove '..Said' where nothing that the law and all that it calls make is longer than what came in: it says more and counts as full. Else prove '..UptoSaid'. A law counts once. -/
mutual
def uptoBulk {H : Type} : DataW H → Nat
  | .lit (.string bytes) => bytes.length + 1
  | .lit _ => 1
  | .nil => 1
  | .ptr d => uptoBulk d + 1
  | .slice elems spare => uptoBulkAll elems + uptoBulkAll spare + 1
  | .agg parts => uptoBulkAll parts + 1
  | .iface _ d => uptoBulk d + 1
  | .map entries => uptoBulkEntries entries + 1
  | .held _ => 1
def uptoBulkAll {H : Type} : List (DataW H) → Nat
  | [] => 0
  | d :: r => uptoBulk d + uptoBulkAll r
def uptoBulkEntries {H : Type} : List (Lit × DataW H) → Nat
  | [] => 0
  | x :: r => uptoBulkEntry x + uptoBulkEntries r
def uptoBulkEntry {H : Type} : Lit × DataW H → Nat
  | (.string bytes, d) => bytes.length + uptoBulk d + 1
  | (_, d) => uptoBulk d + 1
 end
def uptoSmall : (H : Type) → List (DataW H) → Bool := fun _ ds => decide (uptoBulkAll ds ≤ 1048576)
def OpenSpec.upto (s : _root_.Go.ChangeSpec) : _root_.Go.OpenSpec := { _root_.Go.OpenSpec.ofChange s with cond := some uptoSmall }

/-- 'grisaillelaw09.RectDifference', WHERE WHAT IT READS IS OF BULK AT MOST 1048576: true; the input reads as it did. -/
def rectDifferenceUptoRow : OpenClaim := { program := "ytciaidlkhlgflaa", sum := "e988ef508d4cde8b82b09d8f45dcebb84f6cbca17a85dfbfc6e1d50ea3b333d7", func := "grisaille/grisaillelaw09.RectDifference", spec := "rectDifference", apart := false, narrowed := true }
def RectDifferenceUptoSaid : Prop := rectDifferenceUptoRow.holds Try.pinned (OpenSpec.upto rectDifferenceSpec)

/-- 'grisaillelaw09.RectTiles', WHERE WHAT IT READS IS OF BULK AT MOST 1048576: true; the input reads as it did. -/
def rectTilesUptoRow : OpenClaim := { program := "ytciaidlkhlgflaa", sum := "e988ef508d4cde8b82b09d8f45dcebb84f6cbca17a85dfbfc6e1d50ea3b333d7", func := "grisaille/grisaillelaw09.RectTiles", spec := "rectTiles", unfollowed := true, recurses := true, apart := false, narrowed := true }
def RectTilesUptoSaid : Prop := rectTilesUptoRow.holds Try.pinned (OpenSpec.upto rectTilesSpec)

/-- 'grisaillelaw09.RectSubtract', WHERE WHAT IT READS IS OF BULK AT MOST 1048576: true; the input reads as it did. -/
def rectSubtractUptoRow : OpenClaim := { program := "ytciaidlkhlgflaa", sum := "e988ef508d4cde8b82b09d8f45dcebb84f6cbca17a85dfbfc6e1d50ea3b333d7", func := "grisaille/grisaillelaw09.RectSubtract", spec := "rectSubtract", unfollowed := true, recurses := true, apart := false, narrowed := true }
def RectSubtractUptoSaid : Prop := rectSubtractUptoRow.holds Try.pinned (OpenSpec.upto rectSubtractSpec)

/-- 'grisaillelaw09.RectPack', WHERE WHAT IT READS IS OF BULK AT MOST 1048576: true; the input reads as it did. -/
def rectPackUptoRow : OpenClaim := { program := "ytciaidlkhlgflaa", sum := "e988ef508d4cde8b82b09d8f45dcebb84f6cbca17a85dfbfc6e1d50ea3b333d7", func := "grisaille/grisaillelaw09.RectPack", spec := "rectPack", apart := false, narrowed := true }
def RectPackUptoSaid : Prop := rectPackUptoRow.holds Try.pinned (OpenSpec.upto rectPackSpec)

/-- 'grisaillelaw09.RectPackDisjoint', WHERE WHAT IT READS IS OF BULK AT MOST 1048576: true; the input reads as it did. -/
def rectPackDisjointUptoRow : OpenClaim := { program := "ytciaidlkhlgflaa", sum := "e988ef508d4cde8b82b09d8f45dcebb84f6cbca17a85dfbfc6e1d50ea3b333d7", func := "grisaille/grisaillelaw09.RectPackDisjoint", spec := "rectPackDisjoint", apart := false, narrowed := true }
def RectPackDisjointUptoSaid : Prop := rectPackDisjointUptoRow.holds Try.pinned (OpenSpec.upto rectPackDisjointSpec)

/-- 'grisaillelaw09.RectPackPrefix', WHERE WHAT IT READS IS OF BULK AT MOST 1048576: true; the input reads as it did. -/
def rectPackPrefixUptoRow : OpenClaim := { program := "ytciaidlkhlgflaa", sum := "e988ef508d4cde8b82b09d8f45dcebb84f6cbca17a85dfbfc6e1d50ea3b333d7", func := "grisaille/grisaillelaw09.RectPackPrefix", spec := "rectPackPrefix", apart := false, narrowed := true }
def RectPackPrefixUptoSaid : Prop := rectPackPrefixUptoRow.holds Try.pinned (OpenSpec.upto rectPackPrefixSpec)

/-- 'grisaillelaw09.RectPackSquares', WHERE WHAT IT READS IS OF BULK AT MOST 1048576: true; the input reads as it did. -/
def rectPackSquaresUptoRow : OpenClaim := { program := "ytciaidlkhlgflaa", sum := "e988ef508d4cde8b82b09d8f45dcebb84f6cbca17a85dfbfc6e1d50ea3b333d7", func := "grisaille/grisaillelaw09.RectPackSquares", spec := "rectPackSquares", apart := false, narrowed := true }
def RectPackSquaresUptoSaid : Prop := rectPackSquaresUptoRow.holds Try.pinned (OpenSpec.upto rectPackSquaresSpec)

end Rows
end Go.Proofs.Ytciaidlkhlgflaa
