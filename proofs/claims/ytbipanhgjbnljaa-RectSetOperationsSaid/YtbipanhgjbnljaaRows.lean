/-
  No cell of these rows narrows 'for every input' (looked for: loops, veiled, ifaces, maps, wideKeys, modest, calm, conditions, laid).
  DERIVED. THE GIVEN ROWS OF THIS SEAT. 5 by the template 'for every input the law returns true; each argument reads behind the call as it read before'; 0 by the template 'total and deterministic' (their statements: YtbipanhgjbnljaaTotals.lean).
  GIVEN WITH THE SEED: the statements are not yours to turn. If you find one false, say at which input.
  Laid BY PROGRAM, IN A SANDBOX (cutbox-rows.mjs): the forced cells as the released guide's own fill.sh prints them over the translation 7ff690bdaa96d909… (all of the seat's roots in one cut). By AI agents, Wed Nov 11 2026. No macro, syntax, notation, axiom, sorry.
-/
import Derived.Test.YtbipanhgjbnljaaChecked
import GoSem.Claim
import GoSem.ClaimJoined
import GoSem.ClaimMapViews
import Derived.JoinedTies
import Derived.KernelRfl
namespace Go.Proofs.Ytbipanhgjbnljaa
/- THE CELL 'sum', in the pinned program and in every row, IS THE sha256 OF THE DUMP (.gsa) THAT YtbipanhgjbnljaaProg.lean LOADS. Nothing in Lean hashes anything: it is a label: what it is worth is what the hold of that sum in a sandbox is worth. -/
noncomputable def Try.pinned : Pinned := { name := "ytbipanhgjbnljaa", sum := "7ff690bdaa96d9096480cbdf6dc0d4bcce6bef6fd2b1e297a83b6aa8eb7748c3", checked := Try.checked }
namespace Rows
def none {H : Type} : Left H := { results := [], args := [] }

/-- 'grisaillelaw09.RectQueries': WHATEVER THE INPUT: true; the input reads as it did. -/
def rectQueriesSpec : ChangeSpec := { name := "rectQueries", fn := fun _ => fun
  | [d1, d2, d3] => { results := [.lit (.bool true)], args := [d1, d2, d3] }
  | _ => none }
def rectQueriesRow : OpenClaim := { program := "ytbipanhgjbnljaa", sum := "7ff690bdaa96d9096480cbdf6dc0d4bcce6bef6fd2b1e297a83b6aa8eb7748c3", func := "grisaille/grisaillelaw09.RectQueries", spec := "rectQueries", apart := false }
def RectQueriesSaid : Prop := rectQueriesRow.holds Try.pinned (OpenSpec.ofChange rectQueriesSpec)

/-- ITS FALSE NEIGHBOUR: 'it returns false'. Refute it at one input. -/
def rectQueriesWrong : ChangeSpec := { name := "rectQueries", fn := fun _ => fun
  | [d1, d2, d3] => { results := [.lit (.bool false)], args := [d1, d2, d3] }
  | _ => none }
def RectQueriesWrongFalsely : Prop := rectQueriesRow.holds Try.pinned (OpenSpec.ofChange rectQueriesWrong)

/-- 'grisaillelaw09.RectSetOperations': WHATEVER THE INPUT: true; the input reads as it did. -/
def rectSetOperationsSpec : ChangeSpec := { name := "rectSetOperations", fn := fun _ => fun
  | [d1, d2, d3] => { results := [.lit (.bool true)], args := [d1, d2, d3] }
  | _ => none }
def rectSetOperationsRow : OpenClaim := { program := "ytbipanhgjbnljaa", sum := "7ff690bdaa96d9096480cbdf6dc0d4bcce6bef6fd2b1e297a83b6aa8eb7748c3", func := "grisaille/grisaillelaw09.RectSetOperations", spec := "rectSetOperations", apart := false }
def RectSetOperationsSaid : Prop := rectSetOperationsRow.holds Try.pinned (OpenSpec.ofChange rectSetOperationsSpec)

/-- ITS FALSE NEIGHBOUR: 'it returns false'. Refute it at one input. -/
def rectSetOperationsWrong : ChangeSpec := { name := "rectSetOperations", fn := fun _ => fun
  | [d1, d2, d3] => { results := [.lit (.bool false)], args := [d1, d2, d3] }
  | _ => none }
def RectSetOperationsWrongFalsely : Prop := rectSetOperationsRow.holds Try.pinned (OpenSpec.ofChange rectSetOperationsWrong)

/-- 'grisaillelaw09.RectDifference': WHATEVER THE INPUT: true; the input reads as it did. -/
def rectDifferenceSpec : ChangeSpec := { name := "rectDifference", fn := fun _ => fun
  | [d1, d2] => { results := [.lit (.bool true)], args := [d1, d2] }
  | _ => none }
def rectDifferenceRow : OpenClaim := { program := "ytbipanhgjbnljaa", sum := "7ff690bdaa96d9096480cbdf6dc0d4bcce6bef6fd2b1e297a83b6aa8eb7748c3", func := "grisaille/grisaillelaw09.RectDifference", spec := "rectDifference", apart := false }
def RectDifferenceSaid : Prop := rectDifferenceRow.holds Try.pinned (OpenSpec.ofChange rectDifferenceSpec)

/-- ITS FALSE NEIGHBOUR: 'it returns false'. Refute it at one input. -/
def rectDifferenceWrong : ChangeSpec := { name := "rectDifference", fn := fun _ => fun
  | [d1, d2] => { results := [.lit (.bool false)], args := [d1, d2] }
  | _ => none }
def RectDifferenceWrongFalsely : Prop := rectDifferenceRow.holds Try.pinned (OpenSpec.ofChange rectDifferenceWrong)

/-- 'grisaillelaw09.RectSubtract': WHATEVER THE INPUT: true; the input reads as it did. -/
def rectSubtractSpec : ChangeSpec := { name := "rectSubtract", fn := fun _ => fun
  | [d1, d2, d3] => { results := [.lit (.bool true)], args := [d1, d2, d3] }
  | _ => none }
def rectSubtractRow : OpenClaim := { program := "ytbipanhgjbnljaa", sum := "7ff690bdaa96d9096480cbdf6dc0d4bcce6bef6fd2b1e297a83b6aa8eb7748c3", func := "grisaille/grisaillelaw09.RectSubtract", spec := "rectSubtract", unfollowed := true, recurses := true, apart := false }
def RectSubtractSaid : Prop := rectSubtractRow.holds Try.pinned (OpenSpec.ofChange rectSubtractSpec)

/-- ITS FALSE NEIGHBOUR: 'it returns false'. Refute it at one input. -/
def rectSubtractWrong : ChangeSpec := { name := "rectSubtract", fn := fun _ => fun
  | [d1, d2, d3] => { results := [.lit (.bool false)], args := [d1, d2, d3] }
  | _ => none }
def RectSubtractWrongFalsely : Prop := rectSubtractRow.holds Try.pinned (OpenSpec.ofChange rectSubtractWrong)

/-- 'grisaillelaw09.RectUnionIntersect': WHATEVER THE INPUT: true; the input reads as it did. -/
def rectUnionIntersectSpec : ChangeSpec := { name := "rectUnionIntersect", fn := fun _ => fun
  | [d1, d2, d3] => { results := [.lit (.bool true)], args := [d1, d2, d3] }
  | _ => none }
def rectUnionIntersectRow : OpenClaim := { program := "ytbipanhgjbnljaa", sum := "7ff690bdaa96d9096480cbdf6dc0d4bcce6bef6fd2b1e297a83b6aa8eb7748c3", func := "grisaille/grisaillelaw09.RectUnionIntersect", spec := "rectUnionIntersect", apart := false }
def RectUnionIntersectSaid : Prop := rectUnionIntersectRow.holds Try.pinned (OpenSpec.ofChange rectUnionIntersectSpec)

/-- ITS FALSE NEIGHBOUR: 'it returns false'. Refute it at one input. -/
def rectUnionIntersectWrong : ChangeSpec := { name := "rectUnionIntersect", fn := fun _ => fun
  | [d1, d2, d3] => { results := [.lit (.bool false)], args := [d1, d2, d3] }
  | _ => none }
def RectUnionIntersectWrongFalsely : Prop := rectUnionIntersectRow.holds Try.pinned (OpenSpec.ofChange rectUnionIntersectWrong)

/- THE SECOND FORM. 'bulk': how many values and letters a reading holds, each counted each time it is reached (what is shared counts as often as it is met; a slice's spare places count too). A statement '..UptoSaid' is the law's where the arguments, and the package variables that the reading takes, are together of bulk at most 1048576: NARROWER than '..Said'. Prove '..Said' where nothing that the law and all that it calls make is longer than what came in: it says more and counts as full. Else prove '..UptoSaid'. A law counts once. -/
mutual
def uptoBulk {H : Type} : DataW H → Nat
  | .lit (.string bytes) => bytes.length + 1
  | .lit _ => 1
  | .nil => 1
  | .ptr d => uptoBulk d + 1
  | .slice elems spare => uptoBulkAll elems + uptoBulkAll spare + 1
  | .agg parts => uptoBulkAll parts + 1
  | .iface _ d => uptoBulk d + 1
  | .map entries => uptoBulkEntries entries + 1
  | .held _ => 1
def uptoBulkAll {H : Type} : List (DataW H) → Nat
  | [] => 0
  | d :: r => uptoBulk d + uptoBulkAll r
def uptoBulkEntries {H : Type} : List (Lit × DataW H) → Nat
  | [] => 0
  | x :: r => uptoBulkEntry x + uptoBulkEntries r
def uptoBulkEntry {H : Type} : Lit × DataW H → Nat
  | (.string bytes, d) => bytes.length + uptoBulk d + 1
  | (_, d) => uptoBulk d + 1
 end
def uptoSmall : (H : Type) → List (DataW H) → Bool := fun _ ds => decide (uptoBulkAll ds ≤ 1048576)
def OpenSpec.upto (s : _root_.Go.ChangeSpec) : _root_.Go.OpenSpec := { _root_.Go.OpenSpec.ofChange s with cond := some uptoSmall }

/-- 'grisaillelaw09.RectQueries', WHERE WHAT IT READS IS OF BULK AT MOST 1048576: true; the input reads as it did. -/
def rectQueriesUptoRow : OpenClaim := { program := "ytbipanhgjbnljaa", sum := "7ff690bdaa96d9096480cbdf6dc0d4bcce6bef6fd2b1e297a83b6aa8eb7748c3", func := "grisaille/grisaillelaw09.RectQueries", spec := "rectQueries", apart := false, narrowed := true }
def RectQueriesUptoSaid : Prop := rectQueriesUptoRow.holds Try.pinned (OpenSpec.upto rectQueriesSpec)

/-- 'grisaillelaw09.RectSetOperations', WHERE WHAT IT READS IS OF BULK AT MOST 1048576: true; the input reads as it did. -/
def rectSetOperationsUptoRow : OpenClaim := { program := "ytbipanhgjbnljaa", sum := "7ff690bdaa96d9096480cbdf6dc0d4bcce6bef6fd2b1e297a83b6aa8eb7748c3", func := "grisaille/grisaillelaw09.RectSetOperations", spec := "rectSetOperations", apart := false, narrowed := true }
def RectSetOperationsUptoSaid : Prop := rectSetOperationsUptoRow.holds Try.pinned (OpenSpec.upto rectSetOperationsSpec)

/-- 'grisaillelaw09.RectDifference', WHERE WHAT IT READS IS OF BULK AT MOST 1048576: true; the input reads as it did. -/
def rectDifferenceUptoRow : OpenClaim := { program := "ytbipanhgjbnljaa", sum := "7ff690bdaa96d9096480cbdf6dc0d4bcce6bef6fd2b1e297a83b6aa8eb7748c3", func := "grisaille/grisaillelaw09.RectDifference", spec := "rectDifference", apart := false, narrowed := true }
def RectDifferenceUptoSaid : Prop := rectDifferenceUptoRow.holds Try.pinned (OpenSpec.upto rectDifferenceSpec)

/-- 'grisaillelaw09.RectSubtract', WHERE WHAT IT READS IS OF BULK AT MOST 1048576: true; the input reads as it did. -/
def rectSubtractUptoRow : OpenClaim := { program := "ytbipanhgjbnljaa", sum := "7ff690bdaa96d9096480cbdf6dc0d4bcce6bef6fd2b1e297a83b6aa8eb7748c3", func := "grisaille/grisaillelaw09.RectSubtract", spec := "rectSubtract", unfollowed := true, recurses := true, apart := false, narrowed := true }
def RectSubtractUptoSaid : Prop := rectSubtractUptoRow.holds Try.pinned (OpenSpec.upto rectSubtractSpec)

/-- 'grisaillelaw09.RectUnionIntersect', WHERE WHAT IT READS IS OF BULK AT MOST 1048576: true; the input reads as it did. -/
def rectUnionIntersectUptoRow : OpenClaim := { program := "ytbipanhgjbnljaa", sum := "7ff690bdaa96d9096480cbdf6dc0d4bcce6bef6fd2b1e297a83b6aa8eb7748c3", func := "grisaille/grisaillelaw09.RectUnionIntersect", spec := "rectUnionIntersect", apart := false, narrowed := true }
def RectUnionIntersectUptoSaid : Prop := rectUnionIntersectUptoRow.holds Try.pinned (OpenSpec.upto rectUnionIntersectSpec)

end Rows
end Go.Proofs.Ytbipanhgjbnljaa
