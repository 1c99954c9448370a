/-
  No cell of these rows narrows 'for every input' (looked for: loops, veiled, ifaces, maps, wideKeys, modest, calm, conditions, laid).
  DERIVED. THE GIVEN ROWS OF THIS SEAT. 10 by the template 'for every input the law returns true; each argument reads behind the call as it read before'; 0 by the template 'total and deterministic' (their statements: YtbplcgbfhijbcaaTotals.lean).
  GIVEN WITH THE SEED: the statements are not yours to turn. If you find one false, say at which input.
  Laid BY PROGRAM, IN A SANDBOX (cutbox-rows.mjs): the forced cells as the released guide's own fill.sh prints them over the translation be4e5b0350c0edb4… (all of the seat's roots in one cut). By AI agents, Wed Nov 11 2026. No macro, syntax, notation, axiom, sorry.
-/
import Derived.Test.YtbplcgbfhijbcaaChecked
import GoSem.Claim
import GoSem.ClaimJoined
import GoSem.ClaimMapViews
import Derived.JoinedTies
import Derived.KernelRfl
namespace Go.Proofs.Ytbplcgbfhijbcaa
/- THE CELL 'sum', in the pinned program and in every row, IS THE sha256 OF THE DUMP (.gsa) THAT YtbplcgbfhijbcaaProg.lean LOADS. Nothing in Lean hashes anything: it is a label: what it is worth is what the hold of that sum in a sandbox is worth. -/
noncomputable def Try.pinned : Pinned := { name := "ytbplcgbfhijbcaa", sum := "be4e5b0350c0edb42d882dfa116878c112fa9d26f7106e6f7eaa38b81ec28279", checked := Try.checked }
namespace Rows
def none {H : Type} : Left H := { results := [], args := [] }

/-- 'grisaillelaw06.BinencUvarint': WHATEVER THE INPUT: true; the input reads as it did. -/
def binencUvarintSpec : ChangeSpec := { name := "binencUvarint", fn := fun _ => fun
  | [d1, d2, d3] => { results := [.lit (.bool true)], args := [d1, d2, d3] }
  | _ => none }
def binencUvarintRow : OpenClaim := { program := "ytbplcgbfhijbcaa", sum := "be4e5b0350c0edb42d882dfa116878c112fa9d26f7106e6f7eaa38b81ec28279", func := "grisaille/grisaillelaw06.BinencUvarint", spec := "binencUvarint", apart := false }
def BinencUvarintSaid : Prop := binencUvarintRow.holds Try.pinned (OpenSpec.ofChange binencUvarintSpec)

/-- ITS FALSE NEIGHBOUR: 'it returns false'. Refute it at one input. -/
def binencUvarintWrong : ChangeSpec := { name := "binencUvarint", fn := fun _ => fun
  | [d1, d2, d3] => { results := [.lit (.bool false)], args := [d1, d2, d3] }
  | _ => none }
def BinencUvarintWrongFalsely : Prop := binencUvarintRow.holds Try.pinned (OpenSpec.ofChange binencUvarintWrong)

/-- 'grisaillelaw06.BinencVarint': WHATEVER THE INPUT: true; the input reads as it did. -/
def binencVarintSpec : ChangeSpec := { name := "binencVarint", fn := fun _ => fun
  | [d1, d2, d3] => { results := [.lit (.bool true)], args := [d1, d2, d3] }
  | _ => none }
def binencVarintRow : OpenClaim := { program := "ytbplcgbfhijbcaa", sum := "be4e5b0350c0edb42d882dfa116878c112fa9d26f7106e6f7eaa38b81ec28279", func := "grisaille/grisaillelaw06.BinencVarint", spec := "binencVarint", apart := false }
def BinencVarintSaid : Prop := binencVarintRow.holds Try.pinned (OpenSpec.ofChange binencVarintSpec)

/-- ITS FALSE NEIGHBOUR: 'it returns false'. Refute it at one input. -/
def binencVarintWrong : ChangeSpec := { name := "binencVarint", fn := fun _ => fun
  | [d1, d2, d3] => { results := [.lit (.bool false)], args := [d1, d2, d3] }
  | _ => none }
def BinencVarintWrongFalsely : Prop := binencVarintRow.holds Try.pinned (OpenSpec.ofChange binencVarintWrong)

/-- 'grisaillelaw06.BinencBytes': WHATEVER THE INPUT: true; the input reads as it did. -/
def binencBytesSpec : ChangeSpec := { name := "binencBytes", fn := fun _ => fun
  | [d1, d2, d3] => { results := [.lit (.bool true)], args := [d1, d2, d3] }
  | _ => none }
def binencBytesRow : OpenClaim := { program := "ytbplcgbfhijbcaa", sum := "be4e5b0350c0edb42d882dfa116878c112fa9d26f7106e6f7eaa38b81ec28279", func := "grisaille/grisaillelaw06.BinencBytes", spec := "binencBytes", apart := false }
def BinencBytesSaid : Prop := binencBytesRow.holds Try.pinned (OpenSpec.ofChange binencBytesSpec)

/-- ITS FALSE NEIGHBOUR: 'it returns false'. Refute it at one input. -/
def binencBytesWrong : ChangeSpec := { name := "binencBytes", fn := fun _ => fun
  | [d1, d2, d3] => { results := [.lit (.bool false)], args := [d1, d2, d3] }
  | _ => none }
def BinencBytesWrongFalsely : Prop := binencBytesRow.holds Try.pinned (OpenSpec.ofChange binencBytesWrong)

/-- 'grisaillelaw06.BinencRational': WHATEVER THE INPUT: true; the input reads as it did. -/
def binencRationalSpec : ChangeSpec := { name := "binencRational", fn := fun _ => fun
  | [d1, d2, d3] => { results := [.lit (.bool true)], args := [d1, d2, d3] }
  | _ => none }
def binencRationalRow : OpenClaim := { program := "ytbplcgbfhijbcaa", sum := "be4e5b0350c0edb42d882dfa116878c112fa9d26f7106e6f7eaa38b81ec28279", func := "grisaille/grisaillelaw06.BinencRational", spec := "binencRational", apart := false }
def BinencRationalSaid : Prop := binencRationalRow.holds Try.pinned (OpenSpec.ofChange binencRationalSpec)

/-- ITS FALSE NEIGHBOUR: 'it returns false'. Refute it at one input. -/
def binencRationalWrong : ChangeSpec := { name := "binencRational", fn := fun _ => fun
  | [d1, d2, d3] => { results := [.lit (.bool false)], args := [d1, d2, d3] }
  | _ => none }
def BinencRationalWrongFalsely : Prop := binencRationalRow.holds Try.pinned (OpenSpec.ofChange binencRationalWrong)

/-- 'grisaillelaw06.BinencRoundTrip': WHATEVER THE INPUT: true; the input reads as it did. -/
def binencRoundTripSpec : ChangeSpec := { name := "binencRoundTrip", fn := fun _ => fun
  | [d1, d2, d3] => { results := [.lit (.bool true)], args := [d1, d2, d3] }
  | _ => none }
def binencRoundTripRow : OpenClaim := { program := "ytbplcgbfhijbcaa", sum := "be4e5b0350c0edb42d882dfa116878c112fa9d26f7106e6f7eaa38b81ec28279", func := "grisaille/grisaillelaw06.BinencRoundTrip", spec := "binencRoundTrip", apart := false }
def BinencRoundTripSaid : Prop := binencRoundTripRow.holds Try.pinned (OpenSpec.ofChange binencRoundTripSpec)

/-- ITS FALSE NEIGHBOUR: 'it returns false'. Refute it at one input. -/
def binencRoundTripWrong : ChangeSpec := { name := "binencRoundTrip", fn := fun _ => fun
  | [d1, d2, d3] => { results := [.lit (.bool false)], args := [d1, d2, d3] }
  | _ => none }
def BinencRoundTripWrongFalsely : Prop := binencRoundTripRow.holds Try.pinned (OpenSpec.ofChange binencRoundTripWrong)

/-- 'grisaillelaw06.BinencCanonical': WHATEVER THE INPUT: true; the input reads as it did. -/
def binencCanonicalSpec : ChangeSpec := { name := "binencCanonical", fn := fun _ => fun
  | [d1, d2] => { results := [.lit (.bool true)], args := [d1, d2] }
  | _ => none }
def binencCanonicalRow : OpenClaim := { program := "ytbplcgbfhijbcaa", sum := "be4e5b0350c0edb42d882dfa116878c112fa9d26f7106e6f7eaa38b81ec28279", func := "grisaille/grisaillelaw06.BinencCanonical", spec := "binencCanonical", apart := false }
def BinencCanonicalSaid : Prop := binencCanonicalRow.holds Try.pinned (OpenSpec.ofChange binencCanonicalSpec)

/-- ITS FALSE NEIGHBOUR: 'it returns false'. Refute it at one input. -/
def binencCanonicalWrong : ChangeSpec := { name := "binencCanonical", fn := fun _ => fun
  | [d1, d2] => { results := [.lit (.bool false)], args := [d1, d2] }
  | _ => none }
def BinencCanonicalWrongFalsely : Prop := binencCanonicalRow.holds Try.pinned (OpenSpec.ofChange binencCanonicalWrong)

/-- 'grisaillelaw06.BinencInts': WHATEVER THE INPUT: true; the input reads as it did. -/
def binencIntsSpec : ChangeSpec := { name := "binencInts", fn := fun _ => fun
  | [d1, d2, d3] => { results := [.lit (.bool true)], args := [d1, d2, d3] }
  | _ => none }
def binencIntsRow : OpenClaim := { program := "ytbplcgbfhijbcaa", sum := "be4e5b0350c0edb42d882dfa116878c112fa9d26f7106e6f7eaa38b81ec28279", func := "grisaille/grisaillelaw06.BinencInts", spec := "binencInts", apart := false }
def BinencIntsSaid : Prop := binencIntsRow.holds Try.pinned (OpenSpec.ofChange binencIntsSpec)

/-- ITS FALSE NEIGHBOUR: 'it returns false'. Refute it at one input. -/
def binencIntsWrong : ChangeSpec := { name := "binencInts", fn := fun _ => fun
  | [d1, d2, d3] => { results := [.lit (.bool false)], args := [d1, d2, d3] }
  | _ => none }
def BinencIntsWrongFalsely : Prop := binencIntsRow.holds Try.pinned (OpenSpec.ofChange binencIntsWrong)

/-- 'grisaillelaw06.BinencRuns': WHATEVER THE INPUT: true; the input reads as it did. -/
def binencRunsSpec : ChangeSpec := { name := "binencRuns", fn := fun _ => fun
  | [d1, d2, d3] => { results := [.lit (.bool true)], args := [d1, d2, d3] }
  | _ => none }
def binencRunsRow : OpenClaim := { program := "ytbplcgbfhijbcaa", sum := "be4e5b0350c0edb42d882dfa116878c112fa9d26f7106e6f7eaa38b81ec28279", func := "grisaille/grisaillelaw06.BinencRuns", spec := "binencRuns", apart := false }
def BinencRunsSaid : Prop := binencRunsRow.holds Try.pinned (OpenSpec.ofChange binencRunsSpec)

/-- ITS FALSE NEIGHBOUR: 'it returns false'. Refute it at one input. -/
def binencRunsWrong : ChangeSpec := { name := "binencRuns", fn := fun _ => fun
  | [d1, d2, d3] => { results := [.lit (.bool false)], args := [d1, d2, d3] }
  | _ => none }
def BinencRunsWrongFalsely : Prop := binencRunsRow.holds Try.pinned (OpenSpec.ofChange binencRunsWrong)

/-- 'grisaillelaw06.BinencSequences': WHATEVER THE INPUT: true; the input reads as it did. -/
def binencSequencesSpec : ChangeSpec := { name := "binencSequences", fn := fun _ => fun
  | [d1, d2, d3] => { results := [.lit (.bool true)], args := [d1, d2, d3] }
  | _ => none }
def binencSequencesRow : OpenClaim := { program := "ytbplcgbfhijbcaa", sum := "be4e5b0350c0edb42d882dfa116878c112fa9d26f7106e6f7eaa38b81ec28279", func := "grisaille/grisaillelaw06.BinencSequences", spec := "binencSequences", apart := false }
def BinencSequencesSaid : Prop := binencSequencesRow.holds Try.pinned (OpenSpec.ofChange binencSequencesSpec)

/-- ITS FALSE NEIGHBOUR: 'it returns false'. Refute it at one input. -/
def binencSequencesWrong : ChangeSpec := { name := "binencSequences", fn := fun _ => fun
  | [d1, d2, d3] => { results := [.lit (.bool false)], args := [d1, d2, d3] }
  | _ => none }
def BinencSequencesWrongFalsely : Prop := binencSequencesRow.holds Try.pinned (OpenSpec.ofChange binencSequencesWrong)

/-- 'grisaillelaw06.BinencSequencesCanonical': WHATEVER THE INPUT: true; the input reads as it did. -/
def binencSequencesCanonicalSpec : ChangeSpec := { name := "binencSequencesCanonical", fn := fun _ => fun
  | [d1, d2] => { results := [.lit (.bool true)], args := [d1, d2] }
  | _ => none }
def binencSequencesCanonicalRow : OpenClaim := { program := "ytbplcgbfhijbcaa", sum := "be4e5b0350c0edb42d882dfa116878c112fa9d26f7106e6f7eaa38b81ec28279", func := "grisaille/grisaillelaw06.BinencSequencesCanonical", spec := "binencSequencesCanonical", apart := false }
def BinencSequencesCanonicalSaid : Prop := binencSequencesCanonicalRow.holds Try.pinned (OpenSpec.ofChange binencSequencesCanonicalSpec)

/-- ITS FALSE NEIGHBOUR: 'it returns false'. Refute it at one input. -/
def binencSequencesCanonicalWrong : ChangeSpec := { name := "binencSequencesCanonical", fn := fun _ => fun
  | [d1, d2] => { results := [.lit (.bool false)], args := [d1, d2] }
  | _ => none }
def BinencSequencesCanonicalWrongFalsely : Prop := binencSequencesCanonicalRow.holds Try.pinned (OpenSpec.ofChange binencSequencesCanonicalWrong)

/- THE SECOND FORM. 'bulk': how many values and letters a reading holds, each counted each time it is reached (what is shared counts as often as it is met; a slice's spare places count too). A statement '..UptoSaid' is the law's where the arguments, and the package variables that the reading takes, are together of bulk at most 1048576: NARROWER than '..Said'. Prove '..Said' where nothing that the law and all that it calls make is longer than what came in: it says more and counts as full. Else prove '..UptoSaid'. A law counts once. -/
mutual
def uptoBulk {H : Type} : DataW H → Nat
  | .lit (.string bytes) => bytes.length + 1
  | .lit _ => 1
  | .nil => 1
  | .ptr d => uptoBulk d + 1
  | .slice elems spare => uptoBulkAll elems + uptoBulkAll spare + 1
  | .agg parts => uptoBulkAll parts + 1
  | .iface _ d => uptoBulk d + 1
  | .map entries => uptoBulkEntries entries + 1
  | .held _ => 1
def uptoBulkAll {H : Type} : List (DataW H) → Nat
  | [] => 0
  | d :: r => uptoBulk d + uptoBulkAll r
def uptoBulkEntries {H : Type} : List (Lit × DataW H) → Nat
  | [] => 0
  | x :: r => uptoBulkEntry x + uptoBulkEntries r
def uptoBulkEntry {H : Type} : Lit × DataW H → Nat
  | (.string bytes, d) => bytes.length + uptoBulk d + 1
  | (_, d) => uptoBulk d + 1
 end
def uptoSmall : (H : Type) → List (DataW H) → Bool := fun _ ds => decide (uptoBulkAll ds ≤ 1048576)
def OpenSpec.upto (s : _root_.Go.ChangeSpec) : _root_.Go.OpenSpec := { _root_.Go.OpenSpec.ofChange s with cond := some uptoSmall }

/-- 'grisaillelaw06.BinencUvarint', WHERE WHAT IT READS IS OF BULK AT MOST 1048576: true; the input reads as it did. -/
def binencUvarintUptoRow : OpenClaim := { program := "ytbplcgbfhijbcaa", sum := "be4e5b0350c0edb42d882dfa116878c112fa9d26f7106e6f7eaa38b81ec28279", func := "grisaille/grisaillelaw06.BinencUvarint", spec := "binencUvarint", apart := false, narrowed := true }
def BinencUvarintUptoSaid : Prop := binencUvarintUptoRow.holds Try.pinned (OpenSpec.upto binencUvarintSpec)

/-- 'grisaillelaw06.BinencVarint', WHERE WHAT IT READS IS OF BULK AT MOST 1048576: true; the input reads as it did. -/
def binencVarintUptoRow : OpenClaim := { program := "ytbplcgbfhijbcaa", sum := "be4e5b0350c0edb42d882dfa116878c112fa9d26f7106e6f7eaa38b81ec28279", func := "grisaille/grisaillelaw06.BinencVarint", spec := "binencVarint", apart := false, narrowed := true }
def BinencVarintUptoSaid : Prop := binencVarintUptoRow.holds Try.pinned (OpenSpec.upto binencVarintSpec)

/-- 'grisaillelaw06.BinencBytes', WHERE WHAT IT READS IS OF BULK AT MOST 1048576: true; the input reads as it did. -/
def binencBytesUptoRow : OpenClaim := { program := "ytbplcgbfhijbcaa", sum := "be4e5b0350c0edb42d882dfa116878c112fa9d26f7106e6f7eaa38b81ec28279", func := "grisaille/grisaillelaw06.BinencBytes", spec := "binencBytes", apart := false, narrowed := true }
def BinencBytesUptoSaid : Prop := binencBytesUptoRow.holds Try.pinned (OpenSpec.upto binencBytesSpec)

/-- 'grisaillelaw06.BinencRational', WHERE WHAT IT READS IS OF BULK AT MOST 1048576: true; the input reads as it did. -/
def binencRationalUptoRow : OpenClaim := { program := "ytbplcgbfhijbcaa", sum := "be4e5b0350c0edb42d882dfa116878c112fa9d26f7106e6f7eaa38b81ec28279", func := "grisaille/grisaillelaw06.BinencRational", spec := "binencRational", apart := false, narrowed := true }
def BinencRationalUptoSaid : Prop := binencRationalUptoRow.holds Try.pinned (OpenSpec.upto binencRationalSpec)

/-- 'grisaillelaw06.BinencRoundTrip', WHERE WHAT IT READS IS OF BULK AT MOST 1048576: true; the input reads as it did. -/
def binencRoundTripUptoRow : OpenClaim := { program := "ytbplcgbfhijbcaa", sum := "be4e5b0350c0edb42d882dfa116878c112fa9d26f7106e6f7eaa38b81ec28279", func := "grisaille/grisaillelaw06.BinencRoundTrip", spec := "binencRoundTrip", apart := false, narrowed := true }
def BinencRoundTripUptoSaid : Prop := binencRoundTripUptoRow.holds Try.pinned (OpenSpec.upto binencRoundTripSpec)

/-- 'grisaillelaw06.BinencCanonical', WHERE WHAT IT READS IS OF BULK AT MOST 1048576: true; the input reads as it did. -/
def binencCanonicalUptoRow : OpenClaim := { program := "ytbplcgbfhijbcaa", sum := "be4e5b0350c0edb42d882dfa116878c112fa9d26f7106e6f7eaa38b81ec28279", func := "grisaille/grisaillelaw06.BinencCanonical", spec := "binencCanonical", apart := false, narrowed := true }
def BinencCanonicalUptoSaid : Prop := binencCanonicalUptoRow.holds Try.pinned (OpenSpec.upto binencCanonicalSpec)

/-- 'grisaillelaw06.BinencInts', WHERE WHAT IT READS IS OF BULK AT MOST 1048576: true; the input reads as it did. -/
def binencIntsUptoRow : OpenClaim := { program := "ytbplcgbfhijbcaa", sum := "be4e5b0350c0edb42d882dfa116878c112fa9d26f7106e6f7eaa38b81ec28279", func := "grisaille/grisaillelaw06.BinencInts", spec := "binencInts", apart := false, narrowed := true }
def BinencIntsUptoSaid : Prop := binencIntsUptoRow.holds Try.pinned (OpenSpec.upto binencIntsSpec)

/-- 'grisaillelaw06.BinencRuns', WHERE WHAT IT READS IS OF BULK AT MOST 1048576: true; the input reads as it did. -/
def binencRunsUptoRow : OpenClaim := { program := "ytbplcgbfhijbcaa", sum := "be4e5b0350c0edb42d882dfa116878c112fa9d26f7106e6f7eaa38b81ec28279", func := "grisaille/grisaillelaw06.BinencRuns", spec := "binencRuns", apart := false, narrowed := true }
def BinencRunsUptoSaid : Prop := binencRunsUptoRow.holds Try.pinned (OpenSpec.upto binencRunsSpec)

/-- 'grisaillelaw06.BinencSequences', WHERE WHAT IT READS IS OF BULK AT MOST 1048576: true; the input reads as it did. -/
def binencSequencesUptoRow : OpenClaim := { program := "ytbplcgbfhijbcaa", sum := "be4e5b0350c0edb42d882dfa116878c112fa9d26f7106e6f7eaa38b81ec28279", func := "grisaille/grisaillelaw06.BinencSequences", spec := "binencSequences", apart := false, narrowed := true }
def BinencSequencesUptoSaid : Prop := binencSequencesUptoRow.holds Try.pinned (OpenSpec.upto binencSequencesSpec)

/-- 'grisaillelaw06.BinencSequencesCanonical', WHERE WHAT IT READS IS OF BULK AT MOST 1048576: true; the input reads as it did. -/
def binencSequencesCanonicalUptoRow : OpenClaim := { program := "ytbplcgbfhijbcaa", sum := "be4e5b0350c0edb42d882dfa116878c112fa9d26f7106e6f7eaa38b81ec28279", func := "grisaille/grisaillelaw06.BinencSequencesCanonical", spec := "binencSequencesCanonical", apart := false, narrowed := true }
def BinencSequencesCanonicalUptoSaid : Prop := binencSequencesCanonicalUptoRow.holds Try.pinned (OpenSpec.upto binencSequencesCanonicalSpec)

end Rows
end Go.Proofs.Ytbplcgbfhijbcaa
