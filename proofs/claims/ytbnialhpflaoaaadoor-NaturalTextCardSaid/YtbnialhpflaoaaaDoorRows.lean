/-
  NARROWER THAN 'FOR EVERY INPUT', by the rows' own cells (each row's printed sentence says how): NaturalBasics: laid · NaturalArithmetic: laid · NaturalDivMod: laid · NaturalGCD: laid · NaturalShift: laid · NaturalSqrt: laid · NaturalText: laid · NaturalRoundTrip: laid · NaturalRingLaws: laid.
  DERIVED. THE GIVEN ROWS OF THIS SEAT. 9 by the template 'for every input the law returns true; each argument reads behind the call as it read before'; 0 by the template 'total and deterministic' (their statements: YtbnialhpflaoaaaDoorTotals.lean).
  GIVEN WITH THE SEED: the statements are not yours to turn. If you find one false, say at which input.
  Laid BY PROGRAM, IN A SANDBOX (cutbox-rows.mjs): the forced cells as the released guide's own fill.sh prints them over the translation 6a66a0edf48ab2a2… (all of the seat's roots in one cut). By AI agents, Wed Nov 11 2026. No macro, syntax, notation, axiom, sorry.
-/
import Derived.Test.YtbnialhpflaoaaaDoorChecked
import GoSem.Claim
import GoSem.ClaimJoined
import GoSem.ClaimMapViews
import Derived.JoinedTies
import Derived.KernelRfl
namespace Go.Proofs.YtbnialhpflaoaaaDoor
/- THE CELL 'sum', in the pinned program and in every row, IS THE sha256 OF THE DUMP (.gsa) THAT YtbnialhpflaoaaaDoorProg.lean LOADS. Nothing in Lean hashes anything: it is a label: what it is worth is what the hold of that sum in a sandbox is worth. -/
noncomputable def Tryd.pinned : Pinned := { name := "ytbnialhpflaoaaadoor", sum := "6a66a0edf48ab2a20f3b3f5640e9708ca0e98768595ecdccdc73ef0e3cc3713c", checked := Tryd.checked }
namespace Rows
def none {H : Type} : Left H := { results := [], args := [] }

/- WHAT THE LISTED PACKAGE-LEVEL VARIABLES READ AS WHEN THE CALL BEGINS. Each datum BY PROGRAM (the guide's laid-datum.mjs) off the statement by which the dump's own 'gosem.cut.vars' lays the variable. In a bare row this is a premise. The card (YtbnialhpflaoaaaDoorCards.lean) ties it to the program's text. -/
def laid_math_bits_deBruijn32tab {H : Type} : DataW H := .agg [.lit (.int .u8 0), .lit (.int .u8 1), .lit (.int .u8 28), .lit (.int .u8 2), .lit (.int .u8 29), .lit (.int .u8 14), .lit (.int .u8 24), .lit (.int .u8 3), .lit (.int .u8 30), .lit (.int .u8 22), .lit (.int .u8 20), .lit (.int .u8 15), .lit (.int .u8 25), .lit (.int .u8 17), .lit (.int .u8 4), .lit (.int .u8 8), .lit (.int .u8 31), .lit (.int .u8 27), .lit (.int .u8 13), .lit (.int .u8 23), .lit (.int .u8 21), .lit (.int .u8 19), .lit (.int .u8 16), .lit (.int .u8 7), .lit (.int .u8 26), .lit (.int .u8 12), .lit (.int .u8 18), .lit (.int .u8 6), .lit (.int .u8 11), .lit (.int .u8 5), .lit (.int .u8 10), .lit (.int .u8 9)]
def laid_math_bits_deBruijn64tab {H : Type} : DataW H := .agg [.lit (.int .u8 0), .lit (.int .u8 1), .lit (.int .u8 56), .lit (.int .u8 2), .lit (.int .u8 57), .lit (.int .u8 49), .lit (.int .u8 28), .lit (.int .u8 3), .lit (.int .u8 61), .lit (.int .u8 58), .lit (.int .u8 42), .lit (.int .u8 50), .lit (.int .u8 38), .lit (.int .u8 29), .lit (.int .u8 17), .lit (.int .u8 4), .lit (.int .u8 62), .lit (.int .u8 47), .lit (.int .u8 59), .lit (.int .u8 36), .lit (.int .u8 45), .lit (.int .u8 43), .lit (.int .u8 51), .lit (.int .u8 22), .lit (.int .u8 53), .lit (.int .u8 39), .lit (.int .u8 33), .lit (.int .u8 30), .lit (.int .u8 24), .lit (.int .u8 18), .lit (.int .u8 12), .lit (.int .u8 5), .lit (.int .u8 63), .lit (.int .u8 55), .lit (.int .u8 48), .lit (.int .u8 27), .lit (.int .u8 60), .lit (.int .u8 41), .lit (.int .u8 37), .lit (.int .u8 16), .lit (.int .u8 46), .lit (.int .u8 35), .lit (.int .u8 44), .lit (.int .u8 21), .lit (.int .u8 52), .lit (.int .u8 32), .lit (.int .u8 23), .lit (.int .u8 11), .lit (.int .u8 54), .lit (.int .u8 26), .lit (.int .u8 40), .lit (.int .u8 15), .lit (.int .u8 34), .lit (.int .u8 20), .lit (.int .u8 31), .lit (.int .u8 10), .lit (.int .u8 25), .lit (.int .u8 14), .lit (.int .u8 19), .lit (.int .u8 9), .lit (.int .u8 13), .lit (.int .u8 8), .lit (.int .u8 7), .lit (.int .u8 6)]
def laid_internal_strconv_uint64pow10 {H : Type} : DataW H := .agg [.lit (.int .u64 1), .lit (.int .u64 10), .lit (.int .u64 100), .lit (.int .u64 1000), .lit (.int .u64 10000), .lit (.int .u64 100000), .lit (.int .u64 1000000), .lit (.int .u64 10000000), .lit (.int .u64 100000000), .lit (.int .u64 1000000000), .lit (.int .u64 10000000000), .lit (.int .u64 100000000000), .lit (.int .u64 1000000000000), .lit (.int .u64 10000000000000), .lit (.int .u64 100000000000000), .lit (.int .u64 1000000000000000), .lit (.int .u64 10000000000000000), .lit (.int .u64 100000000000000000), .lit (.int .u64 1000000000000000000), .lit (.int .u64 10000000000000000000)]

/-- 'grisaillelaw01.NaturalBasics': WHATEVER THE INPUT: true; the input reads as it did. -/
def naturalBasicsSpec : ChangeSpec := { name := "naturalBasics", fn := fun _ => fun
  | [d1, d2, d3] => { results := [.lit (.bool true)], args := [d1, d2, d3] }
  | _ => none }
def naturalBasicsRow : OpenClaim := { program := "ytbnialhpflaoaaadoor", sum := "6a66a0edf48ab2a20f3b3f5640e9708ca0e98768595ecdccdc73ef0e3cc3713c", func := "grisaille/grisaillelaw01.NaturalBasics", spec := "naturalBasics", inPlace := ["internal/abi.NoEscape", "internal/bytealg.MakeNoZero"], named := ["internal/strconv.uint64pow10", "math/bits.deBruijn32tab", "math/bits.deBruijn64tab"], apart := false, laid := [("math/bits.deBruijn32tab", laid_math_bits_deBruijn32tab), ("math/bits.deBruijn64tab", laid_math_bits_deBruijn64tab), ("internal/strconv.uint64pow10", laid_internal_strconv_uint64pow10)] }
def NaturalBasicsSaid : Prop := naturalBasicsRow.holds Tryd.pinned (OpenSpec.ofChange naturalBasicsSpec)

/-- ITS FALSE NEIGHBOUR: 'it returns false'. Refute it at one input. -/
def naturalBasicsWrong : ChangeSpec := { name := "naturalBasics", fn := fun _ => fun
  | [d1, d2, d3] => { results := [.lit (.bool false)], args := [d1, d2, d3] }
  | _ => none }
def NaturalBasicsWrongFalsely : Prop := naturalBasicsRow.holds Tryd.pinned (OpenSpec.ofChange naturalBasicsWrong)

/-- 'grisaillelaw01.NaturalArithmetic': WHATEVER THE INPUT: true; the input reads as it did. -/
def naturalArithmeticSpec : ChangeSpec := { name := "naturalArithmetic", fn := fun _ => fun
  | [d1, d2] => { results := [.lit (.bool true)], args := [d1, d2] }
  | _ => none }
def naturalArithmeticRow : OpenClaim := { program := "ytbnialhpflaoaaadoor", sum := "6a66a0edf48ab2a20f3b3f5640e9708ca0e98768595ecdccdc73ef0e3cc3713c", func := "grisaille/grisaillelaw01.NaturalArithmetic", spec := "naturalArithmetic", inPlace := ["internal/abi.NoEscape", "internal/bytealg.MakeNoZero"], named := ["internal/strconv.uint64pow10", "math/bits.deBruijn32tab", "math/bits.deBruijn64tab"], apart := false, laid := [("math/bits.deBruijn32tab", laid_math_bits_deBruijn32tab), ("math/bits.deBruijn64tab", laid_math_bits_deBruijn64tab), ("internal/strconv.uint64pow10", laid_internal_strconv_uint64pow10)] }
def NaturalArithmeticSaid : Prop := naturalArithmeticRow.holds Tryd.pinned (OpenSpec.ofChange naturalArithmeticSpec)

/-- ITS FALSE NEIGHBOUR: 'it returns false'. Refute it at one input. -/
def naturalArithmeticWrong : ChangeSpec := { name := "naturalArithmetic", fn := fun _ => fun
  | [d1, d2] => { results := [.lit (.bool false)], args := [d1, d2] }
  | _ => none }
def NaturalArithmeticWrongFalsely : Prop := naturalArithmeticRow.holds Tryd.pinned (OpenSpec.ofChange naturalArithmeticWrong)

/-- 'grisaillelaw01.NaturalDivMod': WHATEVER THE INPUT: true; the input reads as it did. -/
def naturalDivModSpec : ChangeSpec := { name := "naturalDivMod", fn := fun _ => fun
  | [d1, d2] => { results := [.lit (.bool true)], args := [d1, d2] }
  | _ => none }
def naturalDivModRow : OpenClaim := { program := "ytbnialhpflaoaaadoor", sum := "6a66a0edf48ab2a20f3b3f5640e9708ca0e98768595ecdccdc73ef0e3cc3713c", func := "grisaille/grisaillelaw01.NaturalDivMod", spec := "naturalDivMod", inPlace := ["internal/abi.NoEscape", "internal/bytealg.MakeNoZero"], named := ["internal/strconv.uint64pow10", "math/bits.deBruijn32tab", "math/bits.deBruijn64tab"], apart := false, laid := [("math/bits.deBruijn32tab", laid_math_bits_deBruijn32tab), ("math/bits.deBruijn64tab", laid_math_bits_deBruijn64tab), ("internal/strconv.uint64pow10", laid_internal_strconv_uint64pow10)] }
def NaturalDivModSaid : Prop := naturalDivModRow.holds Tryd.pinned (OpenSpec.ofChange naturalDivModSpec)

/-- ITS FALSE NEIGHBOUR: 'it returns false'. Refute it at one input. -/
def naturalDivModWrong : ChangeSpec := { name := "naturalDivMod", fn := fun _ => fun
  | [d1, d2] => { results := [.lit (.bool false)], args := [d1, d2] }
  | _ => none }
def NaturalDivModWrongFalsely : Prop := naturalDivModRow.holds Tryd.pinned (OpenSpec.ofChange naturalDivModWrong)

/-- 'grisaillelaw01.NaturalGCD': WHATEVER THE INPUT: true; the input reads as it did. -/
def naturalGCDSpec : ChangeSpec := { name := "naturalGCD", fn := fun _ => fun
  | [d1, d2, d3] => { results := [.lit (.bool true)], args := [d1, d2, d3] }
  | _ => none }
def naturalGCDRow : OpenClaim := { program := "ytbnialhpflaoaaadoor", sum := "6a66a0edf48ab2a20f3b3f5640e9708ca0e98768595ecdccdc73ef0e3cc3713c", func := "grisaille/grisaillelaw01.NaturalGCD", spec := "naturalGCD", inPlace := ["internal/abi.NoEscape", "internal/bytealg.MakeNoZero"], named := ["internal/strconv.uint64pow10", "math/bits.deBruijn32tab", "math/bits.deBruijn64tab"], apart := false, laid := [("math/bits.deBruijn32tab", laid_math_bits_deBruijn32tab), ("math/bits.deBruijn64tab", laid_math_bits_deBruijn64tab), ("internal/strconv.uint64pow10", laid_internal_strconv_uint64pow10)] }
def NaturalGCDSaid : Prop := naturalGCDRow.holds Tryd.pinned (OpenSpec.ofChange naturalGCDSpec)

/-- ITS FALSE NEIGHBOUR: 'it returns false'. Refute it at one input. -/
def naturalGCDWrong : ChangeSpec := { name := "naturalGCD", fn := fun _ => fun
  | [d1, d2, d3] => { results := [.lit (.bool false)], args := [d1, d2, d3] }
  | _ => none }
def NaturalGCDWrongFalsely : Prop := naturalGCDRow.holds Tryd.pinned (OpenSpec.ofChange naturalGCDWrong)

/-- 'grisaillelaw01.NaturalShift': WHATEVER THE INPUT: true; the input reads as it did. -/
def naturalShiftSpec : ChangeSpec := { name := "naturalShift", fn := fun _ => fun
  | [d1, d2, d3] => { results := [.lit (.bool true)], args := [d1, d2, d3] }
  | _ => none }
def naturalShiftRow : OpenClaim := { program := "ytbnialhpflaoaaadoor", sum := "6a66a0edf48ab2a20f3b3f5640e9708ca0e98768595ecdccdc73ef0e3cc3713c", func := "grisaille/grisaillelaw01.NaturalShift", spec := "naturalShift", inPlace := ["internal/abi.NoEscape", "internal/bytealg.MakeNoZero"], named := ["internal/strconv.uint64pow10", "math/bits.deBruijn32tab", "math/bits.deBruijn64tab"], apart := false, laid := [("math/bits.deBruijn32tab", laid_math_bits_deBruijn32tab), ("math/bits.deBruijn64tab", laid_math_bits_deBruijn64tab), ("internal/strconv.uint64pow10", laid_internal_strconv_uint64pow10)] }
def NaturalShiftSaid : Prop := naturalShiftRow.holds Tryd.pinned (OpenSpec.ofChange naturalShiftSpec)

/-- ITS FALSE NEIGHBOUR: 'it returns false'. Refute it at one input. -/
def naturalShiftWrong : ChangeSpec := { name := "naturalShift", fn := fun _ => fun
  | [d1, d2, d3] => { results := [.lit (.bool false)], args := [d1, d2, d3] }
  | _ => none }
def NaturalShiftWrongFalsely : Prop := naturalShiftRow.holds Tryd.pinned (OpenSpec.ofChange naturalShiftWrong)

/-- 'grisaillelaw01.NaturalSqrt': WHATEVER THE INPUT: true; the input reads as it did. -/
def naturalSqrtSpec : ChangeSpec := { name := "naturalSqrt", fn := fun _ => fun
  | [d] => { results := [.lit (.bool true)], args := [d] }
  | _ => none }
def naturalSqrtRow : OpenClaim := { program := "ytbnialhpflaoaaadoor", sum := "6a66a0edf48ab2a20f3b3f5640e9708ca0e98768595ecdccdc73ef0e3cc3713c", func := "grisaille/grisaillelaw01.NaturalSqrt", spec := "naturalSqrt", inPlace := ["internal/abi.NoEscape", "internal/bytealg.MakeNoZero"], named := ["internal/strconv.uint64pow10", "math/bits.deBruijn32tab", "math/bits.deBruijn64tab"], apart := false, laid := [("math/bits.deBruijn32tab", laid_math_bits_deBruijn32tab), ("math/bits.deBruijn64tab", laid_math_bits_deBruijn64tab), ("internal/strconv.uint64pow10", laid_internal_strconv_uint64pow10)] }
def NaturalSqrtSaid : Prop := naturalSqrtRow.holds Tryd.pinned (OpenSpec.ofChange naturalSqrtSpec)

/-- ITS FALSE NEIGHBOUR: 'it returns false'. Refute it at one input. -/
def naturalSqrtWrong : ChangeSpec := { name := "naturalSqrt", fn := fun _ => fun
  | [d] => { results := [.lit (.bool false)], args := [d] }
  | _ => none }
def NaturalSqrtWrongFalsely : Prop := naturalSqrtRow.holds Tryd.pinned (OpenSpec.ofChange naturalSqrtWrong)

/-- 'grisaillelaw01.NaturalText': WHATEVER THE INPUT: true; the input reads as it did. -/
def naturalTextSpec : ChangeSpec := { name := "naturalText", fn := fun _ => fun
  | [d1, d2] => { results := [.lit (.bool true)], args := [d1, d2] }
  | _ => none }
def naturalTextRow : OpenClaim := { program := "ytbnialhpflaoaaadoor", sum := "6a66a0edf48ab2a20f3b3f5640e9708ca0e98768595ecdccdc73ef0e3cc3713c", func := "grisaille/grisaillelaw01.NaturalText", spec := "naturalText", inPlace := ["internal/abi.NoEscape", "internal/bytealg.MakeNoZero"], named := ["internal/strconv.uint64pow10", "math/bits.deBruijn32tab", "math/bits.deBruijn64tab"], apart := false, laid := [("math/bits.deBruijn32tab", laid_math_bits_deBruijn32tab), ("math/bits.deBruijn64tab", laid_math_bits_deBruijn64tab), ("internal/strconv.uint64pow10", laid_internal_strconv_uint64pow10)] }
def NaturalTextSaid : Prop := naturalTextRow.holds Tryd.pinned (OpenSpec.ofChange naturalTextSpec)

/-- ITS FALSE NEIGHBOUR: 'it returns false'. Refute it at one input. -/
def naturalTextWrong : ChangeSpec := { name := "naturalText", fn := fun _ => fun
  | [d1, d2] => { results := [.lit (.bool false)], args := [d1, d2] }
  | _ => none }
def NaturalTextWrongFalsely : Prop := naturalTextRow.holds Tryd.pinned (OpenSpec.ofChange naturalTextWrong)

/-- 'grisaillelaw01.NaturalRoundTrip': WHATEVER THE INPUT: true; the input reads as it did. -/
def naturalRoundTripSpec : ChangeSpec := { name := "naturalRoundTrip", fn := fun _ => fun
  | [d1, d2] => { results := [.lit (.bool true)], args := [d1, d2] }
  | _ => none }
def naturalRoundTripRow : OpenClaim := { program := "ytbnialhpflaoaaadoor", sum := "6a66a0edf48ab2a20f3b3f5640e9708ca0e98768595ecdccdc73ef0e3cc3713c", func := "grisaille/grisaillelaw01.NaturalRoundTrip", spec := "naturalRoundTrip", inPlace := ["internal/abi.NoEscape", "internal/bytealg.MakeNoZero"], named := ["internal/strconv.uint64pow10", "math/bits.deBruijn32tab", "math/bits.deBruijn64tab"], apart := false, laid := [("math/bits.deBruijn32tab", laid_math_bits_deBruijn32tab), ("math/bits.deBruijn64tab", laid_math_bits_deBruijn64tab), ("internal/strconv.uint64pow10", laid_internal_strconv_uint64pow10)] }
def NaturalRoundTripSaid : Prop := naturalRoundTripRow.holds Tryd.pinned (OpenSpec.ofChange naturalRoundTripSpec)

/-- ITS FALSE NEIGHBOUR: 'it returns false'. Refute it at one input. -/
def naturalRoundTripWrong : ChangeSpec := { name := "naturalRoundTrip", fn := fun _ => fun
  | [d1, d2] => { results := [.lit (.bool false)], args := [d1, d2] }
  | _ => none }
def NaturalRoundTripWrongFalsely : Prop := naturalRoundTripRow.holds Tryd.pinned (OpenSpec.ofChange naturalRoundTripWrong)

/-- 'grisaillelaw01.NaturalRingLaws': WHATEVER THE INPUT: true; the input reads as it did. -/
def naturalRingLawsSpec : ChangeSpec := { name := "naturalRingLaws", fn := fun _ => fun
  | [d1, d2, d3] => { results := [.lit (.bool true)], args := [d1, d2, d3] }
  | _ => none }
def naturalRingLawsRow : OpenClaim := { program := "ytbnialhpflaoaaadoor", sum := "6a66a0edf48ab2a20f3b3f5640e9708ca0e98768595ecdccdc73ef0e3cc3713c", func := "grisaille/grisaillelaw01.NaturalRingLaws", spec := "naturalRingLaws", inPlace := ["internal/abi.NoEscape", "internal/bytealg.MakeNoZero"], named := ["internal/strconv.uint64pow10", "math/bits.deBruijn32tab", "math/bits.deBruijn64tab"], apart := false, laid := [("math/bits.deBruijn32tab", laid_math_bits_deBruijn32tab), ("math/bits.deBruijn64tab", laid_math_bits_deBruijn64tab), ("internal/strconv.uint64pow10", laid_internal_strconv_uint64pow10)] }
def NaturalRingLawsSaid : Prop := naturalRingLawsRow.holds Tryd.pinned (OpenSpec.ofChange naturalRingLawsSpec)

/-- ITS FALSE NEIGHBOUR: 'it returns false'. Refute it at one input. -/
def naturalRingLawsWrong : ChangeSpec := { name := "naturalRingLaws", fn := fun _ => fun
  | [d1, d2, d3] => { results := [.lit (.bool false)], args := [d1, d2, d3] }
  | _ => none }
def NaturalRingLawsWrongFalsely : Prop := naturalRingLawsRow.holds Tryd.pinned (OpenSpec.ofChange naturalRingLawsWrong)

/- THE SECOND FORM. 'bulk': how many values and letters a reading holds, each counted each time it is reached (what is shared counts as often as it is met; a slice's spare places count too). A statement '..UptoSaid' is the law's where the arguments, and the package variables that the reading takes, are together of bulk at most 1048576: NARROWER than '..Said'. Prove '..Said' where nothing that the law and all that it calls make is longer than what came in: it says more and counts as full. Else prove '..UptoSaid'. A law counts once. -/
mutual
def uptoBulk {H : Type} : DataW H → Nat
  | .lit (.string bytes) => bytes.length + 1
  | .lit _ => 1
  | .nil => 1
  | .ptr d => uptoBulk d + 1
  | .slice elems spare => uptoBulkAll elems + uptoBulkAll spare + 1
  | .agg parts => uptoBulkAll parts + 1
  | .iface _ d => uptoBulk d + 1
  | .map entries => uptoBulkEntries entries + 1
  | .held _ => 1
def uptoBulkAll {H : Type} : List (DataW H) → Nat
  | [] => 0
  | d :: r => uptoBulk d + uptoBulkAll r
def uptoBulkEntries {H : Type} : List (Lit × DataW H) → Nat
  | [] => 0
  | x :: r => uptoBulkEntry x + uptoBulkEntries r
def uptoBulkEntry {H : Type} : Lit × DataW H → Nat
  | (.string bytes, d) => bytes.length + uptoBulk d + 1
  | (_, d) => uptoBulk d + 1
 end
def uptoSmall : (H : Type) → List (DataW H) → Bool := fun _ ds => decide (uptoBulkAll ds ≤ 1048576)
def OpenSpec.upto (s : _root_.Go.ChangeSpec) : _root_.Go.OpenSpec := { _root_.Go.OpenSpec.ofChange s with cond := some uptoSmall }

/-- 'grisaillelaw01.NaturalBasics', WHERE WHAT IT READS IS OF BULK AT MOST 1048576: true; the input reads as it did. -/
def naturalBasicsUptoRow : OpenClaim := { program := "ytbnialhpflaoaaadoor", sum := "6a66a0edf48ab2a20f3b3f5640e9708ca0e98768595ecdccdc73ef0e3cc3713c", func := "grisaille/grisaillelaw01.NaturalBasics", spec := "naturalBasics", inPlace := ["internal/abi.NoEscape", "internal/bytealg.MakeNoZero"], named := ["internal/strconv.uint64pow10", "math/bits.deBruijn32tab", "math/bits.deBruijn64tab"], apart := false, laid := [("math/bits.deBruijn32tab", laid_math_bits_deBruijn32tab), ("math/bits.deBruijn64tab", laid_math_bits_deBruijn64tab), ("internal/strconv.uint64pow10", laid_internal_strconv_uint64pow10)], narrowed := true }
def NaturalBasicsUptoSaid : Prop := naturalBasicsUptoRow.holds Tryd.pinned (OpenSpec.upto naturalBasicsSpec)

/-- 'grisaillelaw01.NaturalArithmetic', WHERE WHAT IT READS IS OF BULK AT MOST 1048576: true; the input reads as it did. -/
def naturalArithmeticUptoRow : OpenClaim := { program := "ytbnialhpflaoaaadoor", sum := "6a66a0edf48ab2a20f3b3f5640e9708ca0e98768595ecdccdc73ef0e3cc3713c", func := "grisaille/grisaillelaw01.NaturalArithmetic", spec := "naturalArithmetic", inPlace := ["internal/abi.NoEscape", "internal/bytealg.MakeNoZero"], named := ["internal/strconv.uint64pow10", "math/bits.deBruijn32tab", "math/bits.deBruijn64tab"], apart := false, laid := [("math/bits.deBruijn32tab", laid_math_bits_deBruijn32tab), ("math/bits.deBruijn64tab", laid_math_bits_deBruijn64tab), ("internal/strconv.uint64pow10", laid_internal_strconv_uint64pow10)], narrowed := true }
def NaturalArithmeticUptoSaid : Prop := naturalArithmeticUptoRow.holds Tryd.pinned (OpenSpec.upto naturalArithmeticSpec)

/-- 'grisaillelaw01.NaturalDivMod', WHERE WHAT IT READS IS OF BULK AT MOST 1048576: true; the input reads as it did. -/
def naturalDivModUptoRow : OpenClaim := { program := "ytbnialhpflaoaaadoor", sum := "6a66a0edf48ab2a20f3b3f5640e9708ca0e98768595ecdccdc73ef0e3cc3713c", func := "grisaille/grisaillelaw01.NaturalDivMod", spec := "naturalDivMod", inPlace := ["internal/abi.NoEscape", "internal/bytealg.MakeNoZero"], named := ["internal/strconv.uint64pow10", "math/bits.deBruijn32tab", "math/bits.deBruijn64tab"], apart := false, laid := [("math/bits.deBruijn32tab", laid_math_bits_deBruijn32tab), ("math/bits.deBruijn64tab", laid_math_bits_deBruijn64tab), ("internal/strconv.uint64pow10", laid_internal_strconv_uint64pow10)], narrowed := true }
def NaturalDivModUptoSaid : Prop := naturalDivModUptoRow.holds Tryd.pinned (OpenSpec.upto naturalDivModSpec)

/-- 'grisaillelaw01.NaturalGCD', WHERE WHAT IT READS IS OF BULK AT MOST 1048576: true; the input reads as it did. -/
def naturalGCDUptoRow : OpenClaim := { program := "ytbnialhpflaoaaadoor", sum := "6a66a0edf48ab2a20f3b3f5640e9708ca0e98768595ecdccdc73ef0e3cc3713c", func := "grisaille/grisaillelaw01.NaturalGCD", spec := "naturalGCD", inPlace := ["internal/abi.NoEscape", "internal/bytealg.MakeNoZero"], named := ["internal/strconv.uint64pow10", "math/bits.deBruijn32tab", "math/bits.deBruijn64tab"], apart := false, laid := [("math/bits.deBruijn32tab", laid_math_bits_deBruijn32tab), ("math/bits.deBruijn64tab", laid_math_bits_deBruijn64tab), ("internal/strconv.uint64pow10", laid_internal_strconv_uint64pow10)], narrowed := true }
def NaturalGCDUptoSaid : Prop := naturalGCDUptoRow.holds Tryd.pinned (OpenSpec.upto naturalGCDSpec)

/-- 'grisaillelaw01.NaturalShift', WHERE WHAT IT READS IS OF BULK AT MOST 1048576: true; the input reads as it did. -/
def naturalShiftUptoRow : OpenClaim := { program := "ytbnialhpflaoaaadoor", sum := "6a66a0edf48ab2a20f3b3f5640e9708ca0e98768595ecdccdc73ef0e3cc3713c", func := "grisaille/grisaillelaw01.NaturalShift", spec := "naturalShift", inPlace := ["internal/abi.NoEscape", "internal/bytealg.MakeNoZero"], named := ["internal/strconv.uint64pow10", "math/bits.deBruijn32tab", "math/bits.deBruijn64tab"], apart := false, laid := [("math/bits.deBruijn32tab", laid_math_bits_deBruijn32tab), ("math/bits.deBruijn64tab", laid_math_bits_deBruijn64tab), ("internal/strconv.uint64pow10", laid_internal_strconv_uint64pow10)], narrowed := true }
def NaturalShiftUptoSaid : Prop := naturalShiftUptoRow.holds Tryd.pinned (OpenSpec.upto naturalShiftSpec)

/-- 'grisaillelaw01.NaturalSqrt', WHERE WHAT IT READS IS OF BULK AT MOST 1048576: true; the input reads as it did. -/
def naturalSqrtUptoRow : OpenClaim := { program := "ytbnialhpflaoaaadoor", sum := "6a66a0edf48ab2a20f3b3f5640e9708ca0e98768595ecdccdc73ef0e3cc3713c", func := "grisaille/grisaillelaw01.NaturalSqrt", spec := "naturalSqrt", inPlace := ["internal/abi.NoEscape", "internal/bytealg.MakeNoZero"], named := ["internal/strconv.uint64pow10", "math/bits.deBruijn32tab", "math/bits.deBruijn64tab"], apart := false, laid := [("math/bits.deBruijn32tab", laid_math_bits_deBruijn32tab), ("math/bits.deBruijn64tab", laid_math_bits_deBruijn64tab), ("internal/strconv.uint64pow10", laid_internal_strconv_uint64pow10)], narrowed := true }
def NaturalSqrtUptoSaid : Prop := naturalSqrtUptoRow.holds Tryd.pinned (OpenSpec.upto naturalSqrtSpec)

/-- 'grisaillelaw01.NaturalText', WHERE WHAT IT READS IS OF BULK AT MOST 1048576: true; the input reads as it did. -/
def naturalTextUptoRow : OpenClaim := { program := "ytbnialhpflaoaaadoor", sum := "6a66a0edf48ab2a20f3b3f5640e9708ca0e98768595ecdccdc73ef0e3cc3713c", func := "grisaille/grisaillelaw01.NaturalText", spec := "naturalText", inPlace := ["internal/abi.NoEscape", "internal/bytealg.MakeNoZero"], named := ["internal/strconv.uint64pow10", "math/bits.deBruijn32tab", "math/bits.deBruijn64tab"], apart := false, laid := [("math/bits.deBruijn32tab", laid_math_bits_deBruijn32tab), ("math/bits.deBruijn64tab", laid_math_bits_deBruijn64tab), ("internal/strconv.uint64pow10", laid_internal_strconv_uint64pow10)], narrowed := true }
def NaturalTextUptoSaid : Prop := naturalTextUptoRow.holds Tryd.pinned (OpenSpec.upto naturalTextSpec)

/-- 'grisaillelaw01.NaturalRoundTrip', WHERE WHAT IT READS IS OF BULK AT MOST 1048576: true; the input reads as it did. -/
def naturalRoundTripUptoRow : OpenClaim := { program := "ytbnialhpflaoaaadoor", sum := "6a66a0edf48ab2a20f3b3f5640e9708ca0e98768595ecdccdc73ef0e3cc3713c", func := "grisaille/grisaillelaw01.NaturalRoundTrip", spec := "naturalRoundTrip", inPlace := ["internal/abi.NoEscape", "internal/bytealg.MakeNoZero"], named := ["internal/strconv.uint64pow10", "math/bits.deBruijn32tab", "math/bits.deBruijn64tab"], apart := false, laid := [("math/bits.deBruijn32tab", laid_math_bits_deBruijn32tab), ("math/bits.deBruijn64tab", laid_math_bits_deBruijn64tab), ("internal/strconv.uint64pow10", laid_internal_strconv_uint64pow10)], narrowed := true }
def NaturalRoundTripUptoSaid : Prop := naturalRoundTripUptoRow.holds Tryd.pinned (OpenSpec.upto naturalRoundTripSpec)

/-- 'grisaillelaw01.NaturalRingLaws', WHERE WHAT IT READS IS OF BULK AT MOST 1048576: true; the input reads as it did. -/
def naturalRingLawsUptoRow : OpenClaim := { program := "ytbnialhpflaoaaadoor", sum := "6a66a0edf48ab2a20f3b3f5640e9708ca0e98768595ecdccdc73ef0e3cc3713c", func := "grisaille/grisaillelaw01.NaturalRingLaws", spec := "naturalRingLaws", inPlace := ["internal/abi.NoEscape", "internal/bytealg.MakeNoZero"], named := ["internal/strconv.uint64pow10", "math/bits.deBruijn32tab", "math/bits.deBruijn64tab"], apart := false, laid := [("math/bits.deBruijn32tab", laid_math_bits_deBruijn32tab), ("math/bits.deBruijn64tab", laid_math_bits_deBruijn64tab), ("internal/strconv.uint64pow10", laid_internal_strconv_uint64pow10)], narrowed := true }
def NaturalRingLawsUptoSaid : Prop := naturalRingLawsUptoRow.holds Tryd.pinned (OpenSpec.upto naturalRingLawsSpec)

end Rows
end Go.Proofs.YtbnialhpflaoaaaDoor
