/- The walk of the law NaturalShift under the signature of its frame. Conditions: none. -/
import Derived.Test.YtbnialhpflaoaaaDoorLs
import Derived.OpenShut
namespace Go.Proofs.YtbnialhpflaoaaaDoor
open Go.RowKit
set_option linter.unusedVariables false
theorem naturalShift_walk (a0 : Option Addr) (a0l a0c : Nat) (a0z : List Int) (a1 : Int) (a2 : Int) (w : World) (wa0 : IsRow .u32 w a0 a0l a0c a0z) (wa1 : (Lit.int .i64 a1).wf = true) (wa2 : (Lit.int .u16 a2).wf = true) (hN : Tb w) :
    Calls Tryd.prog 7 #[.slice a0 a0l a0c, .int .i64 a1, .int .u16 a2] w fun e w' => e = .returned (.bool true) ∧ Below w.heap.size w w' := by
  obtain ⟨l, hn, hnc, hr, _⟩ := wa0.words
  have b1 := bounds_i64 wa1
  have b2 := bounds_u16 wa2
  obtain ⟨k, rfl⟩ : ∃ k : Nat, a2 = (k : Int) := ⟨a2.toNat, by omega⟩
  exact shift_w a0 _ _ k a1 l w hn hnc hr (by omega) (by omega) hN
end Go.Proofs.YtbnialhpflaoaaaDoor
