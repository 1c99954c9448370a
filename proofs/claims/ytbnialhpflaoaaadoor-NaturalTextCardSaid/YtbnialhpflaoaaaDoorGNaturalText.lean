/- The walk of the law NaturalText under the signature of its frame. Conditions: none. -/
import Derived.Test.YtbnialhpflaoaaaDoorLt
import Derived.OpenShut
namespace Go.Proofs.YtbnialhpflaoaaaDoor
open Go.RowKit
set_option linter.unusedVariables false
theorem naturalText_walk (a0 : Option Addr) (a0l a0c : Nat) (a0z : List Int) (a1 : ByteArray) (w : World) (wa0 : IsRow .u32 w a0 a0l a0c a0z) (wa1 : a1.size ≤ maxLen) (hN : Tb w) :
    Calls Tryd.prog 9 #[.slice a0 a0l a0c, .string a1] w fun e w' => e = .returned (.bool true) ∧ Below w.heap.size w w' := by
  obtain ⟨l, hn, hnc, hr, _⟩ := wa0.words
  exact text_w a0 _ _ l a1 w hn hnc hr hN
end Go.Proofs.YtbnialhpflaoaaaDoor
