/- The walk of the law NaturalDivMod under the signature of its frame. Conditions: none. -/
import Derived.Test.YtbnialhpflaoaaaDoorLd
import Derived.OpenShut
namespace Go.Proofs.YtbnialhpflaoaaaDoor
open Go.RowKit
set_option linter.unusedVariables false
theorem naturalDivMod_walk (a0 : Option Addr) (a0l a0c : Nat) (a0z : List Int) (a1 : Option Addr) (a1l a1c : Nat) (a1z : List Int) (w : World) (wa0 : IsRow .u32 w a0 a0l a0c a0z) (wa1 : IsRow .u32 w a1 a1l a1c a1z) (hN : Tb w) :
    Calls Tryd.prog 5 #[.slice a0 a0l a0c, .slice a1 a1l a1c] w fun e w' => e = .returned (.bool true) ∧ Below w.heap.size w w' := by
  obtain ⟨l, hn, hnc, hr, _⟩ := wa0.words
  obtain ⟨k, hm, hmd, hs, _⟩ := wa1.words
  exact divmod_w a0 a1 _ _ _ _ l k w hn hm hnc hmd hr hs hN
end Go.Proofs.YtbnialhpflaoaaaDoor
