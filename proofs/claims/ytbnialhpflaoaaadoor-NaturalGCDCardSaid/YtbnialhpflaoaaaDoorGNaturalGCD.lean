/- The walk of the law NaturalGCD under the signature of its frame. Conditions: none. -/
import Derived.Test.YtbnialhpflaoaaaDoorLg
import Derived.OpenShut
namespace Go.Proofs.YtbnialhpflaoaaaDoor
open Go.RowKit
set_option linter.unusedVariables false
theorem naturalGCD_walk (a0 : Option Addr) (a0l a0c : Nat) (a0z : List Int) (a1 : Option Addr) (a1l a1c : Nat) (a1z : List Int) (a2 : Option Addr) (a2l a2c : Nat) (a2z : List Int) (w : World) (wa0 : IsRow .u32 w a0 a0l a0c a0z) (wa1 : IsRow .u32 w a1 a1l a1c a1z) (wa2 : IsRow .u32 w a2 a2l a2c a2z) (hN : Tb w) :
    Calls Tryd.prog 6 #[.slice a0 a0l a0c, .slice a1 a1l a1c, .slice a2 a2l a2c] w fun e w' => e = .returned (.bool true) ∧ Below w.heap.size w w' := by
  obtain ⟨l, hn, hnc, hr, _⟩ := wa0.words
  obtain ⟨k, hm, hmd, hs, _⟩ := wa1.words
  obtain ⟨m, ho, hgf, ht, _⟩ := wa2.words
  exact gcd_w a0 a1 a2 _ _ _ _ _ _ l k m w hn hm ho hnc hmd hgf hr hs ht hN
end Go.Proofs.YtbnialhpflaoaaaDoor
