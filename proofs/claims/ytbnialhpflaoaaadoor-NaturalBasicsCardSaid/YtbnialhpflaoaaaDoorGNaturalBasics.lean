/- The walk of the law NaturalBasics under the signature of its frame. Conditions: none. -/
import Derived.Test.YtbnialhpflaoaaaDoorLb
import Derived.OpenShut
namespace Go.Proofs.YtbnialhpflaoaaaDoor
open Go.RowKit
set_option linter.unusedVariables false
theorem naturalBasics_walk (a0 : Option Addr) (a0l a0c : Nat) (a0z : List Int) (a1 : Option Addr) (a1l a1c : Nat) (a1z : List Int) (a2 : Int) (w : World) (wa0 : IsRow .u32 w a0 a0l a0c a0z) (wa1 : IsRow .u32 w a1 a1l a1c a1z) (wa2 : (Lit.int .u64 a2).wf = true) (hN : Tb w) :
    Calls Tryd.prog 3 #[.slice a0 a0l a0c, .slice a1 a1l a1c, .int .u64 a2] w fun e w' => e = .returned (.bool true) ∧ Below w.heap.size w w' := by
  obtain ⟨l, hn, hnc, hr, _⟩ := wa0.words
  obtain ⟨k, hm, hmd, hs, _⟩ := wa1.words
  have b2 := bounds_u64 wa2
  obtain ⟨v, rfl⟩ : ∃ v : Nat, a2 = (v : Int) := ⟨a2.toNat, by omega⟩
  exact basics_w a0 a1 _ _ _ _ v l k w hn hm hnc hmd (by omega) hr hs hN
end Go.Proofs.YtbnialhpflaoaaaDoor
