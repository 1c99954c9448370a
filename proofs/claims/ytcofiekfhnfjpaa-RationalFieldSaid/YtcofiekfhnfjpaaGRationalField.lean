
/- The walk of the law RationalField under the signature of its frame. Conditions: none. -/
import Derived.Test.YtcofiekfhnfjpaaSI
import Derived.OpenShut
namespace Go.Proofs.Ytcofiekfhnfjpaa
open Go.RowKit
set_option linter.unusedVariables false
theorem rationalField_walk (a0_0 : Bool) (a0_1 : Option Addr) (a0_1l a0_1c : Nat) (a0_1z : List Int) (a0_2 : Bool) (a0_3 : Option Addr) (a0_3l a0_3c : Nat) (a0_3z : List Int) (a1_0 : Bool) (a1_1 : Option Addr) (a1_1l a1_1c : Nat) (a1_1z : List Int) (a1_2 : Bool) (a1_3 : Option Addr) (a1_3l a1_3c : Nat) (a1_3z : List Int) (a2_0 : Bool) (a2_1 : Option Addr) (a2_1l a2_1c : Nat) (a2_1z : List Int) (a2_2 : Bool) (a2_3 : Option Addr) (a2_3l a2_3c : Nat) (a2_3z : List Int) (w : World) (wa0_1 : IsRow .u32 w a0_1 a0_1l a0_1c a0_1z) (wa0_3 : IsRow .u32 w a0_3 a0_3l a0_3c a0_3z) (wa1_1 : IsRow .u32 w a1_1 a1_1l a1_1c a1_1z) (wa1_3 : IsRow .u32 w a1_3 a1_3l a1_3c a1_3z) (wa2_1 : IsRow .u32 w a2_1 a2_1l a2_1c a2_1z) (wa2_3 : IsRow .u32 w a2_3 a2_3l a2_3c a2_3z) :
    Calls Try.prog 7 #[.agg #[.bool a0_0, .slice a0_1 a0_1l a0_1c, .bool a0_2, .slice a0_3 a0_3l a0_3c], .agg #[.bool a1_0, .slice a1_1 a1_1l a1_1c, .bool a1_2, .slice a1_3 a1_3l a1_3c], .agg #[.bool a2_0, .slice a2_1 a2_1l a2_1c, .bool a2_2, .slice a2_3 a2_3l a2_3c]] w fun e w' => e = .returned (.bool true) ∧ Below w.heap.size w w' := by
  obtain ⟨l, hn0, hc0, hr0, _⟩ := wa0_1.words
  obtain ⟨k, hn1, hc1, hr1, _⟩ := wa0_3.words
  obtain ⟨l2, hn2, hc2, hr2, _⟩ := wa1_1.words
  obtain ⟨m2, hn3, hc3, hr3, _⟩ := wa1_3.words
  obtain ⟨l3, hn4, hc4, hr4, _⟩ := wa2_1.words
  obtain ⟨m3, hn5, hc5, hr5, _⟩ := wa2_3.words
  have hm0 := isrow_le wa0_1
  have hm1 := isrow_le wa0_3
  have hm2 := isrow_le wa1_1
  have hm3 := isrow_le wa1_3
  have hm4 := isrow_le wa2_1
  have hm5 := isrow_le wa2_3
  subst hn0
  subst hn1
  subst hn2
  subst hn3
  subst hn4
  subst hn5
  exact lf_any a0_0 a0_2 a1_0 a1_2 a2_0 a2_2 a0_1 a0_3 a1_1 a1_3 a2_1 a2_3 _ _ _ _ _ _ l k l2 m2 l3 m3 w hr0 hr1 hr2 hr3 hr4 hr5 hc0 hc1 hc2 hc3 hc4 hc5 hm0 hm1 hm2 hm3 hm4 hm5
end Go.Proofs.Ytcofiekfhnfjpaa
