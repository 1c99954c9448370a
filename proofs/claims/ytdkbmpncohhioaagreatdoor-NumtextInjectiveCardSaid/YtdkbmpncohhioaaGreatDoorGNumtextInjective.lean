/- The walk of the law NumtextInjective under the signature of its frame. Conditions: none. -/
import Derived.Test.YtdkbmpncohhioaaGreatDoorNtj
import Derived.OpenShut
namespace Go.Proofs.YtdkbmpncohhioaaGreatDoor
open Go.RowKit
set_option linter.unusedVariables false
theorem numtextInjective_walk (a0 : Int) (a1 : Int) (a2_0 : Bool) (a2_1 : Option Addr) (a2_1l a2_1c : Nat) (a2_1z : List Int) (a2_2 : Bool) (a2_3 : Option Addr) (a2_3l a2_3c : Nat) (a2_3z : List Int) (a3_0 : Bool) (a3_1 : Option Addr) (a3_1l a3_1c : Nat) (a3_1z : List Int) (a3_2 : Bool) (a3_3 : Option Addr) (a3_3l a3_3c : Nat) (a3_3z : List Int) (w : World) (wa0 : (Lit.int .i64 a0).wf = true) (wa1 : (Lit.int .i64 a1).wf = true) (wa2_1 : IsRow .u32 w a2_1 a2_1l a2_1c a2_1z) (wa2_3 : IsRow .u32 w a2_3 a2_3l a2_3c a2_3z) (wa3_1 : IsRow .u32 w a3_1 a3_1l a3_1c a3_1z) (wa3_3 : IsRow .u32 w a3_3 a3_3l a3_3c a3_3z) (hN : Tb w) (hM : Mx w) :
    Calls Tryz.prog 5 #[.int .i64 a0, .int .i64 a1, .agg #[.bool a2_0, .slice a2_1 a2_1l a2_1c, .bool a2_2, .slice a2_3 a2_3l a2_3c], .agg #[.bool a3_0, .slice a3_1 a3_1l a3_1c, .bool a3_2, .slice a3_3 a3_3l a3_3c]] w fun e w' => e = .returned (.bool true) ∧ Below w.heap.size w w' := by
  obtain ⟨l, hn, hc, hr, _⟩ := wa2_1.words
  obtain ⟨k, hm, hd, hs, _⟩ := wa2_3.words
  obtain ⟨l2, hn2, hc2, hr2, _⟩ := wa3_1.words
  obtain ⟨m2, hm2, hd2, hs2, _⟩ := wa3_3.words
  have b0 := bounds_i64 wa0
  have b1 := bounds_i64 wa1
  have le : ∀ {a : Option Addr} {l c : Nat} {z : List Int}, IsRow .u32 w a l c z → l ≤ 9223372036854775807 := by
    intro a l c z h
    rcases h with ⟨_, h, _⟩ | ⟨ad, _, h1, h2, _⟩
    · omega
    · unfold maxLen at h2; omega
  have l1 := le wa2_1
  have l2' := le wa2_3
  have l3 := le wa3_1
  have l4 := le wa3_3
  subst hn hm hn2 hm2
  exact nij_w a0 a1 a2_0 a2_2 a3_0 a3_2 a2_1 a2_3 a3_1 a3_3 _ _ _ _ l k l2 m2 w hr hs hr2 hs2 hc hd hc2 hd2 l1 l2' l3 l4 b0.1 b0.2 b1.1 b1.2 hN hM
end Go.Proofs.YtdkbmpncohhioaaGreatDoor
