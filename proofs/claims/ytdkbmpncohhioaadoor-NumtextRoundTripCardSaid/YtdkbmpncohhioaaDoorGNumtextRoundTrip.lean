/- The walk of the law NumtextRoundTrip under the signature of its frame. Conditions: none. -/
import Derived.Test.YtdkbmpncohhioaaDoorNt9
import Derived.OpenShut
namespace Go.Proofs.YtdkbmpncohhioaaDoor
open Go.RowKit
set_option linter.unusedVariables false
theorem numtextRoundTrip_walk (a0 : Int) (a1_0 : Bool) (a1_1 : Option Addr) (a1_1l a1_1c : Nat) (a1_1z : List Int) (a1_2 : Bool) (a1_3 : Option Addr) (a1_3l a1_3c : Nat) (a1_3z : List Int) (a2 : ByteArray) (w : World) (wa0 : (Lit.int .i64 a0).wf = true) (wa1_1 : IsRow .u32 w a1_1 a1_1l a1_1c a1_1z) (wa1_3 : IsRow .u32 w a1_3 a1_3l a1_3c a1_3z) (wa2 : a2.size ≤ maxLen) (hN : Tb w) (hM : Mx w) :
    Calls Tryd.prog 3 #[.int .i64 a0, .agg #[.bool a1_0, .slice a1_1 a1_1l a1_1c, .bool a1_2, .slice a1_3 a1_3l a1_3c], .string a2] w fun e w' => e = .returned (.bool true) ∧ Below w.heap.size w w' := by
  obtain ⟨l, hn, hc, hr, _⟩ := wa1_1.words
  obtain ⟨k, hm, hd, hs, _⟩ := wa1_3.words
  have b0 := bounds_i64 wa0
  have le : ∀ {a : Option Addr} {l c : Nat} {z : List Int}, IsRow .u32 w a l c z → l ≤ 9223372036854775807 := by
    intro a l c z h
    rcases h with ⟨_, h, _⟩ | ⟨ad, _, h1, h2, _⟩
    · omega
    · unfold maxLen at h2; omega
  exact nrt_w a0 a1_0 a1_2 a1_1 a1_3 _ _ _ _ a2 w l k b0.1 b0.2 hn hm hc hd (le wa1_1) (le wa1_3) (Nat.le_trans wa2 (by unfold maxLen; omega)) hr hs hN hM
end Go.Proofs.YtdkbmpncohhioaaDoor
