/- The walk of the law NumtextRationals under the signature of its frame. Conditions: none. -/
import Derived.Test.YtdkbmpncohhioaaGreatDoorNte
import Derived.OpenShut
namespace Go.Proofs.YtdkbmpncohhioaaGreatDoor
open Go.RowKit
set_option linter.unusedVariables false
theorem numtextRationals_walk (a0_0 : Bool) (a0_1 : Option Addr) (a0_1l a0_1c : Nat) (a0_1z : List Int) (a0_2 : Bool) (a0_3 : Option Addr) (a0_3l a0_3c : Nat) (a0_3z : List Int) (a1 : ByteArray) (w : World) (wa0_1 : IsRow .u32 w a0_1 a0_1l a0_1c a0_1z) (wa0_3 : IsRow .u32 w a0_3 a0_3l a0_3c a0_3z) (wa1 : a1.size ≤ maxLen) (hN : Tb w) (hM : Mx w) :
    Calls Tryz.prog 4 #[.agg #[.bool a0_0, .slice a0_1 a0_1l a0_1c, .bool a0_2, .slice a0_3 a0_3l a0_3c], .string a1] w fun e w' => e = .returned (.bool true) ∧ Below w.heap.size w w' := by
  obtain ⟨l, hn, hc, hr, _⟩ := wa0_1.words
  obtain ⟨k, hm, hd, hs, _⟩ := wa0_3.words
  have le : ∀ {a : Option Addr} {l c : Nat} {z : List Int}, IsRow .u32 w a l c z → l ≤ 9223372036854775807 := by
    intro a l c z h
    rcases h with ⟨_, h, _⟩ | ⟨ad, _, h1, h2, _⟩
    · omega
    · unfold maxLen at h2; omega
  exact nra_w a0_0 a0_2 a0_1 a0_3 _ _ _ _ a1 w l k hn hm hc hd (le wa0_1) (le wa0_3) (Nat.le_trans wa1 (by unfold maxLen; omega)) hr hs hN hM
end Go.Proofs.YtdkbmpncohhioaaGreatDoor
