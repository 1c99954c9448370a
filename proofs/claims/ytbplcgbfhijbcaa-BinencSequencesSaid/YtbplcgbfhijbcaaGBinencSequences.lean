/- The walk of the law BinencSequences under the signature of its frame. Conditions: none. -/
import Derived.Test.YtbplcgbfhijbcaaLf5
import Derived.OpenShut
namespace Go.Proofs.Ytbplcgbfhijbcaa
open Go.RowKit
set_option linter.unusedVariables false
theorem binencSequences_walk (a0 : Option Addr) (a0l a0c : Nat) (a0z : List Int) (a1 : Option Addr) (a1l a1c : Nat) (a1z : List Int) (a2 : Option Addr) (a2l a2c : Nat) (a2z : List Int) (w : World) (wa0 : IsRow .i64 w a0 a0l a0c a0z) (wa1 : IsRow .u8 w a1 a1l a1c a1z) (wa2 : IsRow .u8 w a2 a2l a2c a2z) (z0 : a0c * 8 ≤ 140737488351232) (z1 : a1c * 1 ≤ 140737488351232) (z2 : a2c * 1 ≤ 140737488351232) :
    Calls Try.prog 11 #[.slice a0 a0l a0c, .slice a1 a1l a1c, .slice a2 a2l a2c] w fun e w' => e = .returned (.bool true) ∧ Below w.heap.size w w' := by
  obtain ⟨l, hn, hc, hr, hi⟩ := wa0.ints
  obtain ⟨k, hm, hd, hs, _⟩ := wa1.bytes
  obtain ⟨ar, hq, hd2, hs2, _⟩ := wa2.bytes
  exact lsq_w a0 a1 a2 _ _ _ _ _ _ l k ar w hn hm hd hq (by omega) (by omega) (by omega) hi hr hs hs2
end Go.Proofs.Ytbplcgbfhijbcaa
