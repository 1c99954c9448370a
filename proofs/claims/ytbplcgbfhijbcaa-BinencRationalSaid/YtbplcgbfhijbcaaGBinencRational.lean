/- The walk of the law BinencRational under the signature of its frame. Conditions: none. -/
import Derived.Test.YtbplcgbfhijbcaaLf7
import Derived.OpenShut
namespace Go.Proofs.Ytbplcgbfhijbcaa
open Go.RowKit
set_option linter.unusedVariables false
theorem binencRational_walk (a0_0 : Bool) (a0_1 : Option Addr) (a0_1l a0_1c : Nat) (a0_1z : List Int) (a0_2 : Bool) (a0_3 : Option Addr) (a0_3l a0_3c : Nat) (a0_3z : List Int) (a1 : Option Addr) (a1l a1c : Nat) (a1z : List Int) (a2 : Int) (w : World) (wa0_1 : IsRow .u32 w a0_1 a0_1l a0_1c a0_1z) (wa0_3 : IsRow .u32 w a0_3 a0_3l a0_3c a0_3z) (wa1 : IsRow .u8 w a1 a1l a1c a1z) (wa2 : (Lit.int .i64 a2).wf = true) :
    Calls Try.prog 6 #[.agg #[.bool a0_0, .slice a0_1 a0_1l a0_1c, .bool a0_2, .slice a0_3 a0_3l a0_3c], .slice a1 a1l a1c, .int .i64 a2] w fun e w' => e = .returned (.bool true) ∧ Below w.heap.size w w' := by
  obtain ⟨l, hn, hc, hr, _⟩ := wa0_1.words
  obtain ⟨k, hm, hd, hs, _⟩ := wa0_3.words
  obtain ⟨bl, hq, hg, hB, _⟩ := wa1.bytes
  exact lra_w a0_0 a0_2 a0_1 a0_3 a1 _ _ _ _ _ _ a2 w l k bl hn hm hc hd hq hg (isrow_le wa0_1) (isrow_le wa0_3) (isrow_le wa1) hr hs hB
end Go.Proofs.Ytbplcgbfhijbcaa
