/- The walk of the law BinencRoundTrip under the signature of its frame. Conditions: none. -/
import Derived.Test.YtbplcgbfhijbcaaLf8
import Derived.OpenShut
namespace Go.Proofs.Ytbplcgbfhijbcaa
open Go.RowKit
set_option linter.unusedVariables false
theorem binencRoundTrip_walk (a0_0 : Int) (a0_1 : Int) (a0_2 : Option Addr) (a0_2l a0_2c : Nat) (a0_2z : List Int) (a0_3 : Bool) (a0_4 : Option Addr) (a0_4l a0_4c : Nat) (a0_4z : List Int) (a0_5 : Bool) (a0_6 : Option Addr) (a0_6l a0_6c : Nat) (a0_6z : List Int) (a1 : Option Addr) (a1l a1c : Nat) (a1z : List Int) (a2 : Option Addr) (a2l a2c : Nat) (a2z : List Int) (w : World) (wa0_0 : (Lit.int .u64 a0_0).wf = true) (wa0_1 : (Lit.int .i64 a0_1).wf = true) (wa0_2 : IsRow .u8 w a0_2 a0_2l a0_2c a0_2z) (wa0_4 : IsRow .u32 w a0_4 a0_4l a0_4c a0_4z) (wa0_6 : IsRow .u32 w a0_6 a0_6l a0_6c a0_6z) (wa1 : IsRow .u8 w a1 a1l a1c a1z) (wa2 : IsRow .u8 w a2 a2l a2c a2z) :
    Calls Try.prog 7 #[.agg #[.int .u64 a0_0, .int .i64 a0_1, .slice a0_2 a0_2l a0_2c, .bool a0_3, .slice a0_4 a0_4l a0_4c, .bool a0_5, .slice a0_6 a0_6l a0_6c], .slice a1 a1l a1c, .slice a2 a2l a2c] w fun e w' => e = .returned (.bool true) ∧ Below w.heap.size w w' := by
  obtain ⟨l, hn, hc, hr, _⟩ := wa0_4.words
  obtain ⟨k, hk, hd, hs, _⟩ := wa0_6.words
  obtain ⟨S, hm, hmd, hS, _⟩ := wa0_2.bytes
  obtain ⟨ar, hq, hqg, hA, _⟩ := wa1.bytes
  obtain ⟨mr, hq2, hqg2, hM, _⟩ := wa2.bytes
  have b0 := bounds_u64 wa0_0
  have b1 := bounds_i64 wa0_1
  obtain ⟨x, rfl⟩ : ∃ x : Nat, a0_0 = (x : Int) := ⟨a0_0.toNat, by omega⟩
  exact lrt_w x a0_1 a0_3 a0_5 a0_4 a0_6 a0_2 a1 a2 _ _ _ _ _ _ _ _ _ _ w l k S ar mr (by omega) b1.1 b1.2 hn hk hc hd hm hmd hq hq2 (isrow_le wa0_4) (isrow_le wa0_6) (isrow_le wa0_2) (isrow_le wa1) (isrow_le wa2) hr hs hS hA hM
end Go.Proofs.Ytbplcgbfhijbcaa
