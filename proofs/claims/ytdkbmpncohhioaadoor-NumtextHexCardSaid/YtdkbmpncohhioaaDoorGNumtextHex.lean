/- The walk of the law NumtextHex under the signature of its frame. Conditions: none. -/
import Derived.Test.YtdkbmpncohhioaaDoorNt7
import Derived.OpenShut
namespace Go.Proofs.YtdkbmpncohhioaaDoor
open Go.RowKit
set_option linter.unusedVariables false
theorem numtextHex_walk (a0 : Option Addr) (a0l a0c : Nat) (a0z : List Int) (a1 : ByteArray) (w : World) (wa0 : IsRow .u8 w a0 a0l a0c a0z) (wa1 : a1.size ≤ maxLen) (hN : Tb w) (hM : Mx w) :
    Calls Tryd.prog 4 #[.slice a0 a0l a0c, .string a1] w fun e w' => e = .returned (.bool true) ∧ Below w.heap.size w w' := by
  obtain ⟨l, hn, hc, hr, _⟩ := wa0.bytes
  have hn2 : (l.map UInt8.ofBitVec).length = a0l := by rw [List.length_map]; exact hn
  have hr2 : RdV w a0 (Lib.byteCells (l.map UInt8.ofBitVec)) := by rw [bc_bv]; exact hr.vals
  have hle : a0l ≤ 9223372036854775807 := by
    rcases wa0 with ⟨_, h, _⟩ | ⟨ad, _, h1, h2, _⟩
    · omega
    · unfold maxLen at h2; omega
  exact nhx_w a0 _ _ _ a1 w hn2 hle (Nat.le_trans wa1 (by unfold maxLen; omega)) hr2 hN hM
end Go.Proofs.YtdkbmpncohhioaaDoor
