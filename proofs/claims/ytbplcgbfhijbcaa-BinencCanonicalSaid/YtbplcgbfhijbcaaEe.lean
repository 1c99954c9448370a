import Derived.Test.YtbplcgbfhijbcaaEb
import Derived.Laws.BitsAllLaws
import Derived.WalkKit
namespace Go.Proofs.Ytbplcgbfhijbcaa
open Go.RowKit
set_option linter.unusedVariables false
set_option linter.unusedSimpArgs false
theorem b8_all (P : Nat → Prop) [DecidablePred P] (h : ∀ i : Fin 256, P i.val) (d : Nat) (hd : d < 256) : P d := h ⟨d, hd⟩
theorem low7 (d : Nat) (hd : d < 256) : bits .andNot .u8 (d : Int) 128 = ((d % 128 : Nat) : Int) := by
  rw [show (128 : Int) = ((128 : Nat) : Int) from rfl, u8_andNot_nat d 128 hd (by decide)]
  congr 1
  exact Nat.and_two_pow_sub_one_eq_mod d 7
theorem high7 (d : Nat) (hd : d < 256) : bits .or .u8 (d : Int) 128 = ((d % 128 + 128 : Nat) : Int) := by
  rw [show (128 : Int) = ((128 : Nat) : Int) from rfl, u8_or_nat d 128 hd (by decide)]
  congr 1
  exact b8_all (fun d => d ||| 128 = d % 128 + 128) (by decide +kernel) d hd
theorem p128 (k : Nat) : 2 ^ (7 * k) = 128 ^ k := by rw [Nat.pow_mul]
theorem uv_step (x k d : Nat) (hx : x < 128 ^ k) (hk : k ≤ 9) (hd : d < 256) (h9 : k = 9 → d ≤ 1) :
    bits .or .u64 (x : Int) (IntKind.u64.wrap (IntKind.u64.wrap (bits .andNot .u8 (d : Int) 128) * 2 ^ (7 * k))) = ((x + 128 ^ k * (d % 128) : Nat) : Int) := by
  have h0 : d % 128 * 128 ^ k < 18446744073709551616 ∧ x < 18446744073709551616 := by
    rcases Nat.lt_or_ge k 9 with h | h
    · have h1 : 128 ^ k ≤ 128 ^ 8 := Nat.pow_le_pow_right (by omega) (by omega)
      have h2 : d % 128 * 128 ^ k ≤ 127 * 128 ^ k := Nat.mul_le_mul_right _ (by omega)
      omega
    · obtain rfl : k = 9 := by omega
      have h3 := h9 rfl
      have h2 : d % 128 * 128 ^ 9 ≤ 1 * 128 ^ 9 := Nat.mul_le_mul_right _ (by omega)
      omega
  rw [low7 d hd]
  have e1 : IntKind.u64.wrap ((d % 128 : Nat) : Int) = ((d % 128 : Nat) : Int) := by
    unfold IntKind.wrap; simp [IntKind.signed, IntKind.bits]; omega
  have e2 : ((d % 128 : Nat) : Int) * 2 ^ (7 * k) = ((d % 128 * 128 ^ k : Nat) : Int) := by
    rw [← p128 k]; push_cast; rfl
  have e3 : IntKind.u64.wrap ((d % 128 * 128 ^ k : Nat) : Int) = ((d % 128 * 128 ^ k : Nat) : Int) := by
    have h := h0.1
    generalize d % 128 * 128 ^ k = y at h ⊢
    unfold IntKind.wrap; simp [IntKind.signed, IntKind.bits]; omega
  rw [e1, e2, e3, u64_or_nat _ _ h0.2 h0.1, Nat.or_comm, nat_join (7 * k) _ _ (by rw [p128]; exact Nat.mul_mod_left _ _) (by rw [p128]; exact hx)]
  congr 1
  grind
theorem u64_not (m : Nat) (h : m < 18446744073709551616) : bits .xor .u64 (m : Int) 18446744073709551615 = ((18446744073709551615 - m : Nat) : Int) := by
  show IntKind.u64.wrap ((BitVec.ofInt 64 (m : Int) ^^^ BitVec.ofInt 64 18446744073709551615).toNat : Int) = _
  rw [show BitVec.ofInt 64 18446744073709551615 = BitVec.allOnes 64 from rfl, BitVec.xor_allOnes, BitVec.toNat_not, ofInt_u64 m h]
  have e : 2 ^ 64 - 1 - m = 18446744073709551615 - m := by omega
  rw [e, IntKind.wrap_u64]
  omega
theorem u64_xor0 (m : Nat) (h : m < 18446744073709551616) : bits .xor .u64 (m : Int) 0 = (m : Int) := by
  have := u64_xor_nat m 0 h (by omega)
  simpa using this
theorem i64_not (m : Nat) (h : m < 9223372036854775808) : bits .xor .i64 (m : Int) (-1) = -1 - (m : Int) := by
  show IntKind.i64.wrap ((BitVec.ofInt 64 (m : Int) ^^^ BitVec.ofInt 64 (-1)).toNat : Int) = _
  rw [show BitVec.ofInt 64 (-1) = BitVec.allOnes 64 from rfl, BitVec.xor_allOnes, BitVec.toNat_not, ofInt_u64 m (by omega)]
  have e : 2 ^ 64 - 1 - m = 18446744073709551615 - m := by omega
  rw [e]
  unfold IntKind.wrap; simp [IntKind.signed, IntKind.bits]; omega
theorem i64_xor0 (m : Nat) (h : m < 9223372036854775808) : bits .xor .i64 (m : Int) 0 = (m : Int) := by
  show IntKind.i64.wrap ((BitVec.ofInt 64 (m : Int) ^^^ BitVec.ofInt 64 0).toNat : Int) = _
  rw [show BitVec.ofInt 64 0 = 0#64 from rfl, BitVec.xor_zero, ofInt_u64 m (by omega)]
  unfold IntKind.wrap; simp [IntKind.signed, IntKind.bits]; omega
theorem u64_and1 (m : Nat) (h : m < 18446744073709551616) : bits .and .u64 (m : Int) 1 = ((m % 2 : Nat) : Int) := by
  have := u64_and_nat m 1 h (by omega)
  rw [Nat.and_one_is_mod] at this
  simpa using this
end Go.Proofs.Ytbplcgbfhijbcaa
