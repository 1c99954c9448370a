/- Plain numbers: one digit of a long division in base 2^32; the shift that normalizes the divisor. No Go text in sight. -/
import Derived.WalkKit
import Derived.Lib.BitFns
import Derived.Laws.Bits64b
import Derived.Laws.BitsAllLaws
namespace Go.Proofs.Ytmelfdajhnbnlaa
set_option linter.unusedVariables false
namespace DivNum
theorem bitLenAux_bd (f : Nat) : ∀ x, x < 2 ^ f → x < 2 ^ Lib.bitLenAux f x ∧ (x ≠ 0 → 2 ^ Lib.bitLenAux f x ≤ 2 * x) := by
  induction f with
  | zero => intro x h; simp at h; subst h; simp [Lib.bitLenAux]
  | succ f ih =>
    intro x h
    unfold Lib.bitLenAux
    by_cases h0 : x = 0
    · subst h0; simp
    · obtain ⟨a, b⟩ := ih (x / 2) (by rw [Nat.pow_succ] at h; omega)
      simp only [h0, if_false]
      rw [Nat.pow_add, Nat.pow_one]
      refine ⟨by omega, fun _ => ?_⟩
      by_cases h2 : x / 2 = 0
      · rw [h2]; 
        have : Lib.bitLenAux f 0 = 0 := by cases f <;> simp [Lib.bitLenAux]
        rw [this]; omega
      · have := b h2; omega
theorem bitLen_bd (x : Nat) (h : x < 18446744073709551616) (h0 : x ≠ 0) : x < 2 ^ Lib.bitLen x ∧ 2 ^ Lib.bitLen x ≤ 2 * x :=
  ⟨(bitLenAux_bd 64 x (by omega)).1, (bitLenAux_bd 64 x (by omega)).2 h0⟩
/- the shift that brings a divisor's highest bit to the top -/
theorem shift_of (y : Nat) (h : y < 18446744073709551616) (h0 : y ≠ 0) : ∃ s : Nat, s ≤ 63 ∧ Lib.bitLen y = 64 - s ∧ 9223372036854775808 ≤ y * 2 ^ s ∧ y * 2 ^ s < 18446744073709551616 := by
  obtain ⟨a, b⟩ := bitLen_bd y h h0
  have hl : Lib.bitLen y ≤ 64 := Lib.bitLen_le y 64 (by omega) (by omega)
  have hp : Lib.bitLen y ≠ 0 := by
    intro e; rw [e] at a; simp at a; exact h0 a
  refine ⟨64 - Lib.bitLen y, by omega, by omega, ?_, ?_⟩
  · have := Nat.mul_le_mul_right (2 ^ (64 - Lib.bitLen y)) b
    rw [← Nat.pow_add, show Lib.bitLen y + (64 - Lib.bitLen y) = 64 by omega, Nat.mul_assoc] at this
    omega
  · have := Nat.mul_lt_mul_of_pos_right a (Nat.two_pow_pos (64 - Lib.bitLen y))
    rw [← Nat.pow_add, show Lib.bitLen y + (64 - Lib.bitLen y) = 64 by omega] at this
    omega
/- what the shifted dividend's parts come to -/
theorem shifted (hi lo y s : Nat) (hs : s ≤ 63) (hhi : hi < y) (hlo : lo < 18446744073709551616) (hY : y * 2 ^ s < 18446744073709551616) :
    hi * 2 ^ s < 18446744073709551616 ∧ lo / 2 ^ (64 - s) < 18446744073709551616 ∧ (hi * 2 ^ s) ||| (lo / 2 ^ (64 - s)) = hi * 2 ^ s + lo / 2 ^ (64 - s) ∧
    hi * 2 ^ s + lo / 2 ^ (64 - s) < y * 2 ^ s ∧
    (hi * 18446744073709551616 + lo) * 2 ^ s = (hi * 2 ^ s + lo / 2 ^ (64 - s)) * 18446744073709551616 + lo * 2 ^ s % 18446744073709551616 := by
  have hp := Nat.two_pow_pos s
  have e64 : 2 ^ (64 - s) * 2 ^ s = 18446744073709551616 := by rw [← Nat.pow_add, show 64 - s + s = 64 by omega]
  have hq : lo / 2 ^ (64 - s) < 2 ^ s := by
    apply Nat.div_lt_of_lt_mul; rw [e64]; exact hlo
  have h1 : (hi + 1) * 2 ^ s ≤ y * 2 ^ s := Nat.mul_le_mul_right _ hhi
  rw [Nat.add_mul, Nat.one_mul] at h1
  have hs64 : 2 ^ s ≤ 18446744073709551616 := by
    have := Nat.pow_le_pow_right (n := 2) (by omega) (show s ≤ 64 by omega); omega
  refine ⟨by omega, by omega, nat_join s _ _ (Nat.mul_mod_left _ _) hq, by omega, ?_⟩
  have hd : lo * 2 ^ s / 18446744073709551616 = lo / 2 ^ (64 - s) := by
    rw [← e64, Nat.mul_div_mul_right _ _ hp]
  have := Nat.div_add_mod (lo * 2 ^ s) 18446744073709551616
  rw [hd] at this
  rw [Nat.add_mul, Nat.add_mul]
  have e3 : hi * 18446744073709551616 * 2 ^ s = hi * 2 ^ s * 18446744073709551616 := by rw [Nat.mul_right_comm]
  omega
/- one digit of a long division in base 2^32 by a normalized divisor Y = Y1*B + Y0 -/
theorem digit_lt (U U1 Y : Int) (h0 : 0 ≤ U) (h1 : U < Y) (h3 : U1 < 4294967296) : (U * 4294967296 + U1) / Y < 4294967296 := by
  apply Int.ediv_lt_of_lt_mul (by omega)
  omega
theorem step_eq (U U1 Y Y1 Y0 a b : Int) (hY : Y = Y1 * 4294967296 + Y0) (hb : a * Y1 + b = U) : U * 4294967296 + U1 - a * Y = b * 4294967296 + U1 - a * Y0 := by
  subst hY hb
  grind
theorem digit_le_of (U U1 Y a : Int) (hY : 0 < Y) (h : U * 4294967296 + U1 < (a + 1) * Y) : (U * 4294967296 + U1) / Y ≤ a := by
  have := Int.ediv_lt_of_lt_mul hY h
  omega
theorem le_digit_of (U U1 Y a : Int) (hY : 0 < Y) (h : a * Y ≤ U * 4294967296 + U1) : a ≤ (U * 4294967296 + U1) / Y :=
  Int.le_ediv_of_mul_le hY h
theorem init_hi (U Y Y1 Y0 : Int) (hY : Y = Y1 * 4294967296 + Y0) (h0 : U < Y) (h1 : 2147483648 ≤ Y1) (h2 : Y0 < 4294967296) : U / Y1 ≤ 4294967297 := by
  have : U / Y1 < 4294967298 := by
    apply Int.ediv_lt_of_lt_mul (by omega)
    omega
  omega
theorem init_lo (U U1 Y Y1 Y0 : Int) (hY : Y = Y1 * 4294967296 + Y0) (h1 : 2147483648 ≤ Y1) (h2 : 0 ≤ Y0) (h3 : U1 < 4294967296) (hU : 0 ≤ U) : (U * 4294967296 + U1) / Y ≤ U / Y1 := by
  have e := Int.mul_ediv_add_emod U Y1
  have m0 := Int.emod_nonneg U (b := Y1) (by omega)
  have m1 := Int.emod_lt_of_pos U (b := Y1) (by omega)
  have q0 : 0 ≤ U / Y1 := Int.ediv_nonneg hU (by omega)
  apply digit_le_of _ _ _ _ (by omega)
  have k := step_eq U U1 Y Y1 Y0 (U / Y1) (U % Y1) hY (by rw [Int.mul_comm]; exact e)
  have z : 0 ≤ U / Y1 * Y0 := Int.mul_nonneg q0 h2
  have d : (U / Y1 + 1) * Y = U / Y1 * Y + Y := by grind
  rw [d]
  omega
theorem down (U U1 Y Y1 Y0 a b : Int) (hY : Y = Y1 * 4294967296 + Y0) (h1 : 2147483648 ≤ Y1) (h2 : 0 ≤ Y0) (h3 : U1 < 4294967296) (hU : 0 ≤ U) (hUY : U < Y)
    (hb : a * Y1 + b = U) (h : 4294967296 ≤ a ∨ 4294967296 * b + U1 < a * Y0) : (U * 4294967296 + U1) / Y ≤ a - 1 := by
  rcases h with h | h
  · have := digit_lt U U1 Y hU hUY h3
    omega
  · have k := step_eq U U1 Y Y1 Y0 a b hY hb
    apply digit_le_of _ _ _ _ (by omega)
    have : a - 1 + 1 = a := by omega
    rw [this]
    omega
theorem exit1 (U U1 Y Y1 Y0 a b : Int) (hY : Y = Y1 * 4294967296 + Y0) (h1 : 2147483648 ≤ Y1) (h2 : 0 ≤ Y0) 
    (hb : a * Y1 + b = U) (hd : (U * 4294967296 + U1) / Y ≤ a) (h : a * Y0 ≤ 4294967296 * b + U1) : a = (U * 4294967296 + U1) / Y := by
  have k := step_eq U U1 Y Y1 Y0 a b hY hb
  have := le_digit_of U U1 Y a (by omega) (by omega)
  omega
theorem exit2 (U U1 Y Y1 Y0 a b : Int) (hY : Y = Y1 * 4294967296 + Y0) (h1 : 2147483648 ≤ Y1) (h2 : 0 ≤ Y0) (h2' : Y0 < 4294967296) (h3 : 0 ≤ U1)
    (hb : a * Y1 + b = U) (hd : (U * 4294967296 + U1) / Y ≤ a) (ha : a ≤ 4294967296) (hbb : 4294967296 ≤ b) : a = (U * 4294967296 + U1) / Y := by
  apply exit1 U U1 Y Y1 Y0 a b hY h1 h2 hb hd
  have : a * Y0 ≤ 4294967296 * Y0 := Int.mul_le_mul_of_nonneg_right ha h2
  omega
theorem prod_bd (a Y0 : Int) (h0 : 0 ≤ a) (h1 : a ≤ 4294967297) (h2 : 0 ≤ Y0) (h3 : Y0 < 4294967296) : 0 ≤ a * Y0 ∧ a * Y0 ≤ 18446744073709551615 := by
  refine ⟨Int.mul_nonneg h0 h2, ?_⟩
  have := Int.mul_le_mul h1 (by omega : Y0 ≤ 4294967295) h2 (by omega)
  omega
theorem quo_mul (U Y1 : Int) (h : 0 < Y1) (hU : 0 ≤ U) : 0 ≤ U / Y1 ∧ 0 ≤ U / Y1 * Y1 ∧ U / Y1 * Y1 ≤ U ∧ U < U / Y1 * Y1 + Y1 := by
  have e := Int.mul_ediv_add_emod U Y1
  have m0 := Int.emod_nonneg U (b := Y1) (by omega)
  have m1 := Int.emod_lt_of_pos U (b := Y1) (by omega)
  have q0 : 0 ≤ U / Y1 := Int.ediv_nonneg hU (by omega)
  rw [Int.mul_comm] at e
  exact ⟨q0, Int.mul_nonneg q0 (by omega), by omega, by omega⟩
/- the remainder that the wrapping sums leave -/
theorem rem_wrap (U U1 Y : Int) (hY : 0 < Y) (hY2 : Y ≤ 18446744073709551616) : (U * 4294967296 + U1 - (U * 4294967296 + U1) / Y * Y) % 18446744073709551616 = (U * 4294967296 + U1) % Y := by
  have e := Int.mul_ediv_add_emod (U * 4294967296 + U1) Y
  have m0 := Int.emod_nonneg (U * 4294967296 + U1) (b := Y) (by omega)
  have m1 := Int.emod_lt_of_pos (U * 4294967296 + U1) (b := Y) (by omega)
  have : U * 4294967296 + U1 - (U * 4294967296 + U1) / Y * Y = (U * 4294967296 + U1) % Y := by rw [Int.mul_comm _ Y]; omega
  rw [this]
  exact Int.emod_eq_of_lt m0 (by omega)
/- both digits together, and the shift undone -/
theorem both (N Y y p U L : Int) (hy : 0 < y) (hp : 0 < p) (hY : Y = y * p) (hN : N * p = U * 18446744073709551616 + L) (U1 U0 : Int) (hL : L = U1 * 4294967296 + U0) (h0 : 0 ≤ U0) (h0' : U0 < 4294967296) :
    (U * 4294967296 + U1) / Y * 4294967296 + ((U * 4294967296 + U1) % Y * 4294967296 + U0) / Y = N / y ∧
    ((U * 4294967296 + U1) % Y * 4294967296 + U0) % Y / p = N % y := by
  have hYp : 0 < Y := by rw [hY]; exact Int.mul_pos hy hp
  have e1 := Int.mul_ediv_add_emod (U * 4294967296 + U1) Y
  have e2 := Int.mul_ediv_add_emod ((U * 4294967296 + U1) % Y * 4294967296 + U0) Y
  have m0 := Int.emod_nonneg ((U * 4294967296 + U1) % Y * 4294967296 + U0) (b := Y) (by omega)
  have m1 := Int.emod_lt_of_pos ((U * 4294967296 + U1) % Y * 4294967296 + U0) (b := Y) (by omega)
  generalize hq1 : (U * 4294967296 + U1) / Y = q1 at *
  generalize hr1 : (U * 4294967296 + U1) % Y = r1 at *
  generalize hq0 : (r1 * 4294967296 + U0) / Y = q0 at *
  generalize hr0 : (r1 * 4294967296 + U0) % Y = r0 at *
  have key : N * p = (q1 * 4294967296 + q0) * Y + r0 := by rw [hN, hL]; grind
  have hr : r0 = (N - (q1 * 4294967296 + q0) * y) * p := by rw [hY] at key; grind
  generalize hQ : q1 * 4294967296 + q0 = Q at *
  have hR0 : 0 ≤ N - Q * y := by
    rw [hr] at m0
    exact Int.nonneg_of_mul_nonneg_left m0 hp
  have hR1 : N - Q * y < y := by
    rw [hr, hY] at m1
    exact Int.lt_of_mul_lt_mul_right m1 (by omega)
  have hNe : N = y * Q + (N - Q * y) := by grind
  constructor
  · rw [hNe, Int.mul_add_ediv_left _ _ (by omega), Int.ediv_eq_zero_of_lt hR0 hR1]; omega
  · rw [hr, Int.mul_ediv_cancel _ (by omega)]
    rw [hNe, Int.mul_add_emod_self_left]
    have : y * Q + (N - Q * y) - Q * y = N - Q * y := by grind
    rw [this]
    exact (Int.emod_eq_of_lt hR0 hR1).symm
end DivNum
end Go.Proofs.Ytmelfdajhnbnlaa
