import Derived.Test.YthofacdiajhjmaaMdr
namespace Go.Proofs.Ythofacdiajhjmaa
open Go.RowKit
set_option linter.unusedVariables false
theorem isqrt_ex (n : Nat) : ∃ r : Nat, r * r ≤ n ∧ n < (r + 1) * (r + 1) := by
  induction n with
  | zero => exact ⟨0, by omega, by omega⟩
  | succ n ih =>
    obtain ⟨r, h1, h2⟩ := ih
    by_cases h : n + 1 < (r + 1) * (r + 1)
    · exact ⟨r, by omega, h⟩
    · refine ⟨r + 1, by omega, ?_⟩
      have e : (r + 1 + 1) * (r + 1 + 1) = (r + 1) * (r + 1) + 2 * r + 3 := by grind
      omega
theorem isqrt_int (n : Int) (h0 : 0 ≤ n) (h1 : n ≤ 18446744073709551615) : ∃ r : Int, 0 ≤ r ∧ r ≤ 4294967295 ∧ 0 ≤ r * r ∧ r * r ≤ n ∧ n < (r + 1) * (r + 1) ∧ (r < 4294967295 → 0 ≤ (r + 1) * (r + 1) ∧ (r + 1) * (r + 1) ≤ 18446744073709551615) := by
  obtain ⟨m, rfl⟩ := Int.eq_ofNat_of_zero_le h0
  obtain ⟨r, h2, h3⟩ := isqrt_ex m
  have e1 : ((r * r : Nat) : Int) = (r : Int) * r := Int.natCast_mul r r
  have e2 : (((r + 1) * (r + 1) : Nat) : Int) = ((r : Int) + 1) * (r + 1) := by rw [Int.natCast_mul]; rfl
  have hr : r ≤ 4294967295 := by
    by_cases c : 4294967296 ≤ r
    · have := Nat.mul_le_mul c c
      omega
    · omega
  refine ⟨r, by omega, by omega, by omega, by omega, by omega, fun h => ?_⟩
  have := Nat.mul_le_mul (show r + 1 ≤ 4294967295 by omega) (show r + 1 ≤ 4294967295 by omega)
  omega
theorem mdr_negc (a b c : Int) (hc : c ≠ 0) (h : (a.natAbs : Int) * b.natAbs ≤ 9223372036854775806) : mdrV a b (-c) = -(mdrV a b c) := by
  have e : ((-c).natAbs : Int) = c.natAbs := by omega
  have eM : mdM a b (-c) = mdM a b c := by unfold mdM; rw [e]
  obtain ⟨b1, v1⟩ := mdr_small a b c hc h
  obtain ⟨b2, v2⟩ := mdr_small a b (-c) (by omega) h
  have s : sgn a b (-c) = !sgn a b c := by
    unfold sgn
    have : decide (-c < 0) = !decide (c < 0) := by
      by_cases h : c < 0
      · simp [h]; omega
      · simp [h]; omega
    rw [this]
    cases decide (a < 0) <;> cases decide (b < 0) <;> cases decide (c < 0) <;> rfl
  rw [v1, v2, eM, s]
  cases sgn a b c <;> simp
/- the rounded quotient times the divisor -/
theorem round_parts (a b : Int) (hb : b ≠ 0) (h : (a.natAbs : Int) ≤ 9223372036854775806) :
    ∃ W : Int, 0 ≤ W ∧ 2 * W ≤ 2 * a.natAbs + b.natAbs ∧ 2 * (a.natAbs : Int) < 2 * W + b.natAbs ∧ (0 ≤ a → mdrV a 1 b * b = W) ∧ (a < 0 → mdrV a 1 b * b = -W) ∧ -(a.natAbs : Int) - 1 ≤ mdrV a 1 b ∧ mdrV a 1 b ≤ a.natAbs + 1 := by
  have o : (a.natAbs : Int) * ((1 : Int).natAbs : Int) = a.natAbs := by simp
  obtain ⟨r1, r2⟩ := mdM_round a b hb
  obtain ⟨b1, v1⟩ := mdr_small a 1 b hb (by rw [o]; exact h)
  obtain ⟨k0, k1⟩ := mdM_bd a 1 b _ hb (show (a.natAbs : Int) * ((1 : Int).natAbs : Int) ≤ a.natAbs by rw [o]; exact Int.le_refl _)
  have hW : 0 ≤ mdM a 1 b * b.natAbs := Int.mul_nonneg k0 (by omega)
  have hs : sgn a 1 b = !(decide (a < 0) == decide (b < 0)) := by
    unfold sgn
    have : decide ((1 : Int) < 0) = false := by decide
    rw [this]
    cases decide (a < 0) <;> cases decide (b < 0) <;> rfl
  refine ⟨mdM a 1 b * b.natAbs, hW, r1, r2, fun ha => ?_, fun ha => ?_, ?_, ?_⟩
  · rw [v1, hs]
    by_cases hb' : b < 0
    · have hn : (b.natAbs : Int) = -b := by omega
      rw [hn]
      have ha' : ¬ a < 0 := by omega
      simp [ha', hb', Int.mul_neg, Int.neg_mul]
    · have hn : (b.natAbs : Int) = b := by omega
      rw [hn]
      have ha' : ¬ a < 0 := by omega
      simp [ha', hb']
  · rw [v1, hs]
    by_cases hb' : b < 0
    · have hn : (b.natAbs : Int) = -b := by omega
      rw [hn]
      simp [ha, hb', Int.mul_neg]
    · have hn : (b.natAbs : Int) = b := by omega
      rw [hn]
      simp [ha, hb', Int.neg_mul]
  · rw [v1]; split <;> omega
  · rw [v1]; split <;> omega
theorem tmod60 (a : Int) : -1152921504606846976 < a.tmod 1152921504606846976 ∧ a.tmod 1152921504606846976 < 1152921504606846976 := by
  have h1 := Int.tmod_lt_of_pos a (b := 1152921504606846976) (by omega)
  have h2 := Int.lt_tmod_of_pos a (b := 1152921504606846976) (by omega)
  omega
end Go.Proofs.Ythofacdiajhjmaa
