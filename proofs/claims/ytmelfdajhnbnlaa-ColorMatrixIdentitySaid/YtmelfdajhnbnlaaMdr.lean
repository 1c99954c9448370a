
import Derived.Test.YtmelfdajhnbnlaaImc
namespace Go.Proofs.Ytmelfdajhnbnlaa
open Go.RowKit
set_option linter.unusedVariables false
/- plain facts on MulDivRound's function -/
theorem mdM_comm (a b c : Int) : mdM a b c = mdM b a c := by unfold mdM; rw [Int.mul_comm]
theorem sgn_comm (a b c : Int) : sgn a b c = sgn b a c := by
  unfold sgn
  cases decide (a < 0) <;> cases decide (b < 0) <;> rfl
theorem mdr_comm (a b c : Int) : mdrV a b c = mdrV b a c ∧ mdrB a b c = mdrB b a c := by
  unfold mdrV mdrB
  rw [mdM_comm, sgn_comm]
  exact ⟨rfl, rfl⟩
theorem mdr_false (a b c : Int) (h : mdrB a b c = false) : mdrV a b c = 0 := by
  unfold mdrB at h
  unfold mdrV
  by_cases hc : c = 0
  · rw [if_pos hc]
  · rw [if_neg hc] at h ⊢
    simp [mdVal, h]
theorem mdr_zero (a b : Int) : mdrV a b 0 = 0 ∧ mdrB a b 0 = false := by simp [mdrV, mdrB]
theorem mdM_self (a c : Int) (hc : c ≠ 0) : mdM a c c = (a.natAbs : Int) := by
  unfold mdM
  have hC : (0 : Int) < c.natAbs := by omega
  have e : (a.natAbs : Int) * c.natAbs % c.natAbs = 0 := Int.mul_emod_left _ _
  rw [e, if_neg (by omega), Int.mul_ediv_cancel _ (by omega)]
theorem mdr_self (a c : Int) (hc : c ≠ 0) (h0 : -9223372036854775808 ≤ a) (h1 : a ≤ 9223372036854775807) : mdrV a c c = a ∧ mdrB a c c = true := by
  have e : sgn a c c = decide (a < 0) := by
    unfold sgn
    cases decide (a < 0) <;> cases decide (c < 0) <;> rfl
  have b : mdrB a c c = true := by
    unfold mdrB
    rw [if_neg hc, mdM_self a c hc, e]
    unfold mdOk
    by_cases h : a < 0 <;> simp [h] <;> omega
  refine ⟨?_, b⟩
  have b' := b
  unfold mdrB at b'
  rw [if_neg hc] at b'
  unfold mdrV
  rw [if_neg hc]
  unfold mdVal
  rw [if_pos b', mdM_self a c hc, e]
  by_cases h : a < 0 <;> simp [h] <;> omega
theorem mdM_bd (a b c n : Int) (hc : c ≠ 0) (h : (a.natAbs : Int) * b.natAbs ≤ n) : 0 ≤ mdM a b c ∧ mdM a b c ≤ n + 1 := by
  have p0 : 0 ≤ (a.natAbs : Int) * b.natAbs := Int.mul_nonneg (by omega) (by omega)
  have q0 : 0 ≤ (a.natAbs : Int) * b.natAbs / c.natAbs := Int.ediv_nonneg p0 (by omega)
  have q1 : (a.natAbs : Int) * b.natAbs / c.natAbs ≤ (a.natAbs : Int) * b.natAbs := Int.ediv_le_self _ p0
  unfold mdM
  split <;> omega
theorem small_prod (a b m n : Int) (ha : (a.natAbs : Int) ≤ m) (hb : (b.natAbs : Int) ≤ n) (hm : 0 ≤ m) (hn : 0 ≤ n) : (a.natAbs : Int) * b.natAbs ≤ m * n :=
  Int.mul_le_mul ha hb (by omega) hm
theorem mdOk_small (neg : Bool) (m : Int) (h : m ≤ 9223372036854775807) : mdOk neg m = true := by
  cases neg <;> simp [mdOk] <;> omega
theorem mdr_small (a b c : Int) (hc : c ≠ 0) (h : (a.natAbs : Int) * b.natAbs ≤ 9223372036854775806) : mdrB a b c = true ∧ mdrV a b c = (if sgn a b c = true then -(mdM a b c) else mdM a b c) := by
  obtain ⟨h0, h1⟩ := mdM_bd a b c _ hc h
  have k := mdOk_small (sgn a b c) (mdM a b c) (by omega)
  unfold mdrB mdrV mdVal
  rw [if_neg hc, if_neg hc, k]
  simp
theorem mdM_zero (b c : Int) (hc : c ≠ 0) : mdM 0 b c = 0 := by
  unfold mdM
  simp
  omega
theorem mdr_neg (a b c : Int) (hc : c ≠ 0) (h : (a.natAbs : Int) * b.natAbs ≤ 9223372036854775806) : mdrV (-a) b c = -(mdrV a b c) ∧ mdrB (-a) b c = true := by
  have e : ((-a).natAbs : Int) = a.natAbs := by omega
  have eM : mdM (-a) b c = mdM a b c := by unfold mdM; rw [e]
  obtain ⟨b1, v1⟩ := mdr_small a b c hc h
  obtain ⟨b2, v2⟩ := mdr_small (-a) b c hc (by rw [e]; exact h)
  refine ⟨?_, b2⟩
  rw [v1, v2, eM]
  by_cases h0 : a = 0
  · subst h0
    rw [mdM_zero b c hc]
    simp
  · have s : sgn (-a) b c = !sgn a b c := by
      unfold sgn
      have : decide (-a < 0) = !decide (a < 0) := by
        by_cases h : a < 0
        · simp [h]; omega
        · simp [h]; omega
      rw [this]
      cases decide (a < 0) <;> cases decide (b < 0) <;> cases decide (c < 0) <;> rfl
    rw [s]
    cases sgn a b c <;> simp
theorem mdr_prod (a b c : Int) (hc : c ≠ 0) (h : (a.natAbs : Int) * b.natAbs ≤ 9223372036854775806) : mdrV (a * b) 1 c = mdrV a b c := by
  have e : ((a * b).natAbs : Int) * ((1 : Int).natAbs : Int) = (a.natAbs : Int) * b.natAbs := by
    rw [Int.natAbs_mul]; simp
  have eM : mdM (a * b) 1 c = mdM a b c := by unfold mdM; rw [e]
  obtain ⟨b1, v1⟩ := mdr_small a b c hc h
  obtain ⟨b2, v2⟩ := mdr_small (a * b) 1 c hc (by rw [e]; exact h)
  rw [v1, v2, eM]
  by_cases h0 : a = 0
  · subst h0
    rw [mdM_zero b c hc]
    simp
  by_cases h1 : b = 0
  · subst h1
    rw [mdM_comm, mdM_zero a c hc]
    simp
  have s : sgn (a * b) 1 c = sgn a b c := by
    unfold sgn
    have : decide (a * b < 0) = !(decide (a < 0) == decide (b < 0)) := by
      by_cases ha : a < 0
      · by_cases hb : b < 0
        · have := Int.mul_pos_of_neg_of_neg ha hb
          simp [ha, hb]; omega
        · have := Int.mul_neg_of_neg_of_pos ha (show 0 < b by omega)
          simp [ha, hb, this]
      · by_cases hb : b < 0
        · have := Int.mul_neg_of_pos_of_neg (show 0 < a by omega) hb
          simp [ha, hb, this]
        · have := Int.mul_pos (show 0 < a by omega) (show 0 < b by omega)
          simp [ha, hb]; omega
    rw [this]
    have : decide ((1 : Int) < 0) = false := by decide
    rw [this]
    cases decide (a < 0) <;> cases decide (b < 0) <;> cases decide (c < 0) <;> rfl
  rw [s]
/- rounding: off by at most a half, ties away from zero -/
theorem mdM_round (a b : Int) (hb : b ≠ 0) : (2 * (mdM a 1 b * b.natAbs) ≤ 2 * a.natAbs + b.natAbs) ∧ (2 * (a.natAbs : Int) < 2 * (mdM a 1 b * b.natAbs) + b.natAbs) := by
  have hB : (0 : Int) < b.natAbs := by omega
  have e := Int.mul_ediv_add_emod (a.natAbs : Int) b.natAbs
  have m0 := Int.emod_nonneg (a.natAbs : Int) (b := b.natAbs) (by omega)
  have m1 := Int.emod_lt_of_pos (a.natAbs : Int) hB
  have o : (a.natAbs : Int) * ((1 : Int).natAbs : Int) = a.natAbs := by simp
  unfold mdM
  rw [o]
  rw [Int.mul_comm] at e
  split
  · rw [Int.add_mul, Int.one_mul]; omega
  · omega
end Go.Proofs.Ytmelfdajhnbnlaa
