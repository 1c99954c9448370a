import Derived.Test.YtedhjcjjalabdaaVecNum
namespace Go.Proofs.Ytedhjcjjalabdaa
set_option linter.unusedVariables false
set_option linter.unusedSimpArgs false
/- plain facts on wrapped indexes -/
def mirB (i n : Int) : Bool := decide ((i / n) % 2 = 1)
def wrapV (i n s : Int) : Int := if n < 1 then 0 else if 0 ≤ i ∧ i < n then i else if s = 1 then clampV i 0 (n - 1) else if s = 2 then i % n else if s = 3 then (if mirB i n = true then n - 1 - i % n else i % n) else 0
def wrapOk (i n s : Int) : Bool := decide (1 ≤ n) && (decide (0 ≤ i ∧ i < n) || decide (s = 1) || decide (s = 2) || decide (s = 3))
theorem odd_tmod (t : Int) : (t.tmod 2 != 0) = decide (t % 2 = 1) := by
  have h := Int.tmod_eq_emod (a := t) (b := 2)
  have h0 := Int.emod_nonneg t (b := 2) (by omega)
  have h1 := Int.emod_lt_of_pos t (b := 2) (by omega)
  rw [Bool.eq_iff_iff]
  simp only [bne_iff_ne, decide_eq_true_eq]
  split at h <;> simp at h <;> omega
theorem odd_emod (t : Int) : (t % 2 != 0) = decide (t % 2 = 1) := by
  have h0 := Int.emod_nonneg t (b := 2) (by omega)
  have h1 := Int.emod_lt_of_pos t (b := 2) (by omega)
  rw [Bool.eq_iff_iff]
  simp only [bne_iff_ne, decide_eq_true_eq]
  omega
/-- truncated division of a negative number -/
theorem tdiv_neg (i n : Int) (hi : i < 0) (hn : 1 ≤ n) : (i.tmod n = 0 ∧ i.tdiv n = i / n ∧ i % n = 0) ∨ (i.tmod n < 0 ∧ i.tdiv n - 1 = i / n ∧ 2 ≤ n) := by
  have h1 := Int.tdiv_eq_ediv (a := i) (b := n)
  have h2 := Int.tmod_eq_emod (a := i) (b := n)
  have m0 := Int.emod_nonneg i (b := n) (by omega)
  have m1 := Int.emod_lt_of_pos i (b := n) (by omega)
  have hs : n.sign = 1 := Int.sign_eq_one_of_pos (by omega)
  have hna : (n.natAbs : Int) = n := by omega
  by_cases hd : i % n = 0
  · left
    have hdv : n ∣ i := Int.dvd_of_emod_eq_zero hd
    rw [if_pos (Or.inr hdv)] at h1 h2
    exact ⟨by omega, by omega, hd⟩
  · right
    have hdv : ¬ n ∣ i := fun h => hd (Int.emod_eq_zero_of_dvd h)
    have hor : ¬ (0 ≤ i ∨ n ∣ i) := by
      rintro (h | h)
      · omega
      · exact hdv h
    rw [if_neg hor] at h1 h2
    refine ⟨by omega, by omega, ?_⟩
    by_cases c : n = 1
    · subst c; simp at hd
    · omega
end Go.Proofs.Ytedhjcjjalabdaa
