import Derived.Test.YtbplcgbfhijbcaaJH
namespace Go.Proofs.Ytbplcgbfhijbcaa
open Go.RowKit
set_option linter.unusedVariables false
set_option linter.unusedSimpArgs false
theorem ez_last {l : List (BitVec 8)} (h : ezB l = false) : l.length = 0 ∨ ∃ h : l.length - 1 < l.length, l[l.length - 1].toNat ≠ 0 := by
  rcases Nat.eq_zero_or_pos l.length with h0 | h0
  · exact .inl h0
  · right
    refine ⟨by omega, fun e => ?_⟩
    unfold ezB at h
    rw [decide_eq_true h0, Bool.true_and, beq_eq_false_iff_ne, byA_in l _ (by omega)] at h
    exact h e
/-- Bytes that do not end in a zero are the digits of their value. -/
theorem d8_ez {l : List (BitVec 8)} (h : ezB l = false) : d8 (val8 l) = l := d8_val l.length l rfl (ez_last h)
theorem d8_noz (n : Nat) : ezB (d8 n) = false := by
  induction n using Nat.strongRecOn with
  | _ n ih =>
    by_cases h : n = 0
    · subst h; rw [d8_zero]; rfl
    · rw [d8_pos h]
      by_cases h2 : n / 256 = 0
      · rw [h2, d8_zero]
        unfold ezB
        simp [byA]
        omega
      · have := ih (n / 256) (by omega)
        unfold ezB at this ⊢
        have hp : 0 < (d8 (n / 256)).length := by rw [d8_pos h2]; simp
        rw [decide_eq_true hp, Bool.true_and] at this
        rw [List.length_cons, decide_eq_true (by omega), Bool.true_and]
        obtain ⟨j, hj⟩ : ∃ j, (d8 (n / 256)).length = j + 1 := ⟨(d8 (n / 256)).length - 1, by omega⟩
        rw [hj] at this ⊢
        simp only [Nat.add_sub_cancel] at this ⊢
        rw [byA_cons]
        exact this
theorem d8_iff (l : List (BitVec 8)) : d8 (val8 l) = l ↔ ezB l = false := ⟨fun h => h ▸ d8_noz _, d8_ez⟩
theorem val8_pos {l : List (BitVec 8)} (h : ezB l = false) (h0 : 0 < l.length) : 256 ^ (l.length - 1) ≤ val8 l := by
  rcases ez_last h with h1 | ⟨h1, h2⟩
  · omega
  · have h3 := val8_take l (l.length - 1) h1
    rw [show l.length - 1 + 1 = l.length by omega, List.take_length] at h3
    rw [h3]
    have : 256 ^ (l.length - 1) * 1 ≤ 256 ^ (l.length - 1) * l[l.length - 1].toNat := Nat.mul_le_mul_left _ (by omega)
    omega
/-- Then the digits in base 2^32 are normalized, too. -/
theorem fb_canon {l : List (BitVec 8)} {L : List (BitVec 32)} (h : ezB l = false) (hv : valD L = val8 l) (hl : L.length = (l.length + 3) / 4) : L = canon (val8 l) := by
  rw [← hv, canon_val]
  rcases Nat.eq_zero_or_pos l.length with h0 | h0
  · have : L = [] := List.length_eq_zero_iff.1 (by omega)
    subst this
    rfl
  · have h1 := val8_pos h h0
    have h2 := trim_len_le L
    have h3 := valD_lt (trimD L)
    rw [valD_trim, hv] at h3
    have h4 : L.length - 1 < (trimD L).length := by
      refine Nat.lt_of_not_le fun h5 => ?_
      have h6 := pw_mono h5
      have h7 : pw (L.length - 1) ≤ 256 ^ (l.length - 1) := by
        have e := pw_256 (L.length - 1) 0
        rw [Nat.pow_zero, Nat.mul_one] at e
        rw [← e]
        exact Nat.pow_le_pow_right (by omega) (by omega)
      omega
    have h8 := trim_prefix L
    rw [show (trimD L).length = L.length by omega, List.take_length] at h8
    exact h8.symm
end Go.Proofs.Ytbplcgbfhijbcaa
