import Derived.Test.YthofacdiajhjmaaRows
import Derived.WalkKit
import Derived.WalkSpells
import Derived.WalkLawsBesides
import Derived.Lib.Hide
import Derived.Deep.QuietTactic
import Derived.BigQuiet
namespace Go.Proofs.Ythofacdiajhjmaa
open Go.RowKit
set_option linter.unusedVariables false
set_option linter.unusedSimpArgs false
/- the reference's square root, bit by bit -/
theorem rsq_step (r p t : Int) (hp : 0 < p) (hr0 : 0 ≤ r) (ht : t = r - r % (2 * p) + p) :
    (t ≤ r → t = r - r % p) ∧ (r < t → r - r % (2 * p) = r - r % p) := by
  have m0 := Int.emod_nonneg r (b := 2 * p) (by omega)
  have m1 := Int.emod_lt_of_pos r (b := 2 * p) (by omega)
  have e : r % p = (r % (2 * p)) % p := by
    rw [Int.mul_comm]
    exact (Int.emod_emod_of_dvd r ⟨2, rfl⟩).symm
  constructor
  · intro h
    have h1 : p ≤ r % (2 * p) := by omega
    have : (r % (2 * p)) % p = r % (2 * p) - p := by
      rw [← Int.sub_emod_right]
      exact Int.emod_eq_of_lt (by omega) (by omega)
    omega
  · intro h
    have h1 : r % (2 * p) < p := by omega
    have : (r % (2 * p)) % p = r % (2 * p) := Int.emod_eq_of_lt m0 h1
    omega
theorem rsq_le (n r t : Int) (h0 : 0 ≤ r) (ht : 0 ≤ t) (hr : r * r ≤ n) (hr' : n < (r + 1) * (r + 1)) : t * t ≤ n ↔ t ≤ r := by
  constructor
  · intro h
    by_cases c : r + 1 ≤ t
    · have := Int.mul_le_mul c c (by omega) (by omega); omega
    · omega
  · intro h
    have := Int.mul_le_mul h h ht h0
    omega

set_option maxHeartbeats 800000 in
theorem rsqrt_any (n r : Int) (n0 : 0 ≤ n) (n1 : n ≤ 18446744073709551615) (h0 : 0 ≤ r) (hr : r * r ≤ n) (hr' : n < (r + 1) * (r + 1)) (w : World) :
    Calls Try.prog 8 #[.int .u64 n] w fun e w' => e = .returned (.int .u64 r) ∧ w = w' := by
  have r32 : r < 4294967296 := by
    by_cases c : 4294967296 ≤ r
    · have := Int.mul_le_mul c c (by omega) (by omega); omega
    · omega
  have H1 := Lib.hid hr
  have H2 := Lib.hid hr'
  clear hr hr'
  go_enter Try.func8, Try.ntmps8
  go_wp2
  go_loop [3, 4] (fun s k => ∃ j : Nat, j ≤ 32 ∧ k = .int .i64 ((j : Int) - 1) ∧ s = .int .u64 (r - r % 2 ^ j)) (fun _ k => (intOf k + 1).toNat)
  case atStart => exact ⟨32, by omega, rfl, by rw [Int.emod_eq_of_lt h0 (by omega)]; simp⟩
  case round =>
    obtain ⟨j, hj, rfl, rfl⟩ := hrel
    obtain rfl | ⟨i, rfl⟩ : j = 0 ∨ ∃ i, j = i + 1 := by
      cases j with
      | zero => exact .inl rfl
      | succ i => exact .inr ⟨i, rfl⟩
    · have e0 : r - r % 2 ^ 0 = r := by simp
      obtain ⟨k, e1⟩ : ∃ k : Int, ((0 : Nat) : Int) - 1 = k := ⟨_, rfl⟩
      have hk : k < 0 := by omega
      rw [e0, e1]
      clear e0 e1 hj r32 n0 n1 H1 H2 h0
      rename_i hww
      clear hww
      go_wp2
      go_ret
      exact ⟨rfl, rfl⟩
    · have e : ((i + 1 : Nat) : Int) - 1 = (i : Int) := by omega
      rw [e]
      clear e
      have p0 : (0 : Int) < 2 ^ i := Int.pow_pos (by omega)
      have p1 : (2 : Int) ^ i ≤ 2147483648 := by
        have h0 : (2 : Nat) ^ i ≤ 2147483648 := Nat.pow_le_pow_right (j := 31) (by omega) (by omega)
        have h1 : ((2 ^ i : Nat) : Int) = (2 : Int) ^ i := by norm_cast
        omega
      have p2 : (2 : Int) ^ (i + 1) = 2 * 2 ^ i := by rw [Int.pow_succ]; omega
      have p3 : (1 : Int) * 2 ^ i = 2 ^ i := by omega
      rw [p2]
      obtain ⟨s, es⟩ : ∃ s, r - r % (2 * 2 ^ i) = s := ⟨_, rfl⟩
      have m0 := Int.emod_nonneg r (b := 2 * 2 ^ i) (by omega)
      have m1 : r % (2 * 2 ^ i) ≤ r := by
        have d0 := Int.mul_nonneg (show 0 ≤ 2 * (2 : Int) ^ i by omega) (Int.ediv_nonneg h0 (show 0 ≤ 2 * (2 : Int) ^ i by omega))
        have d1 := Int.emod_def r (2 * 2 ^ i)
        omega
      have s0 : 0 ≤ s := by omega
      have s1 : s ≤ r := by omega
      obtain ⟨st1, st2⟩ := rsq_step r (2 ^ i) (s + 2 ^ i) p0 h0 (by omega)
      rw [es] at st2 ⊢
      have hle := rsq_le n r (s + 2 ^ i) h0 (by omega) H1.out H2.out
      have top : s + 2 * 2 ^ i ≤ 4294967296 := by
        have e32 : (4294967296 : Int) = 2 ^ (31 - i) * (2 * 2 ^ i) := by
          have : (2 : Int) ^ 32 = 2 ^ (31 - i) * (2 * 2 ^ i) := by
            rw [← p2, ← Int.pow_add]
            congr 1
            omega
          rw [← this]
          rfl
        have q1 : r / (2 * 2 ^ i) < 2 ^ (31 - i) := by
          apply Int.ediv_lt_of_lt_mul (by omega)
          omega
        have q2 := Int.mul_le_mul_of_nonneg_right (show r / (2 * 2 ^ i) + 1 ≤ 2 ^ (31 - i) by omega) (show 0 ≤ 2 * (2 : Int) ^ i by omega)
        have d1 := Int.emod_def r (2 * 2 ^ i)
        have d2 : (r / (2 * 2 ^ i) + 1) * (2 * 2 ^ i) = 2 * 2 ^ i * (r / (2 * 2 ^ i)) + 2 * 2 ^ i := by grind
        omega
      have bb := Int.mul_nonneg (show 0 ≤ s + 2 ^ i by omega) (show 0 ≤ s + 2 ^ i by omega)
      have b2 := Int.mul_le_mul (show s + 2 ^ i ≤ 4294967295 by omega) (show s + 2 ^ i ≤ 4294967295 by omega) (show 0 ≤ s + 2 ^ i by omega) (by omega : (0 : Int) ≤ 4294967295)
      clear m0 m1 es p2
      by_cases ht : s + 2 ^ i ≤ r
      · have hn := hle.2 ht
        have E := Lib.hid (st1 ht)
        clear st1 st2 hle
        go_wp2
        go_round
        case rel => exact ⟨i, by omega, rfl, by rw [E.out]⟩
        case measure => simp [intOf]
      · have hn : n < (s + 2 ^ i) * (s + 2 ^ i) := by
          by_cases c : (s + 2 ^ i) * (s + 2 ^ i) ≤ n
          · exact absurd (hle.1 c) ht
          · omega
        have E := Lib.hid (st2 (by omega))
        clear st1 st2 hle
        go_wp2
        go_round
        case rel => exact ⟨i, by omega, rfl, by rw [E.out]⟩
        case measure => simp [intOf]
end Go.Proofs.Ythofacdiajhjmaa
