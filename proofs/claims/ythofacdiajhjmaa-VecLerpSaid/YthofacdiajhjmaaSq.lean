import Derived.Test.YthofacdiajhjmaaDivNum
import Derived.Test.YthofacdiajhjmaaRows
import Derived.Test.YthofacdiajhjmaaShelf
import Derived.WalkKit
import Derived.WalkSpells
import Derived.WalkLawsBesides
import Derived.Lib.Hide
import Derived.Deep.QuietTactic
import Derived.BigQuiet
namespace Go.Proofs.Ythofacdiajhjmaa
open Go.RowKit
set_option linter.unusedVariables false

theorem newton_lo (n t r : Int) (ht : 1 ≤ t) (hr : r * r ≤ n) : r ≤ (t + n / t) / 2 := by
  have h : 2 * r - t ≤ n / t := by
    apply Int.le_ediv_of_mul_le (by omega)
    have e : (2 * r - t) * t = r * r - (r - t) * (r - t) := by grind
    have k : 0 ≤ (r - t) * (r - t) := by
      rcases Int.le_total 0 (r - t) with h | h
      · exact Int.mul_nonneg h h
      · exact Int.mul_nonneg_of_nonpos_of_nonpos h h
    omega
  omega
theorem newton_end (n t r : Int) (ht : 1 ≤ t) (hr0 : 0 ≤ r) (hr : n < (r + 1) * (r + 1)) (hrt : r ≤ t) (h : t ≤ (t + n / t) / 2) : t = r := by
  have h1 : t ≤ n / t := by omega
  have h2 : t * t ≤ n := Int.mul_le_of_le_ediv (by omega) h1
  by_cases c : r + 1 ≤ t
  · have := Int.mul_le_mul c c (by omega) (by omega)
    omega
  · omega
theorem newton_bd (n t r : Int) (h1 : 1 ≤ r) (hrt : r ≤ t) (h : t ≤ 4294967296) (hr : n < (r + 1) * (r + 1)) (hn : 0 ≤ n) : 0 ≤ n / t ∧ n / t ≤ 4294967300 := by
  refine ⟨Int.ediv_nonneg hn (by omega), ?_⟩
  have a : n / t < 4294967301 := by
    apply Int.ediv_lt_of_lt_mul (by omega)
    have e : (r + 1) * (r + 1) = r * r + 2 * r + 1 := by grind
    have k : r * r ≤ 4294967296 * r := Int.mul_le_mul_of_nonneg_right (by omega) (by omega)
    omega
  omega
theorem sq_lt (r p n : Int) (hp : 0 ≤ p) (hr : r * r ≤ n) (h : n < p * p) (h0 : 0 ≤ r) : r < p := by
  by_cases c : p ≤ r
  · have := Int.mul_le_mul c c hp h0
    omega
  · omega
theorem root_start (n : Nat) (r : Int) (hn : n < 18446744073709551616) (hn0 : n ≠ 0) (h0 : 0 ≤ r) (hr : r * r ≤ n) :
    ∃ k : Nat, k ≤ 32 ∧ ((Lib.bitLen n : Nat) : Int) ≤ 64 ∧ (((Lib.bitLen n : Nat) : Int) + 1) / 2 = (k : Int) ∧ (1 : Int) * 2 ^ k ≤ 4294967296 ∧ r < 2 ^ k ∧ (0 : Int) < 2 ^ k := by
  have hb := (DivNum.bitLen_bd n hn hn0).1
  have hl := Lib.bitLen_le n 64 (by omega) (by omega)
  generalize Lib.bitLen n = L at *
  have hk : (2 : Nat) ^ ((L + 1) / 2) ≤ 2 ^ 32 := Nat.pow_le_pow_right (by omega) (by omega)
  have hk' : ((2 ^ ((L + 1) / 2) : Nat) : Int) = (2 : Int) ^ ((L + 1) / 2) := by norm_cast
  have hp := Nat.two_pow_pos ((L + 1) / 2)
  have hsq : n < 2 ^ ((L + 1) / 2) * 2 ^ ((L + 1) / 2) := by
    rw [← Nat.pow_add]
    exact Nat.lt_of_lt_of_le hb (Nat.pow_le_pow_right (by omega) (by omega))
  refine ⟨(L + 1) / 2, by omega, by omega, by omega, ?_, ?_, ?_⟩
  · rw [← hk']; omega
  · apply sq_lt r _ n (by rw [← hk']; omega) hr _ h0
    rw [← hk']
    exact_mod_cast hsq
  · rw [← hk']; omega

set_option maxHeartbeats 400000 in
theorem sqrt_any (n r : Int) (n0 : 0 ≤ n) (n1 : n ≤ 18446744073709551615) (h0 : 0 ≤ r) (hr : r * r ≤ n) (hr' : n < (r + 1) * (r + 1)) (w : World) :
    Calls Try.prog 7 #[.int .u64 n] w fun e w' => e = .returned (.int .u64 r) ∧ w = w' := by
  by_cases hz : n = 0
  · have e : r = 0 := by
      have := sq_lt r 1 n (by omega) hr (by omega) h0
      omega
    subst hz e
    go_enter Try.func7, Try.ntmps7
    go_wp2
    go_ret
    exact ⟨rfl, rfl⟩
  have hz' : (n == 0) = false := by simp [hz]
  have hr1 : 1 ≤ r := by
    by_cases c : r = 0
    · subst c; omega
    · omega
  obtain ⟨n, rfl⟩ := Int.eq_ofNat_of_zero_le n0
  obtain ⟨k, k32, l64, hk, hp, hrp, hpp⟩ := root_start n r (by omega) (by omega) h0 hr
  have H1 := Lib.hid hr; have H2 := Lib.hid hr'
  clear hr hr' hz
  go_enter Try.func7, Try.ntmps7
  go_wp2_with (go_at_call 24; refine (Try.bits_Len64 _ _ (by omega) (by omega)).mono ?_; rintro e w' ⟨rfl, rfl⟩)
  go_loop [3] (fun q => ∃ t : Int, q = .int .u64 t ∧ r ≤ t ∧ t ≤ 4294967296) (fun q => (intOf q).toNat)
  case atStart => exact ⟨2 ^ k, rfl, by omega, by omega⟩
  case round =>
    obtain ⟨t, rfl, ht, ht'⟩ := hrel
    have c1 := newton_lo n t r (by omega) H1.out
    obtain ⟨c2, c3⟩ := newton_bd n t r hr1 ht ht' H2.out n0
    by_cases c : t ≤ (t + n / t) / 2
    · have C4 := Lib.hid (newton_end n t r (by omega) h0 H2.out ht c)
      go_wp2
      go_ret
      exact ⟨by first | (rw [← C4.out]; done) | (rw [← C4.out]; rfl), rfl⟩
    · go_wp2
      go_round
      case rel => exact ⟨(t + n / t) / 2, rfl, c1, by omega⟩
      case measure => simp [intOf]; omega
end Go.Proofs.Ythofacdiajhjmaa
