
import Derived.Test.YtmelfdajhnbnlaaDv
import Derived.Test.YtmelfdajhnbnlaaShelf
import Derived.WalkKit
import Derived.WalkSpells
import Derived.WalkLawsBesides
import Derived.Lib.Hide
import Derived.Deep.QuietTactic
import Derived.BigQuiet
namespace Go.Proofs.Ytmelfdajhnbnlaa
open Go.RowKit
set_option linter.unusedVariables false

theorem div64_any (hi lo y : Int) (h0 : 0 ≤ hi) (h1 : hi < y) (h2 : y ≤ 18446744073709551615) (h3 : 0 ≤ lo) (h4 : lo ≤ 18446744073709551615) (w : World) :
    Calls Try.prog 20 #[.int .u64 hi, .int .u64 lo, .int .u64 y] w fun e w' => e = .returned (.tuple #[.int .u64 ((hi * 18446744073709551616 + lo) / y), .int .u64 ((hi * 18446744073709551616 + lo) % y)]) ∧ ∃ n, w' = w.drewN n := by
  by_cases h : 1 ≤ hi
  · obtain ⟨hi, rfl⟩ := Int.eq_ofNat_of_zero_le h0
    obtain ⟨lo, rfl⟩ := Int.eq_ofNat_of_zero_le h3
    obtain ⟨y, rfl⟩ := Int.eq_ofNat_of_zero_le (show 0 ≤ y by omega)
    refine (div64_big hi lo y (by omega) (by omega) (by omega) (by omega) w).mono ?_
    rintro e w' ⟨rfl, rfl⟩
    exact ⟨rfl, 0, rfl⟩
  · obtain rfl : hi = 0 := by omega
    have hy : (y == 0) = false := by simp; omega
    have hq0 : 0 ≤ lo / y := Int.ediv_nonneg h3 (by omega)
    have hq1 : lo / y ≤ lo := Int.ediv_le_self _ h3
    go_enter Try.func20, Try.ntmps20
    go_wp2
    go_quiet (fail)
    go_wp2
    go_ret2
    exact ⟨by simp, _, rfl⟩

theorem div64_n (n y : Int) (h0 : 0 ≤ n) (h1 : n / 18446744073709551616 < y) (h2 : y ≤ 18446744073709551615) (w : World) :
    Calls Try.prog 20 #[.int .u64 (n / 18446744073709551616), .int .u64 (n % 18446744073709551616), .int .u64 y] w fun e w' => e = .returned (.tuple #[.int .u64 (n / y), .int .u64 (n % y)]) ∧ ∃ n, w' = w.drewN n := by
  refine (div64_any (n / 18446744073709551616) (n % 18446744073709551616) y (by omega) h1 h2 (by omega) (by omega) w).mono ?_
  rintro e w' ⟨rfl, nd, rfl⟩
  refine ⟨?_, nd, rfl⟩
  rw [show n / 18446744073709551616 * 18446744073709551616 + n % 18446744073709551616 = n by omega]

theorem mul64_any (x y : Int) (h0 : 0 ≤ x) (h1 : x ≤ 18446744073709551615) (h2 : 0 ≤ y) (h3 : y ≤ 18446744073709551615) (w : World) :
    Calls Try.prog 18 #[.int .u64 x, .int .u64 y] w fun e w' => e = .returned (.tuple #[.int .u64 (x * y / 18446744073709551616), .int .u64 (x * y % 18446744073709551616)]) ∧ w = w' := by
  obtain ⟨x, rfl⟩ := Int.eq_ofNat_of_zero_le h0
  obtain ⟨y, rfl⟩ := Int.eq_ofNat_of_zero_le h2
  refine (Try.bits_Mul64 x y (by omega) (by omega) w).mono ?_
  rintro e w' ⟨rfl, rfl⟩
  refine ⟨?_, rfl⟩
  rw [Int.natCast_ediv, Int.natCast_emod, Int.natCast_mul]
  rfl

set_option maxHeartbeats 400000 in
theorem magnitude_any (n : Int) (h0 : -9223372036854775808 ≤ n) (h1 : n ≤ 9223372036854775807) (w : World) :
    Calls Try.prog 19 #[.int .i64 n] w fun e w' => e = .returned (.int .u64 (n.natAbs : Int)) ∧ w = w' := by
  by_cases h : n < 0
  · have e : IntKind.u64.wrap (-IntKind.u64.wrap n) = (n.natAbs : Int) := by simp only [IntKind.wrap_u64]; omega
    go_enter Try.func19, Try.ntmps19
    go_wp2
    go_ret
    exact ⟨rfl, rfl⟩
  · obtain ⟨k, rfl⟩ := Int.eq_ofNat_of_zero_le (show 0 ≤ n by omega)
    go_enter Try.func19, Try.ntmps19
    go_wp2
    go_ret
    exact ⟨by simp, rfl⟩

theorem roundsUp_any (d r : Int) (h0 : 0 ≤ r) (h1 : r ≤ d) (h2 : d ≤ 18446744073709551615) (w : World) :
    Calls Try.prog 22 #[.int .u64 d, .int .u64 r] w fun e w' => e = .returned (.bool (decide (d - r ≤ r))) ∧ w = w' := by
  go_enter Try.func22, Try.ntmps22
  go_wp2
  go_ret
  exact ⟨rfl, rfl⟩
end Go.Proofs.Ytmelfdajhnbnlaa
