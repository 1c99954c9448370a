
import Derived.Test.YtmelfdajhnbnlaaImb
import Derived.Test.YtmelfdajhnbnlaaShelf
import Derived.WalkKit
import Derived.WalkSpells
import Derived.WalkLawsBesides
import Derived.Lib.Hide
import Derived.Deep.QuietTactic
import Derived.BigQuiet
namespace Go.Proofs.Ytmelfdajhnbnlaa
open Go.RowKit
set_option linter.unusedVariables false


/- MulDivRound, as a function of the magnitudes -/
def sgn (a b c : Int) : Bool := !(!decide (a < 0) == decide (b < 0)) == decide (c < 0)
def mdM (a b c : Int) : Int := if (c.natAbs : Int) - (a.natAbs : Int) * b.natAbs % c.natAbs ≤ (a.natAbs : Int) * b.natAbs % c.natAbs then (a.natAbs : Int) * b.natAbs / c.natAbs + 1 else (a.natAbs : Int) * b.natAbs / c.natAbs
def mdrV (a b c : Int) : Int := if c = 0 then 0 else mdVal (sgn a b c) (mdM a b c)
def mdrB (a b c : Int) : Bool := if c = 0 then false else mdOk (sgn a b c) (mdM a b c)

theorem mdOk_big (neg : Bool) (m : Int) (h : 18446744073709551616 ≤ m) : mdOk neg m = false ∧ mdVal neg m = 0 := by
  have : mdOk neg m = false := by cases neg <;> simp [mdOk] <;> omega
  exact ⟨this, by simp [mdVal, this]⟩

set_option maxHeartbeats 400000 in
theorem mulDivRound_core (a b c A B D : Int) (a0 : -9223372036854775808 ≤ a) (a1 : a ≤ 9223372036854775807) (b0 : -9223372036854775808 ≤ b) (b1 : b ≤ 9223372036854775807) (c0 : -9223372036854775808 ≤ c) (c1 : c ≤ 9223372036854775807)
    (hA : (a.natAbs : Int) = A) (hB : (b.natAbs : Int) = B) (hD : (c.natAbs : Int) = D) (w : World) :
    Calls Try.prog 11 #[.int .i64 a, .int .i64 b, .int .i64 c] w fun e w' => e = .returned (.tuple #[.int .i64 (mdrV a b c), .bool (mdrB a b c)]) ∧ ∃ n, w' = w.drewN n := by
  have A0 : 0 ≤ A := by omega
  have A1 : A ≤ 9223372036854775808 := by omega
  have B0 : 0 ≤ B := by omega
  have B1 : B ≤ 9223372036854775808 := by omega
  have D0 : 0 ≤ D := by omega
  have D1 : D ≤ 9223372036854775808 := by omega
  have p0 : 0 ≤ A * B := Int.mul_nonneg A0 B0
  have ma := magnitude_any a a0 a1
  have mb := magnitude_any b b0 b1
  have mc := magnitude_any c c0 c1
  rw [hA] at ma
  rw [hB] at mb
  rw [hD] at mc
  by_cases hd : D ≤ A * B / 18446744073709551616
  · have fin : mdrV a b c = 0 ∧ mdrB a b c = false := by
      unfold mdrV mdrB
      by_cases h : c = 0
      · simp [h]
      · have hm : 18446744073709551616 ≤ mdM a b c := by
          have : 18446744073709551616 ≤ A * B / D := by
            apply Int.le_ediv_of_mul_le (by omega)
            omega
          unfold mdM
          rw [hA, hB, hD]
          split <;> omega
        simp [h, mdOk_big _ _ hm]
    rw [fin.1, fin.2]
    clear hA hB hD fin
    go_enter Try.func11, Try.ntmps11
    go_wp2_with (first | (go_at_call 19; first | ((with_reducible refine (ma _).mono ?_); rintro e w' ⟨rfl, rfl⟩) | ((with_reducible refine (mb _).mono ?_); rintro e w' ⟨rfl, rfl⟩) | ((with_reducible refine (mc _).mono ?_); rintro e w' ⟨rfl, rfl⟩)) | (go_at_call 18; (with_reducible refine (mul64_any A B A0 (by omega) B0 (by omega) _).mono ?_); rintro e w' ⟨rfl, rfl⟩))
    go_ret2
    exact ⟨rfl, 0, rfl⟩
  have hc : c ≠ 0 := by omega
  have fin : mdrV a b c = mdVal (sgn a b c) (rq (A * B / D) (A * B % D) D) ∧ mdrB a b c = mdOk (sgn a b c) (rq (A * B / D) (A * B % D) D) := by
    unfold mdrV mdrB mdM rq
    rw [hA, hB, hD]
    simp [hc]
  rw [fin.1, fin.2]
  clear hA hB hD fin hc
  have r0 := Int.emod_nonneg (A * B) (b := D) (by omega)
  have r1 := Int.emod_lt_of_pos (A * B) (b := D) (by omega)
  have q0 : 0 ≤ A * B / D := Int.ediv_nonneg p0 D0
  have q1 : A * B / D < 18446744073709551616 := by
    apply Int.ediv_lt_of_lt_mul (by omega)
    omega
  go_enter Try.func11, Try.ntmps11
  go_wp2_with (first | (go_at_call 19; first | ((with_reducible refine (ma _).mono ?_); rintro e w' ⟨rfl, rfl⟩) | ((with_reducible refine (mb _).mono ?_); rintro e w' ⟨rfl, rfl⟩) | ((with_reducible refine (mc _).mono ?_); rintro e w' ⟨rfl, rfl⟩)) | (go_at_call 18; (with_reducible refine (mul64_any A B A0 (by omega) B0 (by omega) _).mono ?_); rintro e w' ⟨rfl, rfl⟩) | (go_at_call 20; (with_reducible refine (div64_n (A * B) D p0 (by omega) (by omega) _).mono ?_); rintro e w' ⟨rfl, nd, rfl⟩) | (go_at_call 21; (with_reducible refine (rounded_any (A * B / D) (A * B % D) D _ q0 (by omega) r0 r1 (by omega) _).mono ?_); rintro e w' ⟨rfl, rfl⟩))
  go_ret2
  exact ⟨rfl, nd, rfl⟩

theorem mulDivRound_any (a b c : Int) (a0 : -9223372036854775808 ≤ a) (a1 : a ≤ 9223372036854775807) (b0 : -9223372036854775808 ≤ b) (b1 : b ≤ 9223372036854775807) (c0 : -9223372036854775808 ≤ c) (c1 : c ≤ 9223372036854775807) (w : World) :
    Calls Try.prog 11 #[.int .i64 a, .int .i64 b, .int .i64 c] w fun e w' => e = .returned (.tuple #[.int .i64 (mdrV a b c), .bool (mdrB a b c)]) ∧ ∃ n, w' = w.drewN n :=
  mulDivRound_core a b c _ _ _ a0 a1 b0 b1 c0 c1 rfl rfl rfl w

theorem divRound_any (a b : Int) (a0 : -9223372036854775808 ≤ a) (a1 : a ≤ 9223372036854775807) (b0 : -9223372036854775808 ≤ b) (b1 : b ≤ 9223372036854775807) (w : World) :
    Calls Try.prog 7 #[.int .i64 a, .int .i64 b] w fun e w' => e = .returned (.int .i64 (mdrV a 1 b)) ∧ ∃ n, w' = w.drewN n := by
  go_enter Try.func7, Try.ntmps7
  go_wp2_with (go_at_call 11; (with_reducible refine (mulDivRound_any a 1 b a0 a1 (by omega) (by omega) b0 b1 _).mono ?_); rintro e w' ⟨rfl, nd, rfl⟩)
  go_ret
  exact ⟨rfl, nd, rfl⟩
end Go.Proofs.Ytmelfdajhnbnlaa
