import Derived.Test.YtdmbgdeffoiijaaEx
import Derived.Test.YtdmbgdeffoiijaaRnd
import Derived.WalkKit
import Derived.WalkSpells
import Derived.WalkLawsBesides
import Derived.Below
import Derived.OpenShut
import Derived.Lib.Hide
import Derived.Deep.QuietTactic
import Derived.BigQuiet
namespace Go.Proofs.Ytdmbgdeffoiijaa
open Go.RowKit
set_option linter.unusedVariables false
theorem bel_draw4 (w : World) (n : Nat) : Below w.heap.size w (w.drewN n) := ⟨rfl, rfl, rfl, Nat.le_refl _, fun _ _ => rfl⟩


set_option maxHeartbeats 1000000 in
theorem intmathRounding_walk (a0 : Int) (a1 : Int) (a2 : Int) (w : World) (wa0 : (Lit.int .u64 a0).wf = true) (wa1 : (Lit.int .i64 a1).wf = true) (wa2 : (Lit.int .i64 a2).wf = true) :
    Calls Try.prog 5 #[.int .u64 a0, .int .i64 a1, .int .i64 a2] w fun e w' => e = .returned (.bool true) ∧ Below w.heap.size w w' := by
  obtain ⟨h0, h0'⟩ := bounds_u64 wa0
  obtain ⟨h1, h1'⟩ := bounds_i64 wa1
  obtain ⟨h2, h2'⟩ := bounds_i64 wa2
  clear wa0 wa1 wa2
  obtain ⟨r, r0, r1, rr0, rr1, rr2, rr3⟩ := isqrt_int a0 h0 h0'
  have s1 := fun w => sqrt_any a0 r h0 h0' r0 rr1 rr2 w
  obtain ⟨A, eA⟩ : ∃ A, a1.tmod 1152921504606846976 = A := ⟨_, rfl⟩
  obtain ⟨B, eB⟩ : ∃ B, a2.tmod 1152921504606846976 = B := ⟨_, rfl⟩
  have hA := tmod60 a1
  have hB := tmod60 a2
  rw [eA] at hA
  rw [eB] at hB
  obtain ⟨hA, hA'⟩ := hA
  obtain ⟨hB, hB'⟩ := hB
  have o : (A.natAbs : Int) * ((1 : Int).natAbs : Int) ≤ 9223372036854775806 := by simp; omega
  have d1 := fun w => divRound_any A B (by omega) (by omega) (by omega) (by omega) w
  have d2 := fun w => divRound_any (-A) B (by omega) (by omega) (by omega) (by omega) w
  have d3 := fun w => divRound_any A (-B) (by omega) (by omega) (by omega) (by omega) w
  have sq : r < 4294967295 ∨ ¬ r < 4294967295 := by omega
  by_cases hb : B = 0
  · subst hb
    have z : mdrV A 1 0 = 0 := (mdr_zero A 1).1
    rw [z] at d1
    clear d2 d3
    rcases sq with sq | sq
    · obtain ⟨t0, t1⟩ := rr3 sq
      clear rr3
      go_enter Try.func5, Try.ntmps5
      go_wp2_with (first | (go_at_call 11; first | ((with_reducible refine (s1 _).mono ?_); rintro e w' ⟨rfl, rfl⟩)) | (go_at_call 13; first | ((with_reducible refine (d1 _).mono ?_); rintro e w' ⟨rfl, nd, rfl⟩) | ((with_reducible refine (d2 _).mono ?_); rintro e w' ⟨rfl, nd, rfl⟩) | ((with_reducible refine (d3 _).mono ?_); rintro e w' ⟨rfl, nd, rfl⟩)) | (go_at_call 9; first | ((with_reducible refine (m1 _).mono ?_); rintro e w' ⟨rfl, nd, rfl⟩)) | (go_at_call 15; (with_reducible refine (example_any _).mono ?_); rintro e w' ⟨rfl, nd, rfl⟩))
      all_goals (go_ret; exact ⟨rfl, by repeat (first | exact Below.refl _ _ | exact (Below.refl _ _).alloc (Nat.le_refl _) _ | apply below_drewN)⟩)
    · clear rr3
      go_enter Try.func5, Try.ntmps5
      go_wp2_with (first | (go_at_call 11; first | ((with_reducible refine (s1 _).mono ?_); rintro e w' ⟨rfl, rfl⟩)) | (go_at_call 13; first | ((with_reducible refine (d1 _).mono ?_); rintro e w' ⟨rfl, nd, rfl⟩) | ((with_reducible refine (d2 _).mono ?_); rintro e w' ⟨rfl, nd, rfl⟩) | ((with_reducible refine (d3 _).mono ?_); rintro e w' ⟨rfl, nd, rfl⟩)) | (go_at_call 9; first | ((with_reducible refine (m1 _).mono ?_); rintro e w' ⟨rfl, nd, rfl⟩)) | (go_at_call 15; (with_reducible refine (example_any _).mono ?_); rintro e w' ⟨rfl, nd, rfl⟩))
      all_goals (go_ret; exact ⟨rfl, by repeat (first | exact Below.refl _ _ | exact (Below.refl _ _).alloc (Nat.le_refl _) _ | apply below_drewN)⟩)
  have hb' : (B == 0) = false := by simp [hb]
  obtain ⟨W, w0, w1, w2, w3, w4, w5, w6⟩ := round_parts A B hb (by omega)
  rw [(mdr_neg A 1 B hb o).1] at d2
  rw [mdr_negc A 1 B hb o] at d3
  obtain ⟨Q, eQ⟩ : ∃ Q, mdrV A 1 B = Q := ⟨_, rfl⟩
  rw [eQ] at d1 d2 d3 w3 w4 w5 w6
  have m1 := fun w => mulDivRound_any Q B B (by omega) (by omega) (by omega) (by omega) (by omega) (by omega) w
  rw [(mdr_self Q B hb (by omega) (by omega)).1, (mdr_self Q B hb (by omega) (by omega)).2] at m1
  clear eQ o
  have p0 : -4611686018427387904 ≤ Q * B := by omega
  have p1 : Q * B ≤ 4611686018427387904 := by omega
  rcases sq with sq | sq
  · obtain ⟨t0, t1⟩ := rr3 sq
    clear rr3
    by_cases sA : 0 ≤ A
    · have e := w3 sA
      have e' : -Q * B = -W := by rw [Int.neg_mul, e]
      clear w3 w4
      go_enter Try.func5, Try.ntmps5
      go_wp2_with (first | (go_at_call 11; first | ((with_reducible refine (s1 _).mono ?_); rintro e w' ⟨rfl, rfl⟩)) | (go_at_call 13; first | ((with_reducible refine (d1 _).mono ?_); rintro e w' ⟨rfl, nd, rfl⟩) | ((with_reducible refine (d2 _).mono ?_); rintro e w' ⟨rfl, nd, rfl⟩) | ((with_reducible refine (d3 _).mono ?_); rintro e w' ⟨rfl, nd, rfl⟩)) | (go_at_call 9; first | ((with_reducible refine (m1 _).mono ?_); rintro e w' ⟨rfl, nd, rfl⟩)) | (go_at_call 15; (with_reducible refine (example_any _).mono ?_); rintro e w' ⟨rfl, nd, rfl⟩))
      all_goals (go_ret; exact ⟨rfl, by repeat (first | exact Below.refl _ _ | exact (Below.refl _ _).alloc (Nat.le_refl _) _ | apply below_drewN)⟩)
    · have e := w4 (by omega)
      have e' : -Q * B = W := by rw [Int.neg_mul, e]; omega
      clear w3 w4
      go_enter Try.func5, Try.ntmps5
      go_wp2_with (first | (go_at_call 11; first | ((with_reducible refine (s1 _).mono ?_); rintro e w' ⟨rfl, rfl⟩)) | (go_at_call 13; first | ((with_reducible refine (d1 _).mono ?_); rintro e w' ⟨rfl, nd, rfl⟩) | ((with_reducible refine (d2 _).mono ?_); rintro e w' ⟨rfl, nd, rfl⟩) | ((with_reducible refine (d3 _).mono ?_); rintro e w' ⟨rfl, nd, rfl⟩)) | (go_at_call 9; first | ((with_reducible refine (m1 _).mono ?_); rintro e w' ⟨rfl, nd, rfl⟩)) | (go_at_call 15; (with_reducible refine (example_any _).mono ?_); rintro e w' ⟨rfl, nd, rfl⟩))
      all_goals (go_ret; exact ⟨rfl, by repeat (first | exact Below.refl _ _ | exact (Below.refl _ _).alloc (Nat.le_refl _) _ | apply below_drewN)⟩)
  · clear rr3
    by_cases sA : 0 ≤ A
    · have e := w3 sA
      have e' : -Q * B = -W := by rw [Int.neg_mul, e]
      clear w3 w4
      go_enter Try.func5, Try.ntmps5
      go_wp2_with (first | (go_at_call 11; first | ((with_reducible refine (s1 _).mono ?_); rintro e w' ⟨rfl, rfl⟩)) | (go_at_call 13; first | ((with_reducible refine (d1 _).mono ?_); rintro e w' ⟨rfl, nd, rfl⟩) | ((with_reducible refine (d2 _).mono ?_); rintro e w' ⟨rfl, nd, rfl⟩) | ((with_reducible refine (d3 _).mono ?_); rintro e w' ⟨rfl, nd, rfl⟩)) | (go_at_call 9; first | ((with_reducible refine (m1 _).mono ?_); rintro e w' ⟨rfl, nd, rfl⟩)) | (go_at_call 15; (with_reducible refine (example_any _).mono ?_); rintro e w' ⟨rfl, nd, rfl⟩))
      all_goals (go_ret; exact ⟨rfl, by repeat (first | exact Below.refl _ _ | exact (Below.refl _ _).alloc (Nat.le_refl _) _ | apply below_drewN)⟩)
    · have e := w4 (by omega)
      have e' : -Q * B = W := by rw [Int.neg_mul, e]; omega
      clear w3 w4
      go_enter Try.func5, Try.ntmps5
      go_wp2_with (first | (go_at_call 11; first | ((with_reducible refine (s1 _).mono ?_); rintro e w' ⟨rfl, rfl⟩)) | (go_at_call 13; first | ((with_reducible refine (d1 _).mono ?_); rintro e w' ⟨rfl, nd, rfl⟩) | ((with_reducible refine (d2 _).mono ?_); rintro e w' ⟨rfl, nd, rfl⟩) | ((with_reducible refine (d3 _).mono ?_); rintro e w' ⟨rfl, nd, rfl⟩)) | (go_at_call 9; first | ((with_reducible refine (m1 _).mono ?_); rintro e w' ⟨rfl, nd, rfl⟩)) | (go_at_call 15; (with_reducible refine (example_any _).mono ?_); rintro e w' ⟨rfl, nd, rfl⟩))
      all_goals (go_ret; exact ⟨rfl, by repeat (first | exact Below.refl _ _ | exact (Below.refl _ _).alloc (Nat.le_refl _) _ | apply below_drewN)⟩)
end Go.Proofs.Ytdmbgdeffoiijaa
