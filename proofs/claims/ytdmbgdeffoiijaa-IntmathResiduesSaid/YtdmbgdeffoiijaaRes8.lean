import Derived.Test.YtdmbgdeffoiijaaEx
import Derived.WalkKit
import Derived.WalkSpells
import Derived.WalkLawsBesides
import Derived.Below
import Derived.OpenShut
import Derived.Lib.Hide
import Derived.Deep.QuietTactic
import Derived.BigQuiet
namespace Go.Proofs.Ytdmbgdeffoiijaa
open Go.RowKit
set_option linter.unusedVariables false
theorem bel_draw2 (w : World) (n : Nat) : Below w.heap.size w (w.drewN n) := ⟨rfl, rfl, rfl, Nat.le_refl _, fun _ _ => rfl⟩


theorem modV_pos (a b : Int) (h : 0 < b) : modV a b = a % b := by unfold modV; rw [if_neg (by omega)]
theorem modV_neg (a b : Int) (h : b ≤ 0) : modV a b = 0 := by unfold modV; rw [if_pos h]
theorem clampV_a (a lo hi : Int) (h : a < lo) : clampV a lo hi = lo := by unfold clampV; rw [if_pos h]
theorem clampV_b (a lo hi : Int) (h : ¬ a < lo) (h2 : hi < a) : clampV a lo hi = hi := by unfold clampV; rw [if_neg h, if_pos h2]
theorem clampV_c (a lo hi : Int) (h : ¬ a < lo) (h2 : ¬ hi < a) : clampV a lo hi = a := by unfold clampV; rw [if_neg h, if_neg h2]
theorem tmod_cases (a b : Int) (hb : 0 < b) : (0 ≤ a → a.tmod b = a % b) ∧ (a < 0 → a % b = 0 → a.tmod b = 0) ∧ (a < 0 → a % b ≠ 0 → a.tmod b = a % b - b) := by
  have t := Int.tmod_eq_emod (a := a) (b := b)
  have hn : (b.natAbs : Int) = b := by omega
  have d : b ∣ a ↔ a % b = 0 := Int.dvd_iff_emod_eq_zero
  refine ⟨fun h => ?_, fun h h0 => ?_, fun h h0 => ?_⟩
  · rw [t, if_pos (Or.inl h)]; omega
  · rw [t, if_pos (Or.inr (d.2 h0))]; omega
  · rw [t, if_neg (by rw [d]; omega)]; omega

set_option maxHeartbeats 1000000 in
theorem intmathResidues_walk (a0 : Int) (a1 : Int) (a2_0 : Int) (a2_1 : Int) (w : World) (wa0 : (Lit.int .i64 a0).wf = true) (wa1 : (Lit.int .i64 a1).wf = true) (wa2_0 : (Lit.int .i64 a2_0).wf = true) (wa2_1 : (Lit.int .i64 a2_1).wf = true) :
    Calls Try.prog 8 #[.int .i64 a0, .int .i64 a1, .agg #[.int .i64 a2_0, .int .i64 a2_1]] w fun e w' => e = .returned (.bool true) ∧ Below w.heap.size w w' := by
  obtain ⟨h0, h0'⟩ := bounds_i64 wa0
  obtain ⟨h1, h1'⟩ := bounds_i64 wa1
  clear wa0 wa1 wa2_0 wa2_1
  have o1 := fun w => mod_any a0 a1 h0 h0' h1' w
  have p1 := fun w => clamp_any a0 a2_0 a2_1 w
  by_cases hb : a1 ≤ 0
  · rw [modV_neg _ _ hb] at o1
    go_enter Try.func8, Try.ntmps8
    go_wp2
    go_quiet (fail)
    go_wp2_with (first | (go_at_call 22; first | ((with_reducible refine (o1 _).mono ?_); rintro e w' ⟨rfl, rfl⟩)) | (go_at_call 20; first | ((with_reducible refine (p1 _).mono ?_); rintro e w' ⟨rfl, rfl⟩)) | (go_at_call 15; (with_reducible refine (example_any _).mono ?_); rintro e w' ⟨rfl, nd, rfl⟩))
    all_goals (go_ret; exact ⟨rfl, by repeat (first | exact Below.refl _ _ | exact (Below.refl _ _).alloc (Nat.le_refl _) _ | apply below_drewN)⟩)
  have hb' : 0 < a1 := by omega
  rw [modV_pos _ _ hb'] at o1
  obtain ⟨t1, t2, t3⟩ := tmod_cases a0 a1 hb'
  have m0 := Int.emod_nonneg a0 (b := a1) (by omega)
  have m1 := Int.emod_lt_of_pos a0 (b := a1) (by omega)
  have m2 : a0 % a1 % a1 = a0 % a1 := Int.emod_emod_of_dvd a0 (Int.dvd_refl a1)
  have hz : (a1 == 0) = false := by simp; omega
  by_cases k1 : a0 < a2_0
  · rw [clampV_a _ _ _ k1] at p1
    by_cases ha : 0 ≤ a0
    · clear t1 t2 t3
      have g1 : decide (a0 % a1 < 0) = false := by simp <;> omega
      have g2 : decide (a1 ≤ a0 % a1) = false := by simp <;> omega
      go_enter Try.func8, Try.ntmps8
      go_wp2
      go_quiet (fail)
      go_wp2_with ((go_at_call 22; first | ((with_reducible refine (o1 _).mono ?_); rintro e w' ⟨rfl, rfl⟩)))
      go_quiet (fail)
      go_wp2_with (first | (go_at_call 20; first | ((with_reducible refine (p1 _).mono ?_); rintro e w' ⟨rfl, rfl⟩)) | (go_at_call 15; (with_reducible refine (example_any _).mono ?_); rintro e w' ⟨rfl, nd, rfl⟩))
      all_goals (go_ret; exact ⟨rfl, by repeat (first | exact Below.refl _ _ | exact (Below.refl _ _).alloc (Nat.le_refl _) _ | apply below_drewN)⟩)
    by_cases hm : a0 % a1 = 0
    · have t := t2 (by omega) hm
      rw [hm] at o1 m0 m1 m2
      clear t1 t2 t3 hm
      have g1 : decide ((0 : Int) < 0) = false := by simp
      have g2 : decide (a1 ≤ (0 : Int)) = false := by simp <;> omega
      go_enter Try.func8, Try.ntmps8
      go_wp2
      go_quiet (fail)
      go_wp2_with ((go_at_call 22; first | ((with_reducible refine (o1 _).mono ?_); rintro e w' ⟨rfl, rfl⟩)))
      go_quiet (fail)
      go_wp2_with (first | (go_at_call 20; first | ((with_reducible refine (p1 _).mono ?_); rintro e w' ⟨rfl, rfl⟩)) | (go_at_call 15; (with_reducible refine (example_any _).mono ?_); rintro e w' ⟨rfl, nd, rfl⟩))
      all_goals (go_ret; exact ⟨rfl, by repeat (first | exact Below.refl _ _ | exact (Below.refl _ _).alloc (Nat.le_refl _) _ | apply below_drewN)⟩)
    have t := t3 (by omega) hm
    obtain ⟨R, eR⟩ : ∃ R, a0.tmod a1 = R := ⟨_, rfl⟩
    obtain ⟨M, eM⟩ : ∃ M, a0 % a1 = M := ⟨_, rfl⟩
    rw [eM] at o1 m0 m1 m2 t hm
    rw [eR] at t
    have g1 : decide (M < 0) = false := by simp; omega
    have g2 : decide (a1 ≤ M) = false := by simp; omega
    have g3 : (R == M) = false := by simp; omega
    have g4 : (R + a1 == M) = true := by simp; omega
    have g7 : ¬ R = M := by omega
    have g8 : (R != M) = true := by simp; omega
    have g9 : R + a1 = M := by omega
    have g5 : -9223372036854775808 ≤ R := by omega
    have g6 : R ≤ 9223372036854775807 := by omega
    clear t1 t2 t3 eM hm t
    go_enter Try.func8, Try.ntmps8
    go_wp2
    go_quiet (fail)
    go_wp2_with ((go_at_call 22; first | ((with_reducible refine (o1 _).mono ?_); rintro e w' ⟨rfl, rfl⟩)))
    go_quiet (fail)
    go_wp2_with (first | (go_at_call 20; first | ((with_reducible refine (p1 _).mono ?_); rintro e w' ⟨rfl, rfl⟩)) | (go_at_call 15; (with_reducible refine (example_any _).mono ?_); rintro e w' ⟨rfl, nd, rfl⟩))
    all_goals (go_ret; exact ⟨rfl, by repeat (first | exact Below.refl _ _ | exact (Below.refl _ _).alloc (Nat.le_refl _) _ | apply below_drewN)⟩)
  by_cases k2 : a2_1 < a0
  · rw [clampV_b _ _ _ k1 k2] at p1
    by_cases ha : 0 ≤ a0
    · clear t1 t2 t3
      have g1 : decide (a0 % a1 < 0) = false := by simp <;> omega
      have g2 : decide (a1 ≤ a0 % a1) = false := by simp <;> omega
      go_enter Try.func8, Try.ntmps8
      go_wp2
      go_quiet (fail)
      go_wp2_with ((go_at_call 22; first | ((with_reducible refine (o1 _).mono ?_); rintro e w' ⟨rfl, rfl⟩)))
      go_quiet (fail)
      go_wp2_with (first | (go_at_call 20; first | ((with_reducible refine (p1 _).mono ?_); rintro e w' ⟨rfl, rfl⟩)) | (go_at_call 15; (with_reducible refine (example_any _).mono ?_); rintro e w' ⟨rfl, nd, rfl⟩))
      all_goals (go_ret; exact ⟨rfl, by repeat (first | exact Below.refl _ _ | exact (Below.refl _ _).alloc (Nat.le_refl _) _ | apply below_drewN)⟩)
    by_cases hm : a0 % a1 = 0
    · have t := t2 (by omega) hm
      rw [hm] at o1 m0 m1 m2
      clear t1 t2 t3 hm
      have g1 : decide ((0 : Int) < 0) = false := by simp
      have g2 : decide (a1 ≤ (0 : Int)) = false := by simp <;> omega
      go_enter Try.func8, Try.ntmps8
      go_wp2
      go_quiet (fail)
      go_wp2_with ((go_at_call 22; first | ((with_reducible refine (o1 _).mono ?_); rintro e w' ⟨rfl, rfl⟩)))
      go_quiet (fail)
      go_wp2_with (first | (go_at_call 20; first | ((with_reducible refine (p1 _).mono ?_); rintro e w' ⟨rfl, rfl⟩)) | (go_at_call 15; (with_reducible refine (example_any _).mono ?_); rintro e w' ⟨rfl, nd, rfl⟩))
      all_goals (go_ret; exact ⟨rfl, by repeat (first | exact Below.refl _ _ | exact (Below.refl _ _).alloc (Nat.le_refl _) _ | apply below_drewN)⟩)
    have t := t3 (by omega) hm
    obtain ⟨R, eR⟩ : ∃ R, a0.tmod a1 = R := ⟨_, rfl⟩
    obtain ⟨M, eM⟩ : ∃ M, a0 % a1 = M := ⟨_, rfl⟩
    rw [eM] at o1 m0 m1 m2 t hm
    rw [eR] at t
    have g1 : decide (M < 0) = false := by simp; omega
    have g2 : decide (a1 ≤ M) = false := by simp; omega
    have g3 : (R == M) = false := by simp; omega
    have g4 : (R + a1 == M) = true := by simp; omega
    have g7 : ¬ R = M := by omega
    have g8 : (R != M) = true := by simp; omega
    have g9 : R + a1 = M := by omega
    have g5 : -9223372036854775808 ≤ R := by omega
    have g6 : R ≤ 9223372036854775807 := by omega
    clear t1 t2 t3 eM hm t
    go_enter Try.func8, Try.ntmps8
    go_wp2
    go_quiet (fail)
    go_wp2_with ((go_at_call 22; first | ((with_reducible refine (o1 _).mono ?_); rintro e w' ⟨rfl, rfl⟩)))
    go_quiet (fail)
    go_wp2_with (first | (go_at_call 20; first | ((with_reducible refine (p1 _).mono ?_); rintro e w' ⟨rfl, rfl⟩)) | (go_at_call 15; (with_reducible refine (example_any _).mono ?_); rintro e w' ⟨rfl, nd, rfl⟩))
    all_goals (go_ret; exact ⟨rfl, by repeat (first | exact Below.refl _ _ | exact (Below.refl _ _).alloc (Nat.le_refl _) _ | apply below_drewN)⟩)
  rw [clampV_c _ _ _ k1 k2] at p1
  by_cases ha : 0 ≤ a0
  · clear t1 t2 t3
    have g1 : decide (a0 % a1 < 0) = false := by simp <;> omega
    have g2 : decide (a1 ≤ a0 % a1) = false := by simp <;> omega
    go_enter Try.func8, Try.ntmps8
    go_wp2
    go_quiet (fail)
    go_wp2_with ((go_at_call 22; first | ((with_reducible refine (o1 _).mono ?_); rintro e w' ⟨rfl, rfl⟩)))
    go_quiet (fail)
    go_wp2_with (first | (go_at_call 20; first | ((with_reducible refine (p1 _).mono ?_); rintro e w' ⟨rfl, rfl⟩)) | (go_at_call 15; (with_reducible refine (example_any _).mono ?_); rintro e w' ⟨rfl, nd, rfl⟩))
    all_goals (go_ret; exact ⟨rfl, by repeat (first | exact Below.refl _ _ | exact (Below.refl _ _).alloc (Nat.le_refl _) _ | apply below_drewN)⟩)
  by_cases hm : a0 % a1 = 0
  · have t := t2 (by omega) hm
    rw [hm] at o1 m0 m1 m2
    clear t1 t2 t3 hm
    have g1 : decide ((0 : Int) < 0) = false := by simp
    have g2 : decide (a1 ≤ (0 : Int)) = false := by simp <;> omega
    go_enter Try.func8, Try.ntmps8
    go_wp2
    go_quiet (fail)
    go_wp2_with ((go_at_call 22; first | ((with_reducible refine (o1 _).mono ?_); rintro e w' ⟨rfl, rfl⟩)))
    go_quiet (fail)
    go_wp2_with (first | (go_at_call 20; first | ((with_reducible refine (p1 _).mono ?_); rintro e w' ⟨rfl, rfl⟩)) | (go_at_call 15; (with_reducible refine (example_any _).mono ?_); rintro e w' ⟨rfl, nd, rfl⟩))
    all_goals (go_ret; exact ⟨rfl, by repeat (first | exact Below.refl _ _ | exact (Below.refl _ _).alloc (Nat.le_refl _) _ | apply below_drewN)⟩)
  have t := t3 (by omega) hm
  obtain ⟨R, eR⟩ : ∃ R, a0.tmod a1 = R := ⟨_, rfl⟩
  obtain ⟨M, eM⟩ : ∃ M, a0 % a1 = M := ⟨_, rfl⟩
  rw [eM] at o1 m0 m1 m2 t hm
  rw [eR] at t
  have g1 : decide (M < 0) = false := by simp; omega
  have g2 : decide (a1 ≤ M) = false := by simp; omega
  have g3 : (R == M) = false := by simp; omega
  have g4 : (R + a1 == M) = true := by simp; omega
  have g7 : ¬ R = M := by omega
  have g8 : (R != M) = true := by simp; omega
  have g9 : R + a1 = M := by omega
  have g5 : -9223372036854775808 ≤ R := by omega
  have g6 : R ≤ 9223372036854775807 := by omega
  clear t1 t2 t3 eM hm t
  go_enter Try.func8, Try.ntmps8
  go_wp2
  go_quiet (fail)
  go_wp2_with ((go_at_call 22; first | ((with_reducible refine (o1 _).mono ?_); rintro e w' ⟨rfl, rfl⟩)))
  go_quiet (fail)
  go_wp2_with (first | (go_at_call 20; first | ((with_reducible refine (p1 _).mono ?_); rintro e w' ⟨rfl, rfl⟩)) | (go_at_call 15; (with_reducible refine (example_any _).mono ?_); rintro e w' ⟨rfl, nd, rfl⟩))
  all_goals (go_ret; exact ⟨rfl, by repeat (first | exact Below.refl _ _ | exact (Below.refl _ _).alloc (Nat.le_refl _) _ | apply below_drewN)⟩)
end Go.Proofs.Ytdmbgdeffoiijaa
