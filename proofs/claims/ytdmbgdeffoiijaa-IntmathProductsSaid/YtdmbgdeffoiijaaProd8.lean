import Derived.Test.YtdmbgdeffoiijaaEx
import Derived.Test.YtdmbgdeffoiijaaMdr
import Derived.WalkKit
import Derived.WalkSpells
import Derived.WalkLawsBesides
import Derived.Below
import Derived.OpenShut
import Derived.Lib.Hide
import Derived.Deep.QuietTactic
import Derived.BigQuiet
namespace Go.Proofs.Ytdmbgdeffoiijaa
open Go.RowKit
set_option linter.unusedVariables false
theorem bel_draw3 (w : World) (n : Nat) : Below w.heap.size w (w.drewN n) := ⟨rfl, rfl, rfl, Nat.le_refl _, fun _ _ => rfl⟩


theorem tmod30 (a : Int) : -1073741824 < a.tmod 1073741824 ∧ a.tmod 1073741824 < 1073741824 := by
  have h1 := Int.tmod_lt_of_pos a (b := 1073741824) (by omega)
  have h2 := Int.lt_tmod_of_pos a (b := 1073741824) (by omega)
  omega

set_option maxHeartbeats 1000000 in
theorem intmathProducts_walk (a0 : Int) (a1 : Int) (a2 : Int) (w : World) (wa0 : (Lit.int .i64 a0).wf = true) (wa1 : (Lit.int .i64 a1).wf = true) (wa2 : (Lit.int .i64 a2).wf = true) :
    Calls Try.prog 6 #[.int .i64 a0, .int .i64 a1, .int .i64 a2] w fun e w' => e = .returned (.bool true) ∧ Below w.heap.size w w' := by
  obtain ⟨h0, h0'⟩ := bounds_i64 wa0
  obtain ⟨h1, h1'⟩ := bounds_i64 wa1
  obtain ⟨h2, h2'⟩ := bounds_i64 wa2
  clear wa0 wa1 wa2
  obtain ⟨A, eA⟩ : ∃ A, a0.tmod 1073741824 = A := ⟨_, rfl⟩
  obtain ⟨B, eB⟩ : ∃ B, a1.tmod 1073741824 = B := ⟨_, rfl⟩
  have hA := tmod30 a0
  have hB := tmod30 a1
  rw [eA] at hA
  rw [eB] at hB
  obtain ⟨hA, hA'⟩ := hA
  obtain ⟨hB, hB'⟩ := hB
  have hp : (A.natAbs : Int) * B.natAbs ≤ 1152921504606846976 := by
    have := small_prod A B 1073741824 1073741824 (by omega) (by omega) (by omega) (by omega)
    omega
  have hp' : ((A * B).natAbs : Int) ≤ 1152921504606846976 := by rw [Int.natAbs_mul, Int.natCast_mul]; exact hp
  have p0 : -1152921504606846976 ≤ A * B := by omega
  have p1 : A * B ≤ 1152921504606846976 := by omega
  clear hp'
  have m1 := fun w => mulDivRound_any a0 a1 a2 h0 h0' h1 h1' h2 h2' w
  have m2 := fun w => mulDivRound_any a1 a0 a2 h1 h1' h0 h0' h2 h2' w
  have m3 := fun w => mulDivRound_any a0 a2 a2 h0 h0' h2 h2' h2 h2' w
  have m4 := fun w => mulDivRound_any A B a2 (by omega) (by omega) (by omega) (by omega) h2 h2' w
  have m5 := fun w => mulDivRound_any (-A) B a2 (by omega) (by omega) (by omega) (by omega) h2 h2' w
  have d1 := fun w => divRound_any (A * B) a2 (by omega) (by omega) h2 h2' w
  rw [(mdr_comm a1 a0 a2).1, (mdr_comm a1 a0 a2).2] at m2
  by_cases hc : a2 = 0
  · subst hc
    rw [(mdr_zero _ _).1, (mdr_zero _ _).2] at m1 m2 m3 m4 m5
    go_enter Try.func6, Try.ntmps6
    go_wp2_with (first | (go_at_call 9; first | ((with_reducible refine (m1 _).mono ?_); rintro e w' ⟨rfl, nd, rfl⟩) | ((with_reducible refine (m2 _).mono ?_); rintro e w' ⟨rfl, nd, rfl⟩) | ((with_reducible refine (m3 _).mono ?_); rintro e w' ⟨rfl, nd, rfl⟩) | ((with_reducible refine (m4 _).mono ?_); rintro e w' ⟨rfl, nd, rfl⟩) | ((with_reducible refine (m5 _).mono ?_); rintro e w' ⟨rfl, nd, rfl⟩)) | (go_at_call 13; first | ((with_reducible refine (d1 _).mono ?_); rintro e w' ⟨rfl, nd, rfl⟩)) | (go_at_call 15; (with_reducible refine (example_any _).mono ?_); rintro e w' ⟨rfl, nd, rfl⟩))
    all_goals (go_ret; exact ⟨rfl, by repeat (first | exact Below.refl _ _ | exact (Below.refl _ _).alloc (Nat.le_refl _) _ | apply below_drewN)⟩)
  rw [(mdr_self a0 a2 hc h0 h0').1, (mdr_self a0 a2 hc h0 h0').2] at m3
  rw [(mdr_small A B a2 hc (by omega)).1] at m4
  rw [(mdr_neg A B a2 hc (by omega)).1, (mdr_neg A B a2 hc (by omega)).2] at m5
  rw [mdr_prod A B a2 hc (by omega)] at d1
  have hc' : (a2 == 0) = false := by simp [hc]
  replace hc : ¬ a2 = 0 := hc
  obtain ⟨V, eV⟩ : ∃ V, mdrV A B a2 = V := ⟨_, rfl⟩
  have hV : -9223372036854775807 ≤ V ∧ V ≤ 9223372036854775807 := by
    rw [← eV, (mdr_small A B a2 hc (by omega)).2]
    obtain ⟨k0, k1⟩ := mdM_bd A B a2 _ hc hp
    split <;> omega
  obtain ⟨hV, hV'⟩ := hV
  rw [eV] at m4 m5 d1
  clear eV hp
  cases hb : mdrB a0 a1 a2
  · have hv := mdr_false a0 a1 a2 hb
    rw [hb, hv] at m1 m2
    clear hb hv
    go_enter Try.func6, Try.ntmps6
    go_wp2_with (first | (go_at_call 9; first | ((with_reducible refine (m1 _).mono ?_); rintro e w' ⟨rfl, nd, rfl⟩) | ((with_reducible refine (m2 _).mono ?_); rintro e w' ⟨rfl, nd, rfl⟩) | ((with_reducible refine (m3 _).mono ?_); rintro e w' ⟨rfl, nd, rfl⟩) | ((with_reducible refine (m4 _).mono ?_); rintro e w' ⟨rfl, nd, rfl⟩) | ((with_reducible refine (m5 _).mono ?_); rintro e w' ⟨rfl, nd, rfl⟩)) | (go_at_call 13; first | ((with_reducible refine (d1 _).mono ?_); rintro e w' ⟨rfl, nd, rfl⟩)) | (go_at_call 15; (with_reducible refine (example_any _).mono ?_); rintro e w' ⟨rfl, nd, rfl⟩))
    all_goals (go_ret; exact ⟨rfl, by repeat (first | exact Below.refl _ _ | exact (Below.refl _ _).alloc (Nat.le_refl _) _ | apply below_drewN)⟩)
  obtain ⟨U, eU⟩ : ∃ U, mdrV a0 a1 a2 = U := ⟨_, rfl⟩
  rw [hb, eU] at m1 m2
  clear hb eU
  go_enter Try.func6, Try.ntmps6
  go_wp2_with (first | (go_at_call 9; first | ((with_reducible refine (m1 _).mono ?_); rintro e w' ⟨rfl, nd, rfl⟩) | ((with_reducible refine (m2 _).mono ?_); rintro e w' ⟨rfl, nd, rfl⟩) | ((with_reducible refine (m3 _).mono ?_); rintro e w' ⟨rfl, nd, rfl⟩) | ((with_reducible refine (m4 _).mono ?_); rintro e w' ⟨rfl, nd, rfl⟩) | ((with_reducible refine (m5 _).mono ?_); rintro e w' ⟨rfl, nd, rfl⟩)) | (go_at_call 13; first | ((with_reducible refine (d1 _).mono ?_); rintro e w' ⟨rfl, nd, rfl⟩)) | (go_at_call 15; (with_reducible refine (example_any _).mono ?_); rintro e w' ⟨rfl, nd, rfl⟩))
  all_goals (go_ret; exact ⟨rfl, by repeat (first | exact Below.refl _ _ | exact (Below.refl _ _).alloc (Nat.le_refl _) _ | apply below_drewN)⟩)
end Go.Proofs.Ytdmbgdeffoiijaa
