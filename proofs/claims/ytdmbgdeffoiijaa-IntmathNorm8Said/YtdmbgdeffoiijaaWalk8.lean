import Derived.Test.YtdmbgdeffoiijaaEx
import Derived.WalkKit
import Derived.WalkSpells
import Derived.WalkLawsBesides
import Derived.Below
import Derived.OpenShut
import Derived.Lib.Hide
import Derived.Deep.QuietTactic
import Derived.BigQuiet
namespace Go.Proofs.Ytdmbgdeffoiijaa
open Go.RowKit
set_option linter.unusedVariables false
theorem bel_draw (w : World) (n : Nat) : Below w.heap.size w (w.drewN n) := ⟨rfl, rfl, rfl, Nat.le_refl _, fun _ _ => rfl⟩


theorem norm_comm (a b : Int) : (b * a + 127) / 255 = (a * b + 127) / 255 := by rw [Int.mul_comm]
theorem norm_bd (a b : Int) (ha : 0 ≤ a) (ha' : a ≤ 255) (hb : 0 ≤ b) (hb' : b ≤ 255) : 0 ≤ (a * b + 127) / 255 ∧ (a * b + 127) / 255 ≤ a ∧ (a * b + 127) / 255 ≤ b := by
  have h0 : 0 ≤ a * b := Int.mul_nonneg ha hb
  have h1 : a * b ≤ a * 255 := Int.mul_le_mul_of_nonneg_left hb' ha
  have h2 : a * b ≤ 255 * b := Int.mul_le_mul_of_nonneg_right ha' hb
  omega
theorem norm_mono (a b c : Int) (ha : 0 ≤ a) (h : b ≤ c) : (a * b + 127) / 255 ≤ (a * c + 127) / 255 := by
  have := Int.mul_le_mul_of_nonneg_left h ha
  omega
theorem divN_prod (a b : Int) (ha : 0 ≤ a) (ha' : a ≤ 255) (hb : 0 ≤ b) (hb' : b ≤ 255) : divN (a * b) = (a * b + 127) / 255 := by
  have h0 : 0 ≤ a * b := Int.mul_nonneg ha hb
  have h1 : a * b ≤ 65025 := by
    have := Int.mul_le_mul ha' hb' hb (by omega : (0 : Int) ≤ 255)
    omega
  unfold divN clampV
  rw [if_neg (by omega), if_neg (by omega)]
theorem divN_mono (a b : Int) (h : a ≤ b) : divN a ≤ divN b := by
  have : clampV a 0 65025 ≤ clampV b 0 65025 := by unfold clampV; split <;> split <;> (try split) <;> omega
  unfold divN
  omega

set_option maxHeartbeats 1000000 in
theorem intmathNorm8_walk (a0_0 : Int) (a0_1 : Int) (a0_2 : Int) (a1 : Int) (w : World) (wa0_0 : (Lit.int .u8 a0_0).wf = true) (wa0_1 : (Lit.int .u8 a0_1).wf = true) (wa0_2 : (Lit.int .u8 a0_2).wf = true) (wa1 : (Lit.int .i64 a1).wf = true) :
    Calls Try.prog 7 #[.agg #[.int .u8 a0_0, .int .u8 a0_1, .int .u8 a0_2], .int .i64 a1] w fun e w' => e = .returned (.bool true) ∧ Below w.heap.size w w' := by
  have ha := bounds_u8 wa0_0
  have hb := bounds_u8 wa0_1
  have hc := bounds_u8 wa0_2
  have hn := bounds_i64 wa1
  clear wa0_0 wa0_1 wa0_2 wa1
  obtain ⟨ha, ha'⟩ := ha
  obtain ⟨hb, hb'⟩ := hb
  obtain ⟨hc, hc'⟩ := hc
  obtain ⟨hn, hn'⟩ := hn
  have m1 := fun w => mulNorm8_any a0_0 a0_1 ha ha' hb hb' w
  have m2 := fun w => mulNorm8_any a0_1 a0_0 hb hb' ha ha' w
  have m3 := fun w => mulNorm8_any a0_0 255 ha ha' (by omega) (by omega) w
  have m4 := fun w => mulNorm8_any 0 a0_0 (by omega) (by omega) ha ha' w
  have m5 := fun w => mulNorm8_any a0_0 a0_2 ha ha' hc hc' w
  have d1 := fun w => divNorm8_any (a0_0 * a0_1) w
  have d2 := fun w => divNorm8_any (255 * a0_0) w
  have d3 := fun w => divNorm8_any a1 w
  have d4 := fun w => divNorm8_any (a1 + 1) w
  rw [norm_comm] at m2
  rw [show (a0_0 * 255 + 127) / 255 = a0_0 by omega] at m3
  rw [show ((0 : Int) * a0_0 + 127) / 255 = 0 by omega] at m4
  rw [divN_prod a0_0 a0_1 ha ha' hb hb'] at d1
  rw [divN_prod 255 a0_0 (by omega) (by omega) ha ha', show (255 * a0_0 + 127) / 255 = a0_0 by omega] at d2
  obtain ⟨v0, v1, v2⟩ := norm_bd a0_0 a0_1 ha ha' hb hb'
  have v3 : a0_1 ≤ a0_2 → (a0_0 * a0_1 + 127) / 255 ≤ (a0_0 * a0_2 + 127) / 255 := norm_mono a0_0 a0_1 a0_2 ha
  have v4 := divN_mono a1 (a1 + 1) (by omega)
  have p0 : 0 ≤ a0_0 * a0_1 := Int.mul_nonneg ha hb
  have p1 : a0_0 * a0_1 ≤ 65025 := by
    have := Int.mul_le_mul ha' hb' hb (by omega : (0 : Int) ≤ 255)
    omega
  obtain ⟨V, eV⟩ : ∃ V, (a0_0 * a0_1 + 127) / 255 = V := ⟨_, rfl⟩
  obtain ⟨U, eU⟩ : ∃ U, (a0_0 * a0_2 + 127) / 255 = U := ⟨_, rfl⟩
  obtain ⟨X, eX⟩ : ∃ X, divN a1 = X := ⟨_, rfl⟩
  obtain ⟨Y, eY⟩ : ∃ Y, divN (a1 + 1) = Y := ⟨_, rfl⟩
  rw [eV] at m1 m2 d1 v0 v1 v2 v3
  rw [eU] at m5 v3
  rw [eX] at d3 v4
  rw [eY] at d4 v4
  clear eV eU eX eY
  go_enter Try.func7, Try.ntmps7
  go_wp2
  go_quiet (fail)
  go_wp2_with (first | (go_at_call 16; first | ((with_reducible refine (m1 _).mono ?_); rintro e w' ⟨rfl, rfl⟩) | ((with_reducible refine (m2 _).mono ?_); rintro e w' ⟨rfl, rfl⟩) | ((with_reducible refine (m3 _).mono ?_); rintro e w' ⟨rfl, rfl⟩) | ((with_reducible refine (m4 _).mono ?_); rintro e w' ⟨rfl, rfl⟩) | ((with_reducible refine (m5 _).mono ?_); rintro e w' ⟨rfl, rfl⟩)) | (go_at_call 18; first | ((with_reducible refine (d1 _).mono ?_); rintro e w' ⟨rfl, rfl⟩) | ((with_reducible refine (d2 _).mono ?_); rintro e w' ⟨rfl, rfl⟩) | ((with_reducible refine (d3 _).mono ?_); rintro e w' ⟨rfl, rfl⟩) | ((with_reducible refine (d4 _).mono ?_); rintro e w' ⟨rfl, rfl⟩)) | (go_at_call 15; (with_reducible refine (example_any _).mono ?_); rintro e w' ⟨rfl, nd, rfl⟩))
  all_goals (go_ret; exact ⟨rfl, by repeat (first | exact Below.refl _ _ | exact (Below.refl _ _).alloc (Nat.le_refl _) _ | apply below_drewN)⟩)
end Go.Proofs.Ytdmbgdeffoiijaa
