
import Derived.Test.YtcofiekfhnfjpaaS1
import Derived.Test.YtcofiekfhnfjpaaS0
import Derived.StillTailTactics
namespace Go.Proofs.Ytcofiekfhnfjpaa
open Go.RowKit
set_option linter.unusedVariables false
set_option linter.unusedSimpArgs false
attribute [local go_sem ↓] Go.wp_at_zero Go.wp_at_succ
attribute [local go_sem] rhoF_tmp rhoF_const rhoF_global rhoF_func
theorem mn_ne (z : Int) (h : -9223372036854775807 ≤ z) : (z == -9223372036854775808) = false := by rw [beq_eq_false_iff_ne]; omega
theorem i64_out1 (z : Int) (h : 9223372036854775807 < z) (h2 : z ≤ 18446744073709551614) : IntKind.i64.wrap z = z - 18446744073709551616 := by rw [IntKind.wrap_i64]; omega
theorem i64_out2 (z : Int) (h : z < -9223372036854775808) (h2 : -18446744073709551614 ≤ z) : IntKind.i64.wrap z = z + 18446744073709551616 := by rw [IntKind.wrap_i64]; omega
theorem plus_at (a b Z : Int) (w : World) (B1 B2 B3 : Bool) (h1 : decide (a < 0) = B1) (h2 : decide (b < 0) = B2) (hw : IntKind.i64.wrap (a + b) = Z) (h3 : decide (Z < 0) = B3) (hq : ((B1 == B2) && (B3 != B1)) = false) (hz : (Z == -9223372036854775808) = false) :
    Calls Try.prog 96 #[.int .i64 a, .int .i64 b] w fun e w' => e = .returned (.tuple #[.int .i64 Z, .bool true]) ∧ w = w' := by
  cases B1 <;> cases B2 <;> cases B3 <;> first | (exact absurd hq (by decide)) | skip
  all_goals
    go_enter Try.func96, Try.ntmps96
    go_wp2
    go_ret2
    exact ⟨rfl, rfl⟩
theorem plus_mix (a b Z : Int) (w : World) (B1 B2 B3 : Bool) (h1 : decide (a < 0) = B1) (h2 : decide (b < 0) = B2) (hw : IntKind.i64.wrap (a + b) = Z) (h3 : decide (Z < 0) = B3) (hq : ((B1 == B2) && (B3 != B1)) = true) :
    Calls Try.prog 96 #[.int .i64 a, .int .i64 b] w fun e w' => e = .returned (.tuple #[.int .i64 0, .bool false]) ∧ w = w' := by
  cases B1 <;> cases B2 <;> cases B3 <;> first | (exact absurd hq (by decide)) | skip
  all_goals
    go_enter Try.func96, Try.ntmps96
    go_wp2
    go_ret2
    exact ⟨rfl, rfl⟩
theorem plus_min (a b Z : Int) (w : World) (h1 : decide (a < 0) = true) (h2 : decide (b < 0) = true) (hw : IntKind.i64.wrap (a + b) = Z) (h3 : decide (Z < 0) = true) (hz : (Z == -9223372036854775808) = true) :
    Calls Try.prog 96 #[.int .i64 a, .int .i64 b] w fun e w' => e = .returned (.tuple #[.int .i64 0, .bool false]) ∧ w = w' := by
  go_enter Try.func96, Try.ntmps96
  go_wp2
  go_ret2
  exact ⟨rfl, rfl⟩
theorem plus_yes (a b : Int) (w : World) (ha0 : -9223372036854775807 ≤ a) (ha1 : a ≤ 9223372036854775807) (hb0 : -9223372036854775807 ≤ b) (hb1 : b ≤ 9223372036854775807) (h0 : -9223372036854775807 ≤ a + b) (h1 : a + b ≤ 9223372036854775807) :
    Calls Try.prog 96 #[.int .i64 a, .int .i64 b] w fun e w' => e = .returned (.tuple #[.int .i64 (a + b), .bool true]) ∧ w = w' := by
  refine plus_at a b (a + b) w _ _ _ rfl rfl (IntWalk.i64_in _ (by omega)) rfl ?_ (mn_ne _ h0)
  by_cases p : a < 0 <;> by_cases q : b < 0 <;> by_cases r : a + b < 0 <;> simp [p, q, r] <;> omega
theorem plus_no (a b : Int) (w : World) (ha0 : -9223372036854775807 ≤ a) (ha1 : a ≤ 9223372036854775807) (hb0 : -9223372036854775807 ≤ b) (hb1 : b ≤ 9223372036854775807) (h : a + b < -9223372036854775807 ∨ 9223372036854775807 < a + b) :
    Calls Try.prog 96 #[.int .i64 a, .int .i64 b] w fun e w' => e = .returned (.tuple #[.int .i64 0, .bool false]) ∧ w = w' := by
  by_cases h1 : 9223372036854775807 < a + b
  · exact plus_mix a b _ w false false true (by simp; omega) (by simp; omega) (i64_out1 _ h1 (by omega)) (by simp; omega) (by decide)
  · by_cases h2 : a + b < -9223372036854775808
    · exact plus_mix a b _ w true true false (by simp; omega) (by simp; omega) (i64_out2 _ h2 (by omega)) (by simp; omega) (by decide)
    · exact plus_min a b _ w (by simp; omega) (by simp; omega) (IntWalk.i64_in _ (by omega)) (by simp; omega) (by rw [beq_iff_eq]; omega)
theorem tm_yes (a b : Int) (w : World) (A B H L : Nat) (hM1 : ∀ W, Calls Try.prog 98 #[.int .i64 a] W fun e w' => e = .returned (.int .u64 (A : Int)) ∧ W = w') (hM2 : ∀ W, Calls Try.prog 98 #[.int .i64 b] W fun e w' => e = .returned (.int .u64 (B : Int)) ∧ W = w') (hP : ∀ W, Calls Try.prog 103 #[.int .u64 (A : Int), .int .u64 (B : Int)] W fun e w' => e = .returned (.tuple #[.int .u64 (H : Int), .int .u64 (L : Int)]) ∧ w' = W) (hH : ((H : Int) != 0) = false) (hL : decide ((9223372036854775807 : Int) < (L : Int)) = false) (hL2 : ¬ 9223372036854775807 < (L : Int)) (hw : IntKind.i64.wrap (a * b) = a * b) :
    Calls Try.prog 97 #[.int .i64 a, .int .i64 b] w fun e w' => e = .returned (.tuple #[.int .i64 (a * b), .bool true]) ∧ w = w' := by
  have HM1 := Lib.hid hM1
  have HM2 := Lib.hid hM2
  have HP := Lib.hid hP
  clear hM1 hM2 hP
  go_enter Try.func97, Try.ntmps97
  go_wp2_with (first
    | (go_at_call 98; go_loud (first
      | ((with_reducible refine (HM1.out _).mono ?_); rintro e w1 ⟨rfl, rfl⟩)
      | ((with_reducible refine (HM2.out _).mono ?_); rintro e w1 ⟨rfl, rfl⟩)))
    | (go_at_call 103; go_loud ((with_reducible refine (HP.out _).mono ?_); rintro e w1 ⟨rfl, rfl⟩)))
  go_ret2
  exact ⟨rfl, rfl⟩
theorem tm_no1 (a b : Int) (w : World) (A B H L : Nat) (hM1 : ∀ W, Calls Try.prog 98 #[.int .i64 a] W fun e w' => e = .returned (.int .u64 (A : Int)) ∧ W = w') (hM2 : ∀ W, Calls Try.prog 98 #[.int .i64 b] W fun e w' => e = .returned (.int .u64 (B : Int)) ∧ W = w') (hP : ∀ W, Calls Try.prog 103 #[.int .u64 (A : Int), .int .u64 (B : Int)] W fun e w' => e = .returned (.tuple #[.int .u64 (H : Int), .int .u64 (L : Int)]) ∧ w' = W) (hH : ((H : Int) != 0) = true) :
    Calls Try.prog 97 #[.int .i64 a, .int .i64 b] w fun e w' => e = .returned (.tuple #[.int .i64 0, .bool false]) ∧ w = w' := by
  have HM1 := Lib.hid hM1
  have HM2 := Lib.hid hM2
  have HP := Lib.hid hP
  clear hM1 hM2 hP
  go_enter Try.func97, Try.ntmps97
  go_wp2_with (first
    | (go_at_call 98; go_loud (first
      | ((with_reducible refine (HM1.out _).mono ?_); rintro e w1 ⟨rfl, rfl⟩)
      | ((with_reducible refine (HM2.out _).mono ?_); rintro e w1 ⟨rfl, rfl⟩)))
    | (go_at_call 103; go_loud ((with_reducible refine (HP.out _).mono ?_); rintro e w1 ⟨rfl, rfl⟩)))
  go_ret2
  exact ⟨rfl, rfl⟩
theorem tm_no2 (a b : Int) (w : World) (A B H L : Nat) (hM1 : ∀ W, Calls Try.prog 98 #[.int .i64 a] W fun e w' => e = .returned (.int .u64 (A : Int)) ∧ W = w') (hM2 : ∀ W, Calls Try.prog 98 #[.int .i64 b] W fun e w' => e = .returned (.int .u64 (B : Int)) ∧ W = w') (hP : ∀ W, Calls Try.prog 103 #[.int .u64 (A : Int), .int .u64 (B : Int)] W fun e w' => e = .returned (.tuple #[.int .u64 (H : Int), .int .u64 (L : Int)]) ∧ w' = W) (hH : ((H : Int) != 0) = false) (hL : decide ((9223372036854775807 : Int) < (L : Int)) = true) (hL2 : 9223372036854775807 < (L : Int)) :
    Calls Try.prog 97 #[.int .i64 a, .int .i64 b] w fun e w' => e = .returned (.tuple #[.int .i64 0, .bool false]) ∧ w = w' := by
  have HM1 := Lib.hid hM1
  have HM2 := Lib.hid hM2
  have HP := Lib.hid hP
  clear hM1 hM2 hP
  go_enter Try.func97, Try.ntmps97
  go_wp2_with (first
    | (go_at_call 98; go_loud (first
      | ((with_reducible refine (HM1.out _).mono ?_); rintro e w1 ⟨rfl, rfl⟩)
      | ((with_reducible refine (HM2.out _).mono ?_); rintro e w1 ⟨rfl, rfl⟩)))
    | (go_at_call 103; go_loud ((with_reducible refine (HP.out _).mono ?_); rintro e w1 ⟨rfl, rfl⟩)))
  go_ret2
  exact ⟨rfl, rfl⟩
theorem abs_lt (a : Int) (h0 : -9223372036854775807 ≤ a) (h1 : a ≤ 9223372036854775807) : a.natAbs < 9223372036854775808 := by omega
theorem times_yes (a b : Int) (w : World) (ha0 : -9223372036854775807 ≤ a) (ha1 : a ≤ 9223372036854775807) (hb0 : -9223372036854775807 ≤ b) (hb1 : b ≤ 9223372036854775807) (h0 : -9223372036854775807 ≤ a * b) (h1 : a * b ≤ 9223372036854775807) :
    Calls Try.prog 97 #[.int .i64 a, .int .i64 b] w fun e w' => e = .returned (.tuple #[.int .i64 (a * b), .bool true]) ∧ w = w' := by
  have hA := abs_lt a ha0 ha1
  have hB := abs_lt b hb0 hb1
  have hab : a.natAbs * b.natAbs = (a * b).natAbs := (Int.natAbs_mul a b).symm
  have hl : a.natAbs * b.natAbs < 9223372036854775808 := by rw [hab]; omega
  have e1 : a.natAbs * b.natAbs / 18446744073709551616 = 0 := Nat.div_eq_of_lt (by omega)
  have e2 : a.natAbs * b.natAbs % 18446744073709551616 = a.natAbs * b.natAbs := Nat.mod_eq_of_lt (by omega)
  refine tm_yes a b w a.natAbs b.natAbs _ _ (fun W => mag_any a W ha0 ha1) (fun W => mag_any b W hb0 hb1) (fun W => Try.bits_Mul64 a.natAbs b.natAbs (by omega) (by omega) W) (by rw [e1]; rfl) ?_ ?_ (IntWalk.i64_in _ (by omega))
  · rw [e2, decide_eq_false_iff_not]; omega
  · rw [e2]; omega
theorem times_no (a b : Int) (w : World) (ha0 : -9223372036854775807 ≤ a) (ha1 : a ≤ 9223372036854775807) (hb0 : -9223372036854775807 ≤ b) (hb1 : b ≤ 9223372036854775807) (h : a * b < -9223372036854775807 ∨ 9223372036854775807 < a * b) :
    Calls Try.prog 97 #[.int .i64 a, .int .i64 b] w fun e w' => e = .returned (.tuple #[.int .i64 0, .bool false]) ∧ w = w' := by
  have hA := abs_lt a ha0 ha1
  have hB := abs_lt b hb0 hb1
  have hab : a.natAbs * b.natAbs = (a * b).natAbs := (Int.natAbs_mul a b).symm
  have hl : 9223372036854775807 < a.natAbs * b.natAbs := by rw [hab]; omega
  have hd := Nat.div_add_mod (a.natAbs * b.natAbs) 18446744073709551616
  by_cases hH : a.natAbs * b.natAbs / 18446744073709551616 = 0
  · refine tm_no2 a b w a.natAbs b.natAbs _ _ (fun W => mag_any a W ha0 ha1) (fun W => mag_any b W hb0 hb1) (fun W => Try.bits_Mul64 a.natAbs b.natAbs (by omega) (by omega) W) (by rw [hH]; rfl) ?_ ?_
    · rw [decide_eq_true_iff]; omega
    · omega
  · refine tm_no1 a b w a.natAbs b.natAbs _ _ (fun W => mag_any a W ha0 ha1) (fun W => mag_any b W hb0 hb1) (fun W => Try.bits_Mul64 a.natAbs b.natAbs (by omega) (by omega) W) ?_
    rw [bne_iff_ne]
    omega
end Go.Proofs.Ytcofiekfhnfjpaa
