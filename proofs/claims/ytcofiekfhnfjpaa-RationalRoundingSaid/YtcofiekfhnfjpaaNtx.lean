
import Derived.Test.YtcofiekfhnfjpaaJ2
import Derived.Test.YtcofiekfhnfjpaaShelf
namespace Go.Proofs.Ytcofiekfhnfjpaa
open Go.RowKit
set_option linter.unusedVariables false
set_option linter.unusedSimpArgs false
attribute [local go_sem ↓] Go.wp_at_zero Go.wp_at_succ
theorem nan_i64 (x : Int) (w : World) : Calls Try.prog 117 #[.int .i64 x] w fun e w' => e = .returned (.bool false) ∧ w = w' := by
  go_enter Try.func117, Try.ntmps117
  go_wp2
  go_ret
  exact ⟨by simp, rfl⟩
theorem cci_any (x y : Int) (w : World) : Calls Try.prog 102 #[.int .i64 x, .int .i64 y] w fun e w' => e = .returned (.int .i64 (x - y).sign) ∧ w = w' := by
  rcases Int.lt_trichotomy x y with h | h | h
  · have e1 : (x - y).sign = -1 := by rw [Int.sign_eq_neg_one_iff_neg]; omega
    rw [e1]
    have d1 : decide (x < y) = true := by simp; omega
    have d2 : decide (y < x) = false := by simp; omega
    have HN := Lib.hid (nan_i64)
    skip
    clear e1 h
    go_enter Try.func102, Try.ntmps102
    go_wp2_with (go_at_call 117; go_loud ((with_reducible refine (HN.out _ _).mono ?_); rintro e w1 ⟨rfl, rfl⟩))
    go_ret
    exact ⟨rfl, rfl⟩
  · have e1 : (x - y).sign = 0 := by rw [h, Int.sub_self]; rfl
    rw [e1]
    have d1 : decide (x < y) = false := by simp; omega
    have d2 : decide (y < x) = false := by simp; omega
    have HN := Lib.hid (nan_i64)
    skip
    clear e1 h
    go_enter Try.func102, Try.ntmps102
    go_wp2_with (go_at_call 117; go_loud ((with_reducible refine (HN.out _ _).mono ?_); rintro e w1 ⟨rfl, rfl⟩))
    go_ret
    exact ⟨rfl, rfl⟩
  · have e1 : (x - y).sign = 1 := by rw [Int.sign_eq_one_iff_pos]; omega
    rw [e1]
    have d1 : decide (x < y) = false := by simp; omega
    have d2 : decide (y < x) = true := by simp; omega
    have HN := Lib.hid (nan_i64)
    skip
    clear e1 h
    go_enter Try.func102, Try.ntmps102
    go_wp2_with (go_at_call 117; go_loud ((with_reducible refine (HN.out _ _).mono ?_); rintro e w1 ⟨rfl, rfl⟩))
    go_ret
    exact ⟨rfl, rfl⟩
theorem nan_u64 (x : Nat) (w : World) : Calls Try.prog 118 #[.int .u64 (x : Int)] w fun e w' => e = .returned (.bool false) ∧ w = w' := by
  go_enter Try.func118, Try.ntmps118
  go_wp2
  go_ret
  exact ⟨by simp, rfl⟩
theorem ccu_any (x y : Nat) (w : World) : Calls Try.prog 105 #[.int .u64 (x : Int), .int .u64 (y : Int)] w fun e w' => e = .returned (.int .i64 ((x : Int) - (y : Int)).sign) ∧ w = w' := by
  rcases Int.lt_trichotomy (x : Int) (y : Int) with h | h | h
  · have e1 : ((x : Int) - (y : Int)).sign = -1 := by rw [Int.sign_eq_neg_one_iff_neg]; omega
    rw [e1]
    have d1 : decide ((x : Int) < (y : Int)) = true := by simp; omega
    have d2 : decide ((y : Int) < (x : Int)) = false := by simp; omega
    have HN := Lib.hid (nan_u64)
    have n1 : x < y := by omega
    have n2 : ¬ y < x := by omega
    clear e1 h
    go_enter Try.func105, Try.ntmps105
    go_wp2_with (go_at_call 118; go_loud ((with_reducible refine (HN.out _ _).mono ?_); rintro e w1 ⟨rfl, rfl⟩))
    go_ret
    exact ⟨rfl, rfl⟩
  · have e1 : ((x : Int) - (y : Int)).sign = 0 := by rw [h, Int.sub_self]; rfl
    rw [e1]
    have d1 : decide ((x : Int) < (y : Int)) = false := by simp; omega
    have d2 : decide ((y : Int) < (x : Int)) = false := by simp; omega
    have HN := Lib.hid (nan_u64)
    have n1 : ¬ x < y := by omega
    have n2 : ¬ y < x := by omega
    clear e1 h
    go_enter Try.func105, Try.ntmps105
    go_wp2_with (go_at_call 118; go_loud ((with_reducible refine (HN.out _ _).mono ?_); rintro e w1 ⟨rfl, rfl⟩))
    go_ret
    exact ⟨rfl, rfl⟩
  · have e1 : ((x : Int) - (y : Int)).sign = 1 := by rw [Int.sign_eq_one_iff_pos]; omega
    rw [e1]
    have d1 : decide ((x : Int) < (y : Int)) = false := by simp; omega
    have d2 : decide ((y : Int) < (x : Int)) = true := by simp; omega
    have HN := Lib.hid (nan_u64)
    have n1 : ¬ x < y := by omega
    have n2 : y < x := by omega
    clear e1 h
    go_enter Try.func105, Try.ntmps105
    go_wp2_with (go_at_call 118; go_loud ((with_reducible refine (HN.out _ _).mono ?_); rintro e w1 ⟨rfl, rfl⟩))
    go_ret
    exact ⟨rfl, rfl⟩
theorem or_any (p : Nat) (x y : Int) (w : World) (h0 : w.cell? ⟨p, 0, none⟩ = some (.int .i64 x)) (h1 : w.cell? ⟨p, 1, none⟩ = some (.int .i64 y)) :
    Calls Try.prog 104 #[.slice (some ⟨p, 0, none⟩) 2 2] w fun e w' => e = .returned (.int .i64 (if x = 0 then y else x)) ∧ w = w' := by
  by_cases hx : x = 0
  · subst hx
    by_cases hy : y = 0
    · subst hy
      go_enter Try.func104, Try.ntmps104
      go_wp2
      go_loopw [8] (fun k wr => wr = w ∧ (k = .int .i64 0 ∨ k = .int .i64 1 ∨ k = .int .i64 2)) (fun k _ => (2 - intOf k).toNat)
      case atStart => exact ⟨rfl, .inl rfl⟩
      case round =>
        obtain ⟨rfl, rfl | rfl | rfl⟩ := hrel
        · go_wp2
          go_roundw
          case rel => simp
          case measure => simp [intOf]
        · go_wp2
          go_roundw
          case rel => simp
          case measure => simp [intOf]
        · go_wp2
          go_ret
          exact ⟨rfl, rfl⟩
    · have q1 : (y == 0) = false := by rw [beq_eq_false_iff_ne]; exact hy
      have q2 : (y != 0) = true := by simp; exact hy
      go_enter Try.func104, Try.ntmps104
      go_wp2
      go_loopw [8] (fun k wr => wr = w ∧ (k = .int .i64 0 ∨ k = .int .i64 1)) (fun k _ => (2 - intOf k).toNat)
      case atStart => exact ⟨rfl, .inl rfl⟩
      case round =>
        obtain ⟨rfl, rfl | rfl⟩ := hrel
        · go_wp2
          go_roundw
          case rel => simp
          case measure => simp [intOf]
        · go_wp2
          go_ret
          exact ⟨rfl, rfl⟩
  · have q1 : (x == 0) = false := by rw [beq_eq_false_iff_ne]; exact hx
    have q2 : (x != 0) = true := by simp; exact hx
    rw [if_neg hx]
    go_enter Try.func104, Try.ntmps104
    go_wp2
    go_loopw [8] (fun k wr => wr = w ∧ k = .int .i64 0) (fun k _ => (2 - intOf k).toNat)
    case atStart => exact ⟨rfl, rfl⟩
    case round =>
      obtain ⟨rfl, rfl⟩ := hrel
      go_wp2
      go_ret
      exact ⟨rfl, rfl⟩
end Go.Proofs.Ytcofiekfhnfjpaa
