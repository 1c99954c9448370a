import Derived.Test.YtedhjcjjalabdaaWrapNum
import Derived.Test.YtedhjcjjalabdaaMod
import Derived.WalkKit
import Derived.WalkSpells
import Derived.WalkLawsBesides
import Derived.Lib.Hide
import Derived.Below
import Derived.Deep.QuietTactic
import Derived.BigQuiet
import Derived.Deep.RegionHeld3
import Derived.Deep.DrawnRows
import Derived.Deep.DeepFit
import Derived.IntWalk
namespace Go.Proofs.Ytedhjcjjalabdaa
open Go.RowKit
set_option linter.unusedVariables false
set_option linter.unusedSimpArgs false
attribute [local go_sem ↓] Go.wp_at_zero Go.wp_at_succ

set_option maxHeartbeats 400000 in
theorem mir_any (i n : Int) (i0 : -9223372036854775808 ≤ i) (i1 : i ≤ 9223372036854775807) (hn : 1 ≤ n) (n1 : n ≤ 9223372036854775807) (w : World) :
    Calls Try.prog 9 #[.int .i64 i, .int .i64 n] w fun e w' => e = .returned (.bool (mirB i n)) ∧ w = w' := by
  have hb : (n == 0) = false := by simp; omega
  by_cases hi : 0 ≤ i
  · have q0 : 0 ≤ i / n := Int.ediv_nonneg hi (by omega)
    have q1 : i / n ≤ i := Int.ediv_le_self _ hi
    have m0 := Int.emod_nonneg i (b := n) (by omega)
    obtain ⟨b, eb⟩ : ∃ b, mirB i n = b := ⟨_, rfl⟩
    have f1 : (i / n % 2 != 0) = b := by rw [odd_emod, ← eb]; rfl
    have f2 : (i / n % 2 == 0) = !b := by rw [← f1]; simp [bne]
    rw [eb]
    clear eb
    go_enter Try.func9, Try.ntmps9
    go_wp2
    go_ret
    exact ⟨rfl, rfl⟩
  · have hi' : i < 0 := by omega
    rcases tdiv_neg i n hi' hn with ⟨h1, h2, h3⟩ | ⟨h1, h2, h3⟩
    · obtain ⟨b, eb⟩ : ∃ b, mirB i n = b := ⟨_, rfl⟩
      have f1 : ((i.tdiv n).tmod 2 != 0) = b := by rw [odd_tmod, h2, ← eb]; rfl
      rw [eb]
      have T0 : i.tdiv n < 0 := by
        have := Int.mul_ediv_add_emod i n
        rw [h3] at this
        rw [h2]
        by_cases c : 0 ≤ i / n
        · have := Int.mul_nonneg (show 0 ≤ n by omega) c
          omega
        · omega
      have T1 : -9223372036854775808 ≤ i.tdiv n := by
        have h := Int.natAbs_tdiv_le_natAbs i n
        omega
      obtain ⟨T, eT⟩ : ∃ T, i.tdiv n = T := ⟨_, rfl⟩
      rw [eT] at f1 T0 T1
      have f2 : (T.tmod 2 == 0) = !b := by rw [← f1]; simp [bne]
      have z1 : (i.tmod n != 0) = false := by simp [h1]
      have z2 : (i.tmod n == 0) = true := by simp [h1]
      have z3 : decide (i.tmod n < 0) = false := by simp [h1]
      clear eb h1 h2 h3
      go_enter Try.func9, Try.ntmps9
      go_wp2
      go_ret
      exact ⟨rfl, rfl⟩
    · obtain ⟨b, eb⟩ : ∃ b, mirB i n = b := ⟨_, rfl⟩
      have f1 : ((i.tdiv n - 1).tmod 2 != 0) = b := by rw [odd_tmod, h2, ← eb]; rfl
      rw [eb]
      have T1 : -9223372036854775807 ≤ i.tdiv n ∧ i.tdiv n ≤ 0 := by
        have k0 := Int.ediv_neg_of_neg_of_pos hi' (show 0 < n by omega)
        have k1 : -4611686018427387904 ≤ i / n := by
          apply Int.le_ediv_of_mul_le (by omega)
          omega
        omega
      obtain ⟨T10, T11⟩ := T1
      obtain ⟨T, eT⟩ : ∃ T, i.tdiv n = T := ⟨_, rfl⟩
      rw [eT] at f1 T10 T11
      have f2 : ((T - 1).tmod 2 == 0) = !b := by rw [← f1]; simp [bne]
      obtain ⟨R, eR⟩ : ∃ T, i.tmod n = T := ⟨_, rfl⟩
      rw [eR] at h1
      have z1 : (R != 0) = true := by simp; omega
      have z2 : (R == 0) = false := by simp; omega
      clear eb h2
      go_enter Try.func9, Try.ntmps9
      go_wp2
      go_ret
      exact ⟨rfl, rfl⟩

set_option maxHeartbeats 400000 in
theorem rmir_any (i n : Int) (i0 : -9223372036854775808 ≤ i) (i1 : i ≤ 9223372036854775807) (hn : 1 ≤ n) (n1 : n ≤ 9223372036854775807) (w : World) :
    Calls Try.prog 11 #[.int .i64 i, .int .i64 n] w fun e w' => e = .returned (.bool (mirB i n)) ∧ w = w' := by
  have hb : (n == 0) = false := by simp; omega
  by_cases hi : 0 ≤ i
  · have q0 : 0 ≤ i / n := Int.ediv_nonneg hi (by omega)
    have q1 : i / n ≤ i := Int.ediv_le_self _ hi
    have m0 := Int.emod_nonneg i (b := n) (by omega)
    obtain ⟨b, eb⟩ : ∃ b, mirB i n = b := ⟨_, rfl⟩
    have f1 : (i / n % 2 != 0) = b := by rw [odd_emod, ← eb]; rfl
    have f2 : (i / n % 2 == 0) = !b := by rw [← f1]; simp [bne]
    rw [eb]
    clear eb
    go_enter Try.func11, Try.ntmps11
    go_wp2
    go_ret
    exact ⟨rfl, rfl⟩
  · have hi' : i < 0 := by omega
    rcases tdiv_neg i n hi' hn with ⟨h1, h2, h3⟩ | ⟨h1, h2, h3⟩
    · obtain ⟨b, eb⟩ : ∃ b, mirB i n = b := ⟨_, rfl⟩
      have f1 : ((i.tdiv n).tmod 2 != 0) = b := by rw [odd_tmod, h2, ← eb]; rfl
      rw [eb]
      have T0 : i.tdiv n < 0 := by
        have := Int.mul_ediv_add_emod i n
        rw [h3] at this
        rw [h2]
        by_cases c : 0 ≤ i / n
        · have := Int.mul_nonneg (show 0 ≤ n by omega) c
          omega
        · omega
      have T1 : -9223372036854775808 ≤ i.tdiv n := by
        have h := Int.natAbs_tdiv_le_natAbs i n
        omega
      obtain ⟨T, eT⟩ : ∃ T, i.tdiv n = T := ⟨_, rfl⟩
      rw [eT] at f1 T0 T1
      have f2 : (T.tmod 2 == 0) = !b := by rw [← f1]; simp [bne]
      have z1 : (i.tmod n != 0) = false := by simp [h1]
      have z2 : (i.tmod n == 0) = true := by simp [h1]
      have z3 : decide (i.tmod n < 0) = false := by simp [h1]
      clear eb h1 h2 h3
      go_enter Try.func11, Try.ntmps11
      go_wp2
      go_ret
      exact ⟨rfl, rfl⟩
    · obtain ⟨b, eb⟩ : ∃ b, mirB i n = b := ⟨_, rfl⟩
      have f1 : ((i.tdiv n - 1).tmod 2 != 0) = b := by rw [odd_tmod, h2, ← eb]; rfl
      rw [eb]
      have T1 : -9223372036854775807 ≤ i.tdiv n ∧ i.tdiv n ≤ 0 := by
        have k0 := Int.ediv_neg_of_neg_of_pos hi' (show 0 < n by omega)
        have k1 : -4611686018427387904 ≤ i / n := by
          apply Int.le_ediv_of_mul_le (by omega)
          omega
        omega
      obtain ⟨T10, T11⟩ := T1
      obtain ⟨T, eT⟩ : ∃ T, i.tdiv n = T := ⟨_, rfl⟩
      rw [eT] at f1 T10 T11
      have f2 : ((T - 1).tmod 2 == 0) = !b := by rw [← f1]; simp [bne]
      obtain ⟨R, eR⟩ : ∃ T, i.tmod n = T := ⟨_, rfl⟩
      rw [eR] at h1
      have z1 : (R != 0) = true := by simp; omega
      have z2 : (R == 0) = false := by simp; omega
      clear eb h2
      go_enter Try.func11, Try.ntmps11
      go_wp2
      go_ret
      exact ⟨rfl, rfl⟩

set_option maxHeartbeats 1000000 in
theorem wrap_any (i n s : Int) (i0 : -9223372036854775808 ≤ i) (i1 : i ≤ 9223372036854775807) (n0 : -9223372036854775808 ≤ n) (n1 : n ≤ 9223372036854775807) (w : World) :
    Calls Try.prog 4 #[.int .i64 i, .int .i64 n, .int .i64 s] w fun e w' => e = .returned (.tuple #[.int .i64 (wrapV i n s), .bool (wrapOk i n s)]) ∧ w = w' := by
  by_cases hn : n < 1
  · rw [show wrapV i n s = 0 by unfold wrapV; rw [if_pos hn], show wrapOk i n s = false by unfold wrapOk; simp; omega]
    go_enter Try.func4, Try.ntmps4
    go_wp2
    go_ret2
    exact ⟨rfl, rfl⟩
  have hn' : 1 ≤ n := by omega
  have cm := fun w => mod_any i n i0 i1 n1 w
  rw [show modV i n = i % n by unfold modV; rw [if_neg (by omega)]] at cm
  have cr := fun w => mir_any i n i0 i1 hn' n1 w
  have cc := fun w => clamp_any i 0 (n - 1) w
  have m0 := Int.emod_nonneg i (b := n) (by omega)
  have m1 := Int.emod_lt_of_pos i (b := n) (by omega)
  by_cases hin : 0 ≤ i ∧ i < n
  · rw [show wrapV i n s = i by unfold wrapV; rw [if_neg hn, if_pos hin], show wrapOk i n s = true by unfold wrapOk; simp [hin]; omega]
    obtain ⟨a1, a2⟩ := hin
    go_enter Try.func4, Try.ntmps4
    go_wp2
    go_ret2
    exact ⟨rfl, rfl⟩
  have v1 : wrapV i n s = if s = 1 then clampV i 0 (n - 1) else if s = 2 then i % n else if s = 3 then (if mirB i n = true then n - 1 - i % n else i % n) else 0 := by unfold wrapV; rw [if_neg hn, if_neg hin]
  have v2 : wrapOk i n s = (decide (s = 1) || decide (s = 2) || decide (s = 3)) := by unfold wrapOk; simp [hn', hin]
  rw [v1, v2]
  clear v1 v2
  obtain ⟨r, er⟩ : ∃ r, i % n = r := ⟨_, rfl⟩
  rw [er] at cm m0 m1 ⊢
  clear er
  have hout : i < 0 ∨ n ≤ i := by omega
  clear hin
  by_cases s1 : s = 1
  · have d1 : (s == 1) = true := by simp [s1]
    rw [if_pos s1, show (decide (s = 1) || decide (s = 2) || decide (s = 3)) = true by simp [s1]]
    clear s1
    rcases hout with hout | hout
    · have ec : clampV i 0 (n - 1) = 0 := by unfold clampV; rw [if_pos hout]
      rw [ec] at cc ⊢
      clear ec
      go_enter Try.func4, Try.ntmps4
      go_wp2_with (first | (go_at_call 8; (with_reducible refine (cm _).mono ?_); rintro e w9 ⟨rfl, rfl⟩) | (go_at_call 9; (with_reducible refine (cr _).mono ?_); rintro e w9 ⟨rfl, rfl⟩) | (go_at_call 7; (with_reducible refine (cc _).mono ?_); rintro e w9 ⟨rfl, rfl⟩))
      go_ret2
      exact ⟨rfl, rfl⟩
    · have ec : clampV i 0 (n - 1) = n - 1 := by unfold clampV; rw [if_neg (by omega), if_pos (by omega)]
      rw [ec] at cc ⊢
      clear ec
      have hno : ¬ i < 0 := by omega
      have hno2 : ¬ i < n := by omega
      skip
      go_enter Try.func4, Try.ntmps4
      go_wp2_with (first | (go_at_call 8; (with_reducible refine (cm _).mono ?_); rintro e w9 ⟨rfl, rfl⟩) | (go_at_call 9; (with_reducible refine (cr _).mono ?_); rintro e w9 ⟨rfl, rfl⟩) | (go_at_call 7; (with_reducible refine (cc _).mono ?_); rintro e w9 ⟨rfl, rfl⟩))
      go_ret2
      exact ⟨rfl, rfl⟩
  · have d1 : (s == 1) = false := by simp [s1]
    rw [if_neg s1]
    by_cases s2 : s = 2
    · have d2 : (s == 2) = true := by simp [s2]
      rw [if_pos s2, show (decide (s = 1) || decide (s = 2) || decide (s = 3)) = true by simp [s2]]
      clear s1 s2
      rcases hout with hout | hout
      · skip
        go_enter Try.func4, Try.ntmps4
        go_wp2_with (first | (go_at_call 8; (with_reducible refine (cm _).mono ?_); rintro e w9 ⟨rfl, rfl⟩) | (go_at_call 9; (with_reducible refine (cr _).mono ?_); rintro e w9 ⟨rfl, rfl⟩) | (go_at_call 7; (with_reducible refine (cc _).mono ?_); rintro e w9 ⟨rfl, rfl⟩))
        go_ret2
        exact ⟨rfl, rfl⟩
      · have hno : ¬ i < 0 := by omega
        go_enter Try.func4, Try.ntmps4
        go_wp2_with (first | (go_at_call 8; (with_reducible refine (cm _).mono ?_); rintro e w9 ⟨rfl, rfl⟩) | (go_at_call 9; (with_reducible refine (cr _).mono ?_); rintro e w9 ⟨rfl, rfl⟩) | (go_at_call 7; (with_reducible refine (cc _).mono ?_); rintro e w9 ⟨rfl, rfl⟩))
        go_ret2
        exact ⟨rfl, rfl⟩
    · have d2 : (s == 2) = false := by simp [s2]
      rw [if_neg s2]
      by_cases s3 : s = 3
      · have d3 : (s == 3) = true := by simp [s3]
        rw [if_pos s3, show (decide (s = 1) || decide (s = 2) || decide (s = 3)) = true by simp [s3]]
        clear s1 s2 s3
        cases hmir : mirB i n with
        | true =>
          rw [hmir] at cr
          rw [if_pos rfl]
          clear hmir
          rcases hout with hout | hout
          · skip
            go_enter Try.func4, Try.ntmps4
            go_wp2_with (first | (go_at_call 8; (with_reducible refine (cm _).mono ?_); rintro e w9 ⟨rfl, rfl⟩) | (go_at_call 9; (with_reducible refine (cr _).mono ?_); rintro e w9 ⟨rfl, rfl⟩) | (go_at_call 7; (with_reducible refine (cc _).mono ?_); rintro e w9 ⟨rfl, rfl⟩))
            go_ret2
            exact ⟨rfl, rfl⟩
          · have hno : ¬ i < 0 := by omega
            go_enter Try.func4, Try.ntmps4
            go_wp2_with (first | (go_at_call 8; (with_reducible refine (cm _).mono ?_); rintro e w9 ⟨rfl, rfl⟩) | (go_at_call 9; (with_reducible refine (cr _).mono ?_); rintro e w9 ⟨rfl, rfl⟩) | (go_at_call 7; (with_reducible refine (cc _).mono ?_); rintro e w9 ⟨rfl, rfl⟩))
            go_ret2
            exact ⟨rfl, rfl⟩
        | false =>
          rw [hmir] at cr
          rw [if_neg (by simp)]
          clear hmir
          rcases hout with hout | hout
          · skip
            go_enter Try.func4, Try.ntmps4
            go_wp2_with (first | (go_at_call 8; (with_reducible refine (cm _).mono ?_); rintro e w9 ⟨rfl, rfl⟩) | (go_at_call 9; (with_reducible refine (cr _).mono ?_); rintro e w9 ⟨rfl, rfl⟩) | (go_at_call 7; (with_reducible refine (cc _).mono ?_); rintro e w9 ⟨rfl, rfl⟩))
            go_ret2
            exact ⟨rfl, rfl⟩
          · have hno : ¬ i < 0 := by omega
            go_enter Try.func4, Try.ntmps4
            go_wp2_with (first | (go_at_call 8; (with_reducible refine (cm _).mono ?_); rintro e w9 ⟨rfl, rfl⟩) | (go_at_call 9; (with_reducible refine (cr _).mono ?_); rintro e w9 ⟨rfl, rfl⟩) | (go_at_call 7; (with_reducible refine (cc _).mono ?_); rintro e w9 ⟨rfl, rfl⟩))
            go_ret2
            exact ⟨rfl, rfl⟩
      · have d3 : (s == 3) = false := by simp [s3]
        rw [if_neg s3, show (decide (s = 1) || decide (s = 2) || decide (s = 3)) = false by simp [s1, s2, s3]]
        clear s1 s2 s3
        rcases hout with hout | hout
        · skip
          go_enter Try.func4, Try.ntmps4
          go_wp2_with (first | (go_at_call 8; (with_reducible refine (cm _).mono ?_); rintro e w9 ⟨rfl, rfl⟩) | (go_at_call 9; (with_reducible refine (cr _).mono ?_); rintro e w9 ⟨rfl, rfl⟩) | (go_at_call 7; (with_reducible refine (cc _).mono ?_); rintro e w9 ⟨rfl, rfl⟩))
          go_ret2
          exact ⟨rfl, rfl⟩
        · have hno : ¬ i < 0 := by omega
          go_enter Try.func4, Try.ntmps4
          go_wp2_with (first | (go_at_call 8; (with_reducible refine (cm _).mono ?_); rintro e w9 ⟨rfl, rfl⟩) | (go_at_call 9; (with_reducible refine (cr _).mono ?_); rintro e w9 ⟨rfl, rfl⟩) | (go_at_call 7; (with_reducible refine (cc _).mono ?_); rintro e w9 ⟨rfl, rfl⟩))
          go_ret2
          exact ⟨rfl, rfl⟩

set_option maxHeartbeats 1000000 in
theorem rwrap_any (i n s : Int) (i0 : -9223372036854775808 ≤ i) (i1 : i ≤ 9223372036854775807) (n0 : -9223372036854775808 ≤ n) (n1 : n ≤ 9223372036854775807) (w : World) :
    Calls Try.prog 5 #[.int .i64 i, .int .i64 n, .int .i64 s] w fun e w' => e = .returned (.tuple #[.int .i64 (wrapV i n s), .bool (wrapOk i n s)]) ∧ w = w' := by
  by_cases hn : n < 1
  · rw [show wrapV i n s = 0 by unfold wrapV; rw [if_pos hn], show wrapOk i n s = false by unfold wrapOk; simp; omega]
    go_enter Try.func5, Try.ntmps5
    go_wp2
    go_ret2
    exact ⟨rfl, rfl⟩
  have hn' : 1 ≤ n := by omega
  have cm := fun w => rmod_any i n i0 i1 n1 w
  rw [show modV i n = i % n by unfold modV; rw [if_neg (by omega)]] at cm
  have cr := fun w => rmir_any i n i0 i1 hn' n1 w
  skip
  have m0 := Int.emod_nonneg i (b := n) (by omega)
  have m1 := Int.emod_lt_of_pos i (b := n) (by omega)
  by_cases hin : 0 ≤ i ∧ i < n
  · rw [show wrapV i n s = i by unfold wrapV; rw [if_neg hn, if_pos hin], show wrapOk i n s = true by unfold wrapOk; simp [hin]; omega]
    obtain ⟨a1, a2⟩ := hin
    go_enter Try.func5, Try.ntmps5
    go_wp2
    go_ret2
    exact ⟨rfl, rfl⟩
  have v1 : wrapV i n s = if s = 1 then clampV i 0 (n - 1) else if s = 2 then i % n else if s = 3 then (if mirB i n = true then n - 1 - i % n else i % n) else 0 := by unfold wrapV; rw [if_neg hn, if_neg hin]
  have v2 : wrapOk i n s = (decide (s = 1) || decide (s = 2) || decide (s = 3)) := by unfold wrapOk; simp [hn', hin]
  rw [v1, v2]
  clear v1 v2
  obtain ⟨r, er⟩ : ∃ r, i % n = r := ⟨_, rfl⟩
  rw [er] at cm m0 m1 ⊢
  clear er
  have hout : i < 0 ∨ n ≤ i := by omega
  clear hin
  by_cases s1 : s = 1
  · have d1 : (s == 1) = true := by simp [s1]
    rw [if_pos s1, show (decide (s = 1) || decide (s = 2) || decide (s = 3)) = true by simp [s1]]
    clear s1
    rcases hout with hout | hout
    · have ec : clampV i 0 (n - 1) = 0 := by unfold clampV; rw [if_pos hout]
      rw [ec]
      clear ec
      go_enter Try.func5, Try.ntmps5
      go_wp2_with (first | (go_at_call 10; (with_reducible refine (cm _).mono ?_); rintro e w9 ⟨rfl, rfl⟩) | (go_at_call 11; (with_reducible refine (cr _).mono ?_); rintro e w9 ⟨rfl, rfl⟩))
      go_ret2
      exact ⟨rfl, rfl⟩
    · have ec : clampV i 0 (n - 1) = n - 1 := by unfold clampV; rw [if_neg (by omega), if_pos (by omega)]
      rw [ec]
      clear ec
      have hno : ¬ i < 0 := by omega
      have hno2 : ¬ i < n := by omega
      by_cases h11 : n ≤ 1
      · rw [show n - 1 = 0 by omega]
        go_enter Try.func5, Try.ntmps5
        go_wp2_with (first | (go_at_call 10; (with_reducible refine (cm _).mono ?_); rintro e w9 ⟨rfl, rfl⟩) | (go_at_call 11; (with_reducible refine (cr _).mono ?_); rintro e w9 ⟨rfl, rfl⟩))
        go_ret2
        exact ⟨rfl, rfl⟩
      · have h12 : 1 < n := by omega
        go_enter Try.func5, Try.ntmps5
        go_wp2_with (first | (go_at_call 10; (with_reducible refine (cm _).mono ?_); rintro e w9 ⟨rfl, rfl⟩) | (go_at_call 11; (with_reducible refine (cr _).mono ?_); rintro e w9 ⟨rfl, rfl⟩))
        go_ret2
        exact ⟨rfl, rfl⟩
  · have d1 : (s == 1) = false := by simp [s1]
    rw [if_neg s1]
    by_cases s2 : s = 2
    · have d2 : (s == 2) = true := by simp [s2]
      rw [if_pos s2, show (decide (s = 1) || decide (s = 2) || decide (s = 3)) = true by simp [s2]]
      clear s1 s2
      rcases hout with hout | hout
      · skip
        go_enter Try.func5, Try.ntmps5
        go_wp2_with (first | (go_at_call 10; (with_reducible refine (cm _).mono ?_); rintro e w9 ⟨rfl, rfl⟩) | (go_at_call 11; (with_reducible refine (cr _).mono ?_); rintro e w9 ⟨rfl, rfl⟩))
        go_ret2
        exact ⟨rfl, rfl⟩
      · have hno : ¬ i < 0 := by omega
        go_enter Try.func5, Try.ntmps5
        go_wp2_with (first | (go_at_call 10; (with_reducible refine (cm _).mono ?_); rintro e w9 ⟨rfl, rfl⟩) | (go_at_call 11; (with_reducible refine (cr _).mono ?_); rintro e w9 ⟨rfl, rfl⟩))
        go_ret2
        exact ⟨rfl, rfl⟩
    · have d2 : (s == 2) = false := by simp [s2]
      rw [if_neg s2]
      by_cases s3 : s = 3
      · have d3 : (s == 3) = true := by simp [s3]
        rw [if_pos s3, show (decide (s = 1) || decide (s = 2) || decide (s = 3)) = true by simp [s3]]
        clear s1 s2 s3
        cases hmir : mirB i n with
        | true =>
          rw [hmir] at cr
          rw [if_pos rfl]
          clear hmir
          rcases hout with hout | hout
          · skip
            go_enter Try.func5, Try.ntmps5
            go_wp2_with (first | (go_at_call 10; (with_reducible refine (cm _).mono ?_); rintro e w9 ⟨rfl, rfl⟩) | (go_at_call 11; (with_reducible refine (cr _).mono ?_); rintro e w9 ⟨rfl, rfl⟩))
            go_ret2
            exact ⟨rfl, rfl⟩
          · have hno : ¬ i < 0 := by omega
            go_enter Try.func5, Try.ntmps5
            go_wp2_with (first | (go_at_call 10; (with_reducible refine (cm _).mono ?_); rintro e w9 ⟨rfl, rfl⟩) | (go_at_call 11; (with_reducible refine (cr _).mono ?_); rintro e w9 ⟨rfl, rfl⟩))
            go_ret2
            exact ⟨rfl, rfl⟩
        | false =>
          rw [hmir] at cr
          rw [if_neg (by simp)]
          clear hmir
          rcases hout with hout | hout
          · skip
            go_enter Try.func5, Try.ntmps5
            go_wp2_with (first | (go_at_call 10; (with_reducible refine (cm _).mono ?_); rintro e w9 ⟨rfl, rfl⟩) | (go_at_call 11; (with_reducible refine (cr _).mono ?_); rintro e w9 ⟨rfl, rfl⟩))
            go_ret2
            exact ⟨rfl, rfl⟩
          · have hno : ¬ i < 0 := by omega
            go_enter Try.func5, Try.ntmps5
            go_wp2_with (first | (go_at_call 10; (with_reducible refine (cm _).mono ?_); rintro e w9 ⟨rfl, rfl⟩) | (go_at_call 11; (with_reducible refine (cr _).mono ?_); rintro e w9 ⟨rfl, rfl⟩))
            go_ret2
            exact ⟨rfl, rfl⟩
      · have d3 : (s == 3) = false := by simp [s3]
        rw [if_neg s3, show (decide (s = 1) || decide (s = 2) || decide (s = 3)) = false by simp [s1, s2, s3]]
        clear s1 s2 s3
        rcases hout with hout | hout
        · skip
          go_enter Try.func5, Try.ntmps5
          go_wp2_with (first | (go_at_call 10; (with_reducible refine (cm _).mono ?_); rintro e w9 ⟨rfl, rfl⟩) | (go_at_call 11; (with_reducible refine (cr _).mono ?_); rintro e w9 ⟨rfl, rfl⟩))
          go_ret2
          exact ⟨rfl, rfl⟩
        · have hno : ¬ i < 0 := by omega
          go_enter Try.func5, Try.ntmps5
          go_wp2_with (first | (go_at_call 10; (with_reducible refine (cm _).mono ?_); rintro e w9 ⟨rfl, rfl⟩) | (go_at_call 11; (with_reducible refine (cr _).mono ?_); rintro e w9 ⟨rfl, rfl⟩))
          go_ret2
          exact ⟨rfl, rfl⟩
end Go.Proofs.Ytedhjcjjalabdaa
