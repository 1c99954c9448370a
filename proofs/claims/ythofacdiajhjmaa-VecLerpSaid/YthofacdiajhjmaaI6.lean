import Derived.Test.YthofacdiajhjmaaI5
import Derived.Test.YthofacdiajhjmaaMdr
namespace Go.Proofs.Ythofacdiajhjmaa
open Go.RowKit
set_option linter.unusedVariables false
set_option linter.unusedSimpArgs false
attribute [local go_sem ↓] Go.wp_at_zero Go.wp_at_succ
theorem quo_num {X C q r : Nat} (hC : 0 < C) (hX : X = C * q + r) (hr : r < C) : (X + X + C) / (C + C) = if C - r ≤ r then q + 1 else q := by
  have e : X + X + C = (C + C) * q + (2 * r + C) := by rw [hX, Nat.add_mul]; omega
  rw [e, Nat.mul_add_div (by omega)]
  split
  · rw [show (2 * r + C) / (C + C) = 1 from ?_]
    rw [Nat.div_eq_iff (by omega)]
    omega
  · rw [show (2 * r + C) / (C + C) = 0 from Nat.div_eq_of_lt (by omega)]
    rfl
theorem quo_mdM (a b c : Int) (hc : c ≠ 0) : (((a.natAbs * b.natAbs + a.natAbs * b.natAbs + c.natAbs) / (c.natAbs + c.natAbs) : Nat) : Int) = mdM a b c := by
  have hC : 0 < c.natAbs := by omega
  rw [quo_num hC (Nat.div_add_mod (a.natAbs * b.natAbs) c.natAbs).symm (Nat.mod_lt _ hC)]
  unfold mdM
  have e1 : (a.natAbs : Int) * b.natAbs = ((a.natAbs * b.natAbs : Nat) : Int) := by simp
  rw [e1]
  have e2 : ((a.natAbs * b.natAbs : Nat) : Int) % c.natAbs = ((a.natAbs * b.natAbs % c.natAbs : Nat) : Int) := by simp
  have e3 : ((a.natAbs * b.natAbs : Nat) : Int) / c.natAbs = ((a.natAbs * b.natAbs / c.natAbs : Nat) : Int) := by simp
  rw [e2, e3]
  have h4 := Nat.mod_lt (a.natAbs * b.natAbs) hC
  generalize a.natAbs * b.natAbs % c.natAbs = r at *
  generalize a.natAbs * b.natAbs / c.natAbs = q at *
  split <;> split <;> omega
theorem mdVal_zero (s : Bool) : mdVal s 0 = 0 ∧ mdOk s 0 = true := by cases s <;> decide
theorem mdr_of (a b c : Int) (hc : c ≠ 0) (X Q : Nat) (hX : X = a.natAbs * b.natAbs) (hQ : Q = (X + X + c.natAbs) / (c.natAbs + c.natAbs)) (σ : Bool)
    (hσ : σ = (((((decide (a < 0) != decide (b < 0)) && decide (0 < X)) != decide (c < 0)) && decide (0 < Q)) && decide (0 < Q))) :
    mdVal σ Q = mdrV a b c ∧ mdOk σ Q = mdrB a b c := by
  have hm : (Q : Int) = mdM a b c := by rw [hQ, hX]; exact quo_mdM a b c hc
  unfold mdrV mdrB
  rw [if_neg hc, if_neg hc, ← hm]
  rcases Nat.eq_zero_or_pos Q with h0 | h0
  · subst h0
    have e1 := mdVal_zero σ
    have e2 := mdVal_zero (sgn a b c)
    rw [show (((0 : Nat) : Int)) = 0 from rfl, e1.1, e1.2, e2.1, e2.2]
    exact ⟨rfl, rfl⟩
  · have hXp : 0 < X := by
      rcases Nat.eq_zero_or_pos X with h1 | h1
      · subst h1
        rw [hQ, Nat.div_eq_of_lt (by omega)] at h0
        omega
      · exact h1
    have : σ = sgn a b c := by
      rw [hσ]
      unfold sgn
      simp [h0, hXp]
      cases decide (a < 0) <;> cases decide (b < 0) <;> cases decide (c < 0) <;> rfl
    rw [this]
    exact ⟨rfl, rfl⟩
theorem canon_fit64 {n : Nat} (h : n ≤ 9223372036854775808) : (canon n).length ≤ 2 := by
  rw [canon_len_le]
  refine Nat.lt_of_lt_of_le (Nat.lt_succ_of_le h) ?_
  decide
theorem canon_fit128 {x y : Nat} (h : x ≤ 9223372036854775808) (h2 : y ≤ 9223372036854775808) : (canon (x * y)).length ≤ 4 := by
  rw [canon_len_le]
  refine Nat.lt_of_le_of_lt (Nat.mul_le_mul h h2) ?_
  decide
set_option maxRecDepth 50000 in
set_option maxHeartbeats 1000000 in
theorem rmdr_any (a b c : Int) (a0 : -9223372036854775808 ≤ a) (a1 : a ≤ 9223372036854775807) (b0 : -9223372036854775808 ≤ b) (b1 : b ≤ 9223372036854775807) (c0 : -9223372036854775808 ≤ c) (c1 : c ≤ 9223372036854775807) (w : World) :
    Calls Try.prog 6 #[.int .i64 a, .int .i64 b, .int .i64 c] w fun e w' => e = .returned (.tuple #[.int .i64 (mdrV a b c), .bool (mdrB a b c)]) ∧ Below w.heap.size w w' := by
  by_cases hc : c = 0
  · subst hc
    have hm := Lib.hid (mdr_zero a b)
    go_enter Try.func6, Try.ntmps6
    go_wp2
    go_ret2
    exact ⟨by rw [hm.out.1, hm.out.2]; rfl, Below.refl _ _⟩
  · have hcn : (c == 0) = false := by rw [beq_eq_false_iff_ne]; exact hc
    have HA := Lib.hid (ifrom_any a a0 a1)
    have HB := Lib.hid (ifrom_any b b0 b1)
    have HC := Lib.hid (ifrom_any c c0 c1)
    have fA := canon_fit64 (n := a.natAbs) (by omega)
    have fB := canon_fit64 (n := b.natAbs) (by omega)
    have fC := canon_fit64 (n := c.natAbs) (by omega)
    have fX := canon_fit128 (x := a.natAbs) (y := b.natAbs) (by omega) (by omega)
    have hCp : Hid (0 < valD (canon c.natAbs)) := by show 0 < _; rw [valD_canon]; omega
    obtain ⟨X, hX⟩ : ∃ X, a.natAbs * b.natAbs = X := ⟨_, rfl⟩
    rw [hX] at fX
    obtain ⟨Q, hQ⟩ : ∃ Q, (X + X + c.natAbs) / (c.natAbs + c.natAbs) = Q := ⟨_, rfl⟩
    have fQ : (canon Q).length ≤ 100 := by
      rw [canon_len_le, ← hQ]
      refine Nat.lt_of_le_of_lt (Nat.div_le_self _ _) ?_
      have h1 : X < pw 4 := (canon_len_le X 4).1 fX
      have h2 : c.natAbs < pw 2 := (canon_len_le _ 2).1 fC
      have h3 : pw 5 = pw 4 * 4294967296 := pw_succ 4
      have h4 : pw 2 ≤ pw 4 := pw_mono (by omega)
      refine Nat.lt_of_lt_of_le ?_ (pw_mono (show 5 ≤ 100 by omega))
      omega
    obtain ⟨t1, ht1⟩ : ∃ t, ((decide (a < 0) != decide (b < 0)) && decide (0 < X)) = t := ⟨_, rfl⟩
    obtain ⟨t2, ht2⟩ : ∃ t, ((t1 != decide (c < 0)) && decide (0 < Q)) = t := ⟨_, rfl⟩
    have hres := Lib.hid (mdr_of a b c hc X Q hX.symm hQ.symm (t2 && decide (0 < Q)) (by rw [← ht2, ← ht1]))
    have HT1 := Lib.hid ht1
    have HT2 := Lib.hid ht2
    have HX := Lib.hid hX
    have HQ := Lib.hid hQ
    clear ht1 ht2 hX hQ
    obtain ⟨sa, hsa⟩ : ∃ s, decide (a < 0) = s := ⟨_, rfl⟩
    obtain ⟨sb, hsb⟩ : ∃ s, decide (b < 0) = s := ⟨_, rfl⟩
    obtain ⟨sc, hsc⟩ : ∃ s, decide (c < 0) = s := ⟨_, rfl⟩
    rw [hsa] at HA HT1
    rw [hsb] at HB HT1
    rw [hsc] at HC HT2
    clear hsa hsb hsc a0 a1 b0 b1 c0 c1 hc
    go_enter Try.func6, Try.ntmps6
    go_wp2_with (first
      | (go_at_call 22; (with_reducible refine (HA.out _).mono ?_); rintro e w1 ⟨a1, c1, rfl, hr1, hb1⟩; have hz1 := hb1.size; have fr1 := hr1.1; clear hr1)
      | (go_at_call 22; (with_reducible refine (HB.out _).mono ?_); rintro e w2 ⟨a2, c2, rfl, hr2, hb2⟩; have fr12 := fr1.below hb2; have hbw2 := hb1.trans (hb2.mono hz1); have hz2 := hbw2.size; have fr2 := hr2.1; clear hr2 hb2 hb1)
      | (go_at_call 21; (with_reducible refine (imul_any sa sb a1 a2 _ c1 _ c2 (canon a.natAbs) (canon b.natAbs) _ rfl rfl (by omega) (by omega) fr12 fr2).mono ?_); rintro e w3 ⟨a3, c3, rfl, hr3, hb3⟩; have hbw3 := hbw2.trans (hb3.mono hz2); have hz3 := hbw3.size; have fr3 := hr3.1; rw [valD_canon, valD_canon, HX.out] at fr3; rw [valD_canon, valD_canon, HX.out, HT1.out]; clear hr3 hb3 hbw2)
      | (go_at_call 22; (with_reducible refine (HC.out _).mono ?_); rintro e w4 ⟨a4, c4, rfl, hr4, hb4⟩; have fr34 := fr3.below hb4; have hbw4 := hbw3.trans (hb4.mono hz3); have hz4 := hbw4.size; have fr4 := hr4.1; clear hr4 hb4 hbw3)
      | (go_at_call 20; (with_reducible refine (idr_any t1 sc a3 a4 _ c3 _ c4 (canon X) (canon c.natAbs) _ rfl rfl (by omega) (by omega) fr34 fr4 hCp.out).mono ?_); rintro e w5 ⟨a5, c5, rfl, hr5, hb5⟩; have hbw5 := hbw4.trans (hb5.mono hz4); have hz5 := hbw5.size; have fr5 := hr5.1; rw [valD_canon, valD_canon, HQ.out] at fr5; rw [valD_canon, valD_canon, HQ.out, HT2.out]; clear hr5 hb5 hbw4)
      | (go_at_call 23; (with_reducible refine (toint_any t2 a5 _ c5 Q _ rfl (by omega) (fr5.below (Below.alloc (Below.refl _ _) (Nat.le_refl _) _))).mono ?_); rintro e w6 ⟨rfl, hb6⟩; have hb5' := hbw5.alloc hz5 (.cells #[Value.bool t2, Value.slice a5 (canon Q).length c5] 43); have hbw6 := hb5'.trans (hb6.mono hb5'.size); rw [hres.out.1, hres.out.2]))
    go_ret2
    exact ⟨rfl, hbw6⟩
theorem rdivr_any (a b : Int) (a0 : -9223372036854775808 ≤ a) (a1 : a ≤ 9223372036854775807) (b0 : -9223372036854775808 ≤ b) (b1 : b ≤ 9223372036854775807) (w : World) :
    Calls Try.prog 10 #[.int .i64 a, .int .i64 b] w fun e w' => e = .returned (.int .i64 (mdrV a 1 b)) ∧ Below w.heap.size w w' := by
  have HM := Lib.hid (rmdr_any a 1 b a0 a1 (by omega) (by omega) b0 b1)
  clear a0 a1 b0 b1
  go_enter Try.func10, Try.ntmps10
  go_wp2_with (go_at_call 6; (with_reducible refine (HM.out _).mono ?_); rintro e w1 ⟨rfl, hb1⟩)
  go_ret
  exact ⟨rfl, hb1⟩
end Go.Proofs.Ythofacdiajhjmaa
