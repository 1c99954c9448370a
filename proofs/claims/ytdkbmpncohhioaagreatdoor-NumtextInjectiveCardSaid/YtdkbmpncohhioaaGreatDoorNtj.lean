import Derived.Test.YtdkbmpncohhioaaGreatDoorNtp
import Derived.Test.YtdkbmpncohhioaaGreatDoorNt5
import Derived.Test.YtdkbmpncohhioaaGreatDoorNt8
namespace Go.Proofs.YtdkbmpncohhioaaGreatDoor
open Go.RowKit
set_option linter.unusedVariables false
set_option linter.unusedSimpArgs false
attribute [local go_sem ↓] Go.wp_at_zero Go.wp_at_succ
theorem small_any (s t : Bool) (a b : Option Addr) (n c m d : Nat) (w : World) (hn : n ≤ 9223372036854775807) (hm : m ≤ 9223372036854775807) :
    Calls Tryz.prog 13 #[.agg #[.bool s, .slice a n c, .bool t, .slice b m d]] w fun e w' => e = .returned (.bool (decide (n ≤ 40) && decide (m ≤ 40))) ∧ Below w.heap.size w w' := by
  have hb0 := Below.alloc (Below.refl w.heap.size w) (Nat.le_refl _) (.cells #[Value.bool s, Value.slice a n c, Value.bool t, Value.slice b m d] 33)
  by_cases h : n ≤ 40
  · by_cases h2 : m ≤ 40
    · have d1 : decide ((n : Int) ≤ 40) = true := by simp; omega
      have d2 : decide ((m : Int) ≤ 40) = true := by simp; omega
      have e1 : (decide (n ≤ 40) && decide (m ≤ 40)) = true := by simp; omega
      rw [e1]
      go_enter Tryz.func13, Tryz.ntmps13
      go_wp2
      go_ret
      exact ⟨rfl, hb0⟩
    · have d1 : decide ((n : Int) ≤ 40) = true := by simp; omega
      have d2 : decide ((m : Int) ≤ 40) = false := by simp; omega
      have e1 : (decide (n ≤ 40) && decide (m ≤ 40)) = false := by simp; omega
      rw [e1]
      go_enter Tryz.func13, Tryz.ntmps13
      go_wp2
      go_ret
      exact ⟨rfl, hb0⟩
  · have d1 : decide ((n : Int) ≤ 40) = false := by simp; omega
    have e1 : (decide (n ≤ 40) && decide (m ≤ 40)) = false := by simp; omega
    rw [e1]
    go_enter Tryz.func13, Tryz.ntmps13
    go_wp2
    go_ret
    exact ⟨rfl, hb0⟩
theorem rn_pp (x y : Int) : rnN x y = rnN (pN x y) (pD y) ∧ rnD x y = rnD (pN x y) (pD y) := by
  rcases Int.lt_trichotomy y 0 with h | h | h
  · have e1 : pN x y = -x := by unfold pN; rw [if_neg (by omega), if_pos h]
    have e2 : pD y = -y := by unfold pD; rw [if_neg (by omega), if_pos h]
    obtain ⟨a1, a2⟩ := rn_neg (n := x) h
    obtain ⟨b1, b2⟩ := rn_pos (n := -x) (d := -y) (by omega)
    rw [e1, e2, a1, a2, b1, b2]
    exact ⟨rfl, rfl⟩
  · subst h
    unfold pN pD
    rw [if_pos rfl, if_pos rfl]
    exact ⟨by unfold rnN; rw [if_pos rfl]; decide, by unfold rnD; rw [if_pos rfl]; decide⟩
  · have e1 : pN x y = x := by unfold pN; rw [if_neg (by omega), if_neg (by omega)]
    have e2 : pD y = y := by unfold pD; rw [if_neg (by omega), if_neg (by omega)]
    rw [e1, e2]
    exact ⟨rfl, rfl⟩
theorem rn_cr {a b : Int} (h : 0 < b) : rnN a b * b = a * rnD a b := by
  obtain ⟨h1, h2⟩ := rn_pos (n := a) h
  rw [h1, h2]
  obtain ⟨A, hA⟩ := Nat.gcd_dvd_left a.natAbs b.natAbs
  obtain ⟨B, hB⟩ := Nat.gcd_dvd_right a.natAbs b.natAbs
  have hg : 0 < Nat.gcd a.natAbs b.natAbs := Nat.gcd_pos_of_pos_right _ (by omega)
  obtain ⟨g, hgg⟩ : ∃ g, Nat.gcd a.natAbs b.natAbs = g := ⟨_, rfl⟩
  rw [hgg] at hA hB hg ⊢
  have dA : a.natAbs / g = A := by rw [hA]; exact Nat.mul_div_cancel_left _ hg
  have dB : b.natAbs / g = B := by rw [hB]; exact Nat.mul_div_cancel_left _ hg
  rw [dA, dB]
  have eb : b = (g : Int) * (B : Int) := by rw [← Int.natCast_mul, ← hB]; omega
  by_cases hx : a < 0
  · have ea : a = -((g : Int) * (A : Int)) := by rw [← Int.natCast_mul, ← hA]; omega
    have ed : decide (a < 0) = true := by simpa using hx
    rw [ed, ea, eb]
    show -(A : Int) * ((g : Int) * (B : Int)) = -((g : Int) * (A : Int)) * (B : Int)
    rw [Int.neg_mul, Int.neg_mul, Int.mul_left_comm, Int.mul_assoc]
  · have ea : a = (g : Int) * (A : Int) := by rw [← Int.natCast_mul, ← hA]; omega
    have ed : decide (a < 0) = false := by simpa using hx
    rw [ed, ea, eb]
    show (A : Int) * ((g : Int) * (B : Int)) = (g : Int) * (A : Int) * (B : Int)
    rw [Int.mul_left_comm, Int.mul_assoc]
theorem cop_eq {n1 d1 n2 d2 : Int} (h1 : 0 < d1) (h2 : 0 < d2) (g1 : Nat.gcd n1.natAbs d1.natAbs = 1) (g2 : Nat.gcd n2.natAbs d2.natAbs = 1) (h : n1 * d2 = n2 * d1) : n1 = n2 ∧ d1 = d2 := by
  have hn : n1.natAbs * d2.natAbs = n2.natAbs * d1.natAbs := by rw [← Int.natAbs_mul, ← Int.natAbs_mul, h]
  have e1 : d1.natAbs ∣ d2.natAbs := Nat.Coprime.dvd_of_dvd_mul_left (Nat.Coprime.symm g1) ⟨n2.natAbs, by rw [hn, Nat.mul_comm]⟩
  have e2 : d2.natAbs ∣ d1.natAbs := Nat.Coprime.dvd_of_dvd_mul_left (Nat.Coprime.symm g2) ⟨n1.natAbs, by rw [← hn, Nat.mul_comm]⟩
  have e3 := Nat.dvd_antisymm e1 e2
  have e4 : d1 = d2 := by omega
  subst e4
  exact ⟨Int.eq_of_mul_eq_mul_right (by omega) h, rfl⟩
theorem cmp_zero (x y u v : Int) : (pN x y * pD v - pN u v * pD y).sign = 0 ↔ rnN x y = rnN u v ∧ rnD x y = rnD u v := by
  rw [Int.sign_eq_zero_iff_zero]
  have hb := pD_pos y
  have hd := pD_pos v
  have c1 := rn_cr (a := pN x y) hb
  have c2 := rn_cr (a := pN u v) hd
  obtain ⟨f1, f2⟩ := rn_form x y
  obtain ⟨f3, f4⟩ := rn_form u v
  rw [← (rn_pp x y).1, ← (rn_pp x y).2] at c1
  rw [← (rn_pp u v).1, ← (rn_pp u v).2] at c2
  obtain ⟨a, ha⟩ : ∃ a, pN x y = a := ⟨_, rfl⟩
  obtain ⟨b, hbb⟩ : ∃ a, pD y = a := ⟨_, rfl⟩
  obtain ⟨c, hc⟩ : ∃ a, pN u v = a := ⟨_, rfl⟩
  obtain ⟨d, hdd⟩ : ∃ a, pD v = a := ⟨_, rfl⟩
  obtain ⟨N1, hN1⟩ : ∃ a, rnN x y = a := ⟨_, rfl⟩
  obtain ⟨D1, hD1⟩ : ∃ a, rnD x y = a := ⟨_, rfl⟩
  obtain ⟨N2, hN2⟩ : ∃ a, rnN u v = a := ⟨_, rfl⟩
  obtain ⟨D2, hD2⟩ : ∃ a, rnD u v = a := ⟨_, rfl⟩
  rw [ha, hbb, hN1, hD1] at c1
  rw [hc, hdd, hN2, hD2] at c2
  rw [ha, hbb, hc, hdd, hN1, hD1, hN2, hD2]
  rw [hN1, hD1] at f2
  rw [hD1] at f1
  rw [hN2, hD2] at f4
  rw [hD2] at f3
  rw [hbb] at hb
  rw [hdd] at hd
  constructor
  · intro h
    have h' : a * d = c * b := by omega
    refine cop_eq f1 f3 f2 f4 ?_
    have hbd : b * d ≠ 0 := Int.ne_of_gt (Int.mul_pos hb hd)
    apply Int.eq_of_mul_eq_mul_right hbd
    calc N1 * D2 * (b * d) = (N1 * b) * (D2 * d) := by simp only [Int.mul_assoc, Int.mul_left_comm, Int.mul_comm]
      _ = (a * D1) * (D2 * d) := by rw [c1]
      _ = (a * d) * (D1 * D2) := by simp only [Int.mul_assoc, Int.mul_left_comm, Int.mul_comm]
      _ = (c * b) * (D1 * D2) := by rw [h']
      _ = (c * D2) * (D1 * b) := by simp only [Int.mul_assoc, Int.mul_left_comm, Int.mul_comm]
      _ = (N2 * d) * (D1 * b) := by rw [c2]
      _ = N2 * D1 * (b * d) := by simp only [Int.mul_assoc, Int.mul_left_comm, Int.mul_comm]
  · rintro ⟨h1, h2⟩
    subst h1 h2
    have : a * d = c * b := by
      apply Int.eq_of_mul_eq_mul_right (show D1 ≠ 0 by omega)
      calc a * d * D1 = (a * D1) * d := by simp only [Int.mul_assoc, Int.mul_left_comm, Int.mul_comm]
        _ = (N1 * b) * d := by rw [c1]
        _ = (N1 * d) * b := by simp only [Int.mul_assoc, Int.mul_left_comm, Int.mul_comm]
        _ = (c * D1) * b := by rw [c2]
        _ = c * b * D1 := by simp only [Int.mul_assoc, Int.mul_left_comm, Int.mul_comm]
    omega
theorem zfmt_inj {n m : Int} (h : zfmt n = zfmt m) : n = m := by
  have h1 := (fmt_back n).1
  have h2 := (fmt_back m).1
  rw [h] at h1
  exact h1.symm.trans h2
theorem fmtR_inj {x y u v : Int} (a1 : (canon (rnN x y).natAbs).length ≤ 90) (a2 : (canon (rnD x y).natAbs).length ≤ 90) (a3 : (canon (rnN u v).natAbs).length ≤ 90) (a4 : (canon (rnD u v).natAbs).length ≤ 90) (h : fmtR (rnN x y) (rnD x y) = fmtR (rnN u v) (rnD u v)) : rnN x y = rnN u v ∧ rnD x y = rnD u v := by
  obtain ⟨_, e1, e2⟩ := qE_fmt x y a1 a2
  obtain ⟨_, e3, e4⟩ := qE_fmt u v a3 a4
  rw [h] at e1 e2
  exact ⟨e1.symm.trans e3, e2.symm.trans e4⟩
set_option maxRecDepth 50000 in
theorem nij_no1 (nn mm : Int) (s t s2 t2 : Bool) (a b a2 b2 : Option Addr) (c d c2 d2 : Nat) (l k l2 m2 : List (BitVec 32)) (w : World) (hS1 : ∀ W, Calls Tryz.prog 13 #[.agg #[.bool s, .slice a l.length c, .bool t, .slice b k.length d]] W fun e w' => e = .returned (.bool false) ∧ Below W.heap.size W w') (hT : Tb w) (hM : Mx w) :
    Calls Tryz.prog 5 #[.int .i64 nn, .int .i64 mm, .agg #[.bool s, .slice a l.length c, .bool t, .slice b k.length d], .agg #[.bool s2, .slice a2 l2.length c2, .bool t2, .slice b2 m2.length d2]] w fun e w' => e = .returned (.bool true) ∧ Below w.heap.size w w' := by
  have hb1 := Below.alloc (Below.refl w.heap.size w) (Nat.le_refl _) (.cells #[Value.bool s, Value.slice a l.length c, Value.bool t, Value.slice b k.length d] 33)
  have hb2 := Below.alloc hb1 (by simp) (.cells #[Value.bool s2, Value.slice a2 l2.length c2, Value.bool t2, Value.slice b2 m2.length d2] 33)
  have hz2 := hb2.size
  have HS1 := Lib.hid hS1
  clear hS1
  go_enter Tryz.func5, Tryz.ntmps5
  go_wp2_with (first
    | (go_at_call 13; go_loud (first | ((with_reducible refine (HS1.out _).mono ?_); rintro e w1 ⟨rfl, hc1⟩; have k1_p_0 : w1.cell? ⟨w.heap.size, 0, none⟩ = some (.bool s) := bcs hc1 (by first | with_reducible assumption | go_simp); have k1_p_1 : w1.cell? ⟨w.heap.size, 1, none⟩ = some (.slice a l.length c) := bcs hc1 (by first | with_reducible assumption | go_simp); have k1_p_2 : w1.cell? ⟨w.heap.size, 2, none⟩ = some (.bool t) := bcs hc1 (by first | with_reducible assumption | go_simp); have k1_p_3 : w1.cell? ⟨w.heap.size, 3, none⟩ = some (.slice b k.length d) := bcs hc1 (by first | with_reducible assumption | go_simp); have k1_q_0 : w1.cell? ⟨(w.heap.size + 1), 0, none⟩ = some (.bool s2) := bcs hc1 (by first | with_reducible assumption | go_simp); have k1_q_1 : w1.cell? ⟨(w.heap.size + 1), 1, none⟩ = some (.slice a2 l2.length c2) := bcs hc1 (by first | with_reducible assumption | go_simp); have k1_q_2 : w1.cell? ⟨(w.heap.size + 1), 2, none⟩ = some (.bool t2) := bcs hc1 (by first | with_reducible assumption | go_simp); have k1_q_3 : w1.cell? ⟨(w.heap.size + 1), 3, none⟩ = some (.slice b2 m2.length d2) := bcs hc1 (by first | with_reducible assumption | go_simp); have x1_p : ¬ w.heap.size = w1.heap.size := qne k1_p_0; have y1_p : ¬ w1.heap.size = w.heap.size := fun h => qne k1_p_0 h.symm; have q1_p : w.heap.size < w1.heap.size := qlt k1_p_0; have x1_q : ¬ (w.heap.size + 1) = w1.heap.size := qne k1_q_0; have y1_q : ¬ w1.heap.size = (w.heap.size + 1) := fun h => qne k1_q_0 h.symm; have q1_q : (w.heap.size + 1) < w1.heap.size := qlt k1_q_0; have hbw1 : Below w.heap.size w w1 := hb2.trans (hc1.mono hz2))))
    | (go_at_call 6; go_loud ((with_reducible refine (ex_any _ (hT.below (show Below w.heap.size w _ from (by (repeat' first | with_reducible assumption | with_reducible refine below_drewN ?_ _ | with_reducible refine Below.drew ?_ | with_reducible refine belAl2 ?_ _)))) (hM.below (show Below w.heap.size w _ from (by (repeat' first | with_reducible assumption | with_reducible refine below_drewN ?_ _ | with_reducible refine Below.drew ?_ | with_reducible refine belAl2 ?_ _))))).mono ?_); rintro e w9 ⟨rfl, hc9⟩; have hbw9 : Below w.heap.size w w9 := bel_step (show Below w.heap.size w _ from (by (repeat' first | with_reducible assumption | with_reducible refine below_drewN ?_ _ | with_reducible refine Below.drew ?_ | with_reducible refine belAl2 ?_ _))) hc9)))
  go_ret
  exact ⟨rfl, hbw9⟩
set_option maxRecDepth 50000 in
theorem nij_no2 (nn mm : Int) (s t s2 t2 : Bool) (a b a2 b2 : Option Addr) (c d c2 d2 : Nat) (l k l2 m2 : List (BitVec 32)) (w : World) (hS1 : ∀ W, Calls Tryz.prog 13 #[.agg #[.bool s, .slice a l.length c, .bool t, .slice b k.length d]] W fun e w' => e = .returned (.bool true) ∧ Below W.heap.size W w') (hS2 : ∀ W, Calls Tryz.prog 13 #[.agg #[.bool s2, .slice a2 l2.length c2, .bool t2, .slice b2 m2.length d2]] W fun e w' => e = .returned (.bool false) ∧ Below W.heap.size W w') (hT : Tb w) (hM : Mx w) :
    Calls Tryz.prog 5 #[.int .i64 nn, .int .i64 mm, .agg #[.bool s, .slice a l.length c, .bool t, .slice b k.length d], .agg #[.bool s2, .slice a2 l2.length c2, .bool t2, .slice b2 m2.length d2]] w fun e w' => e = .returned (.bool true) ∧ Below w.heap.size w w' := by
  have hb1 := Below.alloc (Below.refl w.heap.size w) (Nat.le_refl _) (.cells #[Value.bool s, Value.slice a l.length c, Value.bool t, Value.slice b k.length d] 33)
  have hb2 := Below.alloc hb1 (by simp) (.cells #[Value.bool s2, Value.slice a2 l2.length c2, Value.bool t2, Value.slice b2 m2.length d2] 33)
  have hz2 := hb2.size
  have HS1 := Lib.hid hS1
  have HS2 := Lib.hid hS2
  clear hS1 hS2
  go_enter Tryz.func5, Tryz.ntmps5
  go_wp2_with (first
    | (go_at_call 13; go_loud (first | ((with_reducible refine (HS2.out _).mono ?_); rintro e w2 ⟨rfl, hc2⟩; have k2_p_0 : w2.cell? ⟨w.heap.size, 0, none⟩ = some (.bool s) := bcs hc2 (by first | with_reducible assumption | go_simp); have k2_p_1 : w2.cell? ⟨w.heap.size, 1, none⟩ = some (.slice a l.length c) := bcs hc2 (by first | with_reducible assumption | go_simp); have k2_p_2 : w2.cell? ⟨w.heap.size, 2, none⟩ = some (.bool t) := bcs hc2 (by first | with_reducible assumption | go_simp); have k2_p_3 : w2.cell? ⟨w.heap.size, 3, none⟩ = some (.slice b k.length d) := bcs hc2 (by first | with_reducible assumption | go_simp); have k2_q_0 : w2.cell? ⟨(w.heap.size + 1), 0, none⟩ = some (.bool s2) := bcs hc2 (by first | with_reducible assumption | go_simp); have k2_q_1 : w2.cell? ⟨(w.heap.size + 1), 1, none⟩ = some (.slice a2 l2.length c2) := bcs hc2 (by first | with_reducible assumption | go_simp); have k2_q_2 : w2.cell? ⟨(w.heap.size + 1), 2, none⟩ = some (.bool t2) := bcs hc2 (by first | with_reducible assumption | go_simp); have k2_q_3 : w2.cell? ⟨(w.heap.size + 1), 3, none⟩ = some (.slice b2 m2.length d2) := bcs hc2 (by first | with_reducible assumption | go_simp); have x2_p : ¬ w.heap.size = w2.heap.size := qne k2_p_0; have y2_p : ¬ w2.heap.size = w.heap.size := fun h => qne k2_p_0 h.symm; have q2_p : w.heap.size < w2.heap.size := qlt k2_p_0; have x2_q : ¬ (w.heap.size + 1) = w2.heap.size := qne k2_q_0; have y2_q : ¬ w2.heap.size = (w.heap.size + 1) := fun h => qne k2_q_0 h.symm; have q2_q : (w.heap.size + 1) < w2.heap.size := qlt k2_q_0; have hbw2 : Below w.heap.size w w2 := bel_step hbw1 hc2) | ((with_reducible refine (HS1.out _).mono ?_); rintro e w1 ⟨rfl, hc1⟩; have k1_p_0 : w1.cell? ⟨w.heap.size, 0, none⟩ = some (.bool s) := bcs hc1 (by first | with_reducible assumption | go_simp); have k1_p_1 : w1.cell? ⟨w.heap.size, 1, none⟩ = some (.slice a l.length c) := bcs hc1 (by first | with_reducible assumption | go_simp); have k1_p_2 : w1.cell? ⟨w.heap.size, 2, none⟩ = some (.bool t) := bcs hc1 (by first | with_reducible assumption | go_simp); have k1_p_3 : w1.cell? ⟨w.heap.size, 3, none⟩ = some (.slice b k.length d) := bcs hc1 (by first | with_reducible assumption | go_simp); have k1_q_0 : w1.cell? ⟨(w.heap.size + 1), 0, none⟩ = some (.bool s2) := bcs hc1 (by first | with_reducible assumption | go_simp); have k1_q_1 : w1.cell? ⟨(w.heap.size + 1), 1, none⟩ = some (.slice a2 l2.length c2) := bcs hc1 (by first | with_reducible assumption | go_simp); have k1_q_2 : w1.cell? ⟨(w.heap.size + 1), 2, none⟩ = some (.bool t2) := bcs hc1 (by first | with_reducible assumption | go_simp); have k1_q_3 : w1.cell? ⟨(w.heap.size + 1), 3, none⟩ = some (.slice b2 m2.length d2) := bcs hc1 (by first | with_reducible assumption | go_simp); have x1_p : ¬ w.heap.size = w1.heap.size := qne k1_p_0; have y1_p : ¬ w1.heap.size = w.heap.size := fun h => qne k1_p_0 h.symm; have q1_p : w.heap.size < w1.heap.size := qlt k1_p_0; have x1_q : ¬ (w.heap.size + 1) = w1.heap.size := qne k1_q_0; have y1_q : ¬ w1.heap.size = (w.heap.size + 1) := fun h => qne k1_q_0 h.symm; have q1_q : (w.heap.size + 1) < w1.heap.size := qlt k1_q_0; have hbw1 : Below w.heap.size w w1 := hb2.trans (hc1.mono hz2))))
    | (go_at_call 6; go_loud ((with_reducible refine (ex_any _ (hT.below (show Below w.heap.size w _ from (by (repeat' first | with_reducible assumption | with_reducible refine below_drewN ?_ _ | with_reducible refine Below.drew ?_ | with_reducible refine belAl2 ?_ _)))) (hM.below (show Below w.heap.size w _ from (by (repeat' first | with_reducible assumption | with_reducible refine below_drewN ?_ _ | with_reducible refine Below.drew ?_ | with_reducible refine belAl2 ?_ _))))).mono ?_); rintro e w9 ⟨rfl, hc9⟩; have hbw9 : Below w.heap.size w w9 := bel_step (show Below w.heap.size w _ from (by (repeat' first | with_reducible assumption | with_reducible refine below_drewN ?_ _ | with_reducible refine Below.drew ?_ | with_reducible refine belAl2 ?_ _))) hc9)))
  go_ret
  exact ⟨rfl, hbw9⟩
set_option maxRecDepth 50000 in
set_option maxHeartbeats 4000000 in
theorem nij_ok (nn mm : Int) (s t s2 t2 : Bool) (a b a2 b2 : Option Addr) (c d c2 d2 : Nat) (l k l2 m2 : List (BitVec 32)) (w : World) (hr : Rw w a l) (hs : Rw w b k) (hr2 : Rw w a2 l2) (hs2 : Rw w b2 m2) (hS1 : ∀ W, Calls Tryz.prog 13 #[.agg #[.bool s, .slice a l.length c, .bool t, .slice b k.length d]] W fun e w' => e = .returned (.bool true) ∧ Below W.heap.size W w') (hS2 : ∀ W, Calls Tryz.prog 13 #[.agg #[.bool s2, .slice a2 l2.length c2, .bool t2, .slice b2 m2.length d2]] W fun e w' => e = .returned (.bool true) ∧ Below W.heap.size W w') (I1 I2 R1 R2 : ByteArray) (z : Int)
    (hI1 : ∀ W, Tb W → Calls Tryz.prog 11 #[.int .i64 nn] W fun e w' => e = .returned (.string I1) ∧ Below W.heap.size W w') (hI2 : ∀ W, Tb W → Calls Tryz.prog 11 #[.int .i64 mm] W fun e w' => e = .returned (.string I2) ∧ Below W.heap.size W w')
    (hR1 : ∀ W, Rw W a l → Rw W b k → Tb W → Calls Tryz.prog 16 #[.agg #[.bool s, .slice a l.length c, .bool t, .slice b k.length d]] W fun e w' => e = .returned (.string R1) ∧ Below W.heap.size W w') (hR2 : ∀ W, Rw W a2 l2 → Rw W b2 m2 → Tb W → Calls Tryz.prog 16 #[.agg #[.bool s2, .slice a2 l2.length c2, .bool t2, .slice b2 m2.length d2]] W fun e w' => e = .returned (.string R2) ∧ Below W.heap.size W w')
    (hC : ∀ W, Rw W a l → Rw W b k → Rw W a2 l2 → Rw W b2 m2 → Calls Tryz.prog 19 #[.agg #[.bool s, .slice a l.length c, .bool t, .slice b k.length d], .agg #[.bool s2, .slice a2 l2.length c2, .bool t2, .slice b2 m2.length d2]] W fun e w' => e = .returned (.int .i64 z) ∧ Below W.heap.size W w')
    (e1 e2 : Bool) (f1 : (I1.toList == I2.toList) = e1) (f2 : (nn == mm) = e1) (f3 : (R1.toList == R2.toList) = e2) (f4 : (z == 0) = e2) (hT : Tb w) (hM : Mx w) :
    Calls Tryz.prog 5 #[.int .i64 nn, .int .i64 mm, .agg #[.bool s, .slice a l.length c, .bool t, .slice b k.length d], .agg #[.bool s2, .slice a2 l2.length c2, .bool t2, .slice b2 m2.length d2]] w fun e w' => e = .returned (.bool true) ∧ Below w.heap.size w w' := by
  have hb1 := Below.alloc (Below.refl w.heap.size w) (Nat.le_refl _) (.cells #[Value.bool s, Value.slice a l.length c, Value.bool t, Value.slice b k.length d] 33)
  have hb2 := Below.alloc hb1 (by simp) (.cells #[Value.bool s2, Value.slice a2 l2.length c2, Value.bool t2, Value.slice b2 m2.length d2] 33)
  have hz2 := hb2.size
  have HS1 := Lib.hid hS1
  have HS2 := Lib.hid hS2
  have HI1 := Lib.hid hI1
  have HI2 := Lib.hid hI2
  have HR1 := Lib.hid hR1
  have HR2 := Lib.hid hR2
  have HC := Lib.hid hC
  have f5 : (e1 == e1) = true := by cases e1 <;> rfl
  have f6 : (e2 == e2) = true := by cases e2 <;> rfl
  clear hS1 hS2 hI1 hI2 hR1 hR2 hC
  go_enter Tryz.func5, Tryz.ntmps5
  go_wp2_with (go_at_call 13; go_loud (first | ((with_reducible refine (HS2.out _).mono ?_); rintro e w2 ⟨rfl, hc2⟩; have k2_p_0 : w2.cell? ⟨w.heap.size, 0, none⟩ = some (.bool s) := bcs hc2 (by first | with_reducible assumption | go_simp); have k2_p_1 : w2.cell? ⟨w.heap.size, 1, none⟩ = some (.slice a l.length c) := bcs hc2 (by first | with_reducible assumption | go_simp); have k2_p_2 : w2.cell? ⟨w.heap.size, 2, none⟩ = some (.bool t) := bcs hc2 (by first | with_reducible assumption | go_simp); have k2_p_3 : w2.cell? ⟨w.heap.size, 3, none⟩ = some (.slice b k.length d) := bcs hc2 (by first | with_reducible assumption | go_simp); have k2_q_0 : w2.cell? ⟨(w.heap.size + 1), 0, none⟩ = some (.bool s2) := bcs hc2 (by first | with_reducible assumption | go_simp); have k2_q_1 : w2.cell? ⟨(w.heap.size + 1), 1, none⟩ = some (.slice a2 l2.length c2) := bcs hc2 (by first | with_reducible assumption | go_simp); have k2_q_2 : w2.cell? ⟨(w.heap.size + 1), 2, none⟩ = some (.bool t2) := bcs hc2 (by first | with_reducible assumption | go_simp); have k2_q_3 : w2.cell? ⟨(w.heap.size + 1), 3, none⟩ = some (.slice b2 m2.length d2) := bcs hc2 (by first | with_reducible assumption | go_simp); have x2_p : ¬ w.heap.size = w2.heap.size := qne k2_p_0; have y2_p : ¬ w2.heap.size = w.heap.size := fun h => qne k2_p_0 h.symm; have q2_p : w.heap.size < w2.heap.size := qlt k2_p_0; have x2_q : ¬ (w.heap.size + 1) = w2.heap.size := qne k2_q_0; have y2_q : ¬ w2.heap.size = (w.heap.size + 1) := fun h => qne k2_q_0 h.symm; have q2_q : (w.heap.size + 1) < w2.heap.size := qlt k2_q_0; have hbw2 : Below w.heap.size w w2 := bel_step hbw1 hc2) | ((with_reducible refine (HS1.out _).mono ?_); rintro e w1 ⟨rfl, hc1⟩; have k1_p_0 : w1.cell? ⟨w.heap.size, 0, none⟩ = some (.bool s) := bcs hc1 (by first | with_reducible assumption | go_simp); have k1_p_1 : w1.cell? ⟨w.heap.size, 1, none⟩ = some (.slice a l.length c) := bcs hc1 (by first | with_reducible assumption | go_simp); have k1_p_2 : w1.cell? ⟨w.heap.size, 2, none⟩ = some (.bool t) := bcs hc1 (by first | with_reducible assumption | go_simp); have k1_p_3 : w1.cell? ⟨w.heap.size, 3, none⟩ = some (.slice b k.length d) := bcs hc1 (by first | with_reducible assumption | go_simp); have k1_q_0 : w1.cell? ⟨(w.heap.size + 1), 0, none⟩ = some (.bool s2) := bcs hc1 (by first | with_reducible assumption | go_simp); have k1_q_1 : w1.cell? ⟨(w.heap.size + 1), 1, none⟩ = some (.slice a2 l2.length c2) := bcs hc1 (by first | with_reducible assumption | go_simp); have k1_q_2 : w1.cell? ⟨(w.heap.size + 1), 2, none⟩ = some (.bool t2) := bcs hc1 (by first | with_reducible assumption | go_simp); have k1_q_3 : w1.cell? ⟨(w.heap.size + 1), 3, none⟩ = some (.slice b2 m2.length d2) := bcs hc1 (by first | with_reducible assumption | go_simp); have x1_p : ¬ w.heap.size = w1.heap.size := qne k1_p_0; have y1_p : ¬ w1.heap.size = w.heap.size := fun h => qne k1_p_0 h.symm; have q1_p : w.heap.size < w1.heap.size := qlt k1_p_0; have x1_q : ¬ (w.heap.size + 1) = w1.heap.size := qne k1_q_0; have y1_q : ¬ w1.heap.size = (w.heap.size + 1) := fun h => qne k1_q_0 h.symm; have q1_q : (w.heap.size + 1) < w1.heap.size := qlt k1_q_0; have hbw1 : Below w.heap.size w w1 := hb2.trans (hc1.mono hz2))))
  refine wp_region_held_drew (S := (fun w' => w'.cell? ⟨w.heap.size, 0, none⟩ = some (.bool s) ∧ w'.cell? ⟨w.heap.size, 1, none⟩ = some (.slice a l.length c) ∧ w'.cell? ⟨w.heap.size, 2, none⟩ = some (.bool t) ∧ w'.cell? ⟨w.heap.size, 3, none⟩ = some (.slice b k.length d) ∧ w'.cell? ⟨(w.heap.size + 1), 0, none⟩ = some (.bool s2) ∧ w'.cell? ⟨(w.heap.size + 1), 1, none⟩ = some (.slice a2 l2.length c2) ∧ w'.cell? ⟨(w.heap.size + 1), 2, none⟩ = some (.bool t2) ∧ w'.cell? ⟨(w.heap.size + 1), 3, none⟩ = some (.slice b2 m2.length d2))) (by kernel_rfl) ?_ (fun hHeld => ?_)
  · (try dsimp only); (first | with_reducible exact ⟨k8_p_0, k8_p_1, k8_p_2, k8_p_3, k8_q_0, k8_q_1, k8_q_2, k8_q_3⟩ | with_reducible exact ⟨k7_p_0, k7_p_1, k7_p_2, k7_p_3, k7_q_0, k7_q_1, k7_q_2, k7_q_3⟩ | with_reducible exact ⟨k6_p_0, k6_p_1, k6_p_2, k6_p_3, k6_q_0, k6_q_1, k6_q_2, k6_q_3⟩ | with_reducible exact ⟨k5_p_0, k5_p_1, k5_p_2, k5_p_3, k5_q_0, k5_q_1, k5_q_2, k5_q_3⟩ | with_reducible exact ⟨k4_p_0, k4_p_1, k4_p_2, k4_p_3, k4_q_0, k4_q_1, k4_q_2, k4_q_3⟩ | with_reducible exact ⟨k3_p_0, k3_p_1, k3_p_2, k3_p_3, k3_q_0, k3_q_1, k3_q_2, k3_q_3⟩ | with_reducible exact ⟨k2_p_0, k2_p_1, k2_p_2, k2_p_3, k2_q_0, k2_q_1, k2_q_2, k2_q_3⟩ | (refine ⟨?_, ?_, ?_, ?_, ?_, ?_, ?_, ?_⟩ <;> go_simp))
  refine wpAnyH_take (i := 0) (oi := { dst := some 18, op := Op.move (Operand.tmp 0), type := 3, pos := "law.go:92", after := #[], guard := none }) (v := ?_) rfl (by kernel_rfl) (by kernel_rfl) (by kernel_rfl) (fun _ _ _ h => h) (Or.inl ⟨by rfl, ?_⟩) hHeld ?_
  rotate_left
  · (intro w hSw; (try dsimp only at hSw); go_simp; try with_reducible rfl)
  try simp only [Act.put, List.setIfInBounds_toArray, List.set_cons_zero, List.set_cons_succ]
  refine wpAnyH_take (i := 2) (oi := { dst := some 20, op := Op.move (Operand.tmp 1), type := 3, pos := "law.go:92", after := #[], guard := none }) (v := ?_) rfl (by kernel_rfl) (by kernel_rfl) (by kernel_rfl) (fun _ _ _ h => h) (Or.inl ⟨by rfl, ?_⟩) hHeld ?_
  rotate_left
  · (intro w hSw; (try dsimp only at hSw); go_simp; try with_reducible rfl)
  try simp only [Act.put, List.setIfInBounds_toArray, List.set_cons_zero, List.set_cons_succ]
  refine wpAnyH_take (i := 5) (oi := { dst := some 23, op := Op.move (Operand.tmp 0), type := 3, pos := "law.go:92", after := #[], guard := none }) (v := ?_) rfl (by kernel_rfl) (by kernel_rfl) (by kernel_rfl) (fun _ _ _ h => h) (Or.inl ⟨by rfl, ?_⟩) hHeld ?_
  rotate_left
  · (intro w hSw; (try dsimp only at hSw); go_simp; try with_reducible rfl)
  try simp only [Act.put, List.setIfInBounds_toArray, List.set_cons_zero, List.set_cons_succ]
  refine wpAnyH_take (i := 6) (oi := { dst := some 24, op := Op.move (Operand.tmp 1), type := 3, pos := "law.go:92", after := #[], guard := none }) (v := ?_) rfl (by kernel_rfl) (by kernel_rfl) (by kernel_rfl) (fun _ _ _ h => h) (Or.inl ⟨by rfl, ?_⟩) hHeld ?_
  rotate_left
  · (intro w hSw; (try dsimp only at hSw); go_simp; try with_reducible rfl)
  try simp only [Act.put, List.setIfInBounds_toArray, List.set_cons_zero, List.set_cons_succ]
  refine wpAnyH_take (i := 7) (oi := { dst := some 25, op := Op.binOp BinOp.eql 3 (Operand.tmp 23) (Operand.tmp 24) 3, type := 4, pos := "law.go:92", after := #[{ on := 5, ground := Ground.data }, { on := 6, ground := Ground.data }], guard := none }) (v := ?_) rfl (by kernel_rfl) (by kernel_rfl) (by kernel_rfl) (fun _ _ _ h => h) (Or.inl ⟨by rfl, ?_⟩) hHeld ?_
  rotate_left
  · (intro w hSw; (try dsimp only at hSw); go_simp; try with_reducible rfl)
  try simp only [Act.put, List.setIfInBounds_toArray, List.set_cons_zero, List.set_cons_succ]
  refine wpAnyH_ready (rs := [1]) (by kernel_rfl) (by simp) ?_
  refine AllReadyH.cons (o := { dst := some 19, op := Op.call { callee := Callee.value (Operand.func 11), args := #[Operand.tmp 18], argTypes := #[3] }, type := 9, pos := "law.go:92", after := #[{ on := 0, ground := Ground.data }], guard := none }) rfl (fun K hK => ?_) AllReadyH.nil
  go_simp
  (go_at_call 11; go_loud ((with_reducible refine (HI1.out _ (hT.below (show Below w.heap.size w _ from (by (repeat' first | with_reducible assumption | with_reducible refine below_drewN ?_ _ | with_reducible refine Below.drew ?_ | with_reducible refine belAl2 ?_ _))))).mono ?_); rintro e w3 ⟨rfl, hc3⟩; have k3_p_0 : w3.cell? ⟨w.heap.size, 0, none⟩ = some (.bool s) := bcs hc3 (by first | with_reducible assumption | go_simp); have k3_p_1 : w3.cell? ⟨w.heap.size, 1, none⟩ = some (.slice a l.length c) := bcs hc3 (by first | with_reducible assumption | go_simp); have k3_p_2 : w3.cell? ⟨w.heap.size, 2, none⟩ = some (.bool t) := bcs hc3 (by first | with_reducible assumption | go_simp); have k3_p_3 : w3.cell? ⟨w.heap.size, 3, none⟩ = some (.slice b k.length d) := bcs hc3 (by first | with_reducible assumption | go_simp); have k3_q_0 : w3.cell? ⟨(w.heap.size + 1), 0, none⟩ = some (.bool s2) := bcs hc3 (by first | with_reducible assumption | go_simp); have k3_q_1 : w3.cell? ⟨(w.heap.size + 1), 1, none⟩ = some (.slice a2 l2.length c2) := bcs hc3 (by first | with_reducible assumption | go_simp); have k3_q_2 : w3.cell? ⟨(w.heap.size + 1), 2, none⟩ = some (.bool t2) := bcs hc3 (by first | with_reducible assumption | go_simp); have k3_q_3 : w3.cell? ⟨(w.heap.size + 1), 3, none⟩ = some (.slice b2 m2.length d2) := bcs hc3 (by first | with_reducible assumption | go_simp); have x3_p : ¬ w.heap.size = w3.heap.size := qne k3_p_0; have y3_p : ¬ w3.heap.size = w.heap.size := fun h => qne k3_p_0 h.symm; have q3_p : w.heap.size < w3.heap.size := qlt k3_p_0; have x3_q : ¬ (w.heap.size + 1) = w3.heap.size := qne k3_q_0; have y3_q : ¬ w3.heap.size = (w.heap.size + 1) := fun h => qne k3_q_0 h.symm; have q3_q : (w.heap.size + 1) < w3.heap.size := qlt k3_q_0; have hbw3 : Below w.heap.size w w3 := bel_step (show Below w.heap.size w _ from (by (repeat' first | with_reducible assumption | with_reducible refine below_drewN ?_ _ | with_reducible refine Below.drew ?_ | with_reducible refine belAl2 ?_ _))) hc3))
  refine hK.out _ _ ?_ (fun hHeld2 => ?_)
  · (try dsimp only); (first | with_reducible exact ⟨k8_p_0, k8_p_1, k8_p_2, k8_p_3, k8_q_0, k8_q_1, k8_q_2, k8_q_3⟩ | with_reducible exact ⟨k7_p_0, k7_p_1, k7_p_2, k7_p_3, k7_q_0, k7_q_1, k7_q_2, k7_q_3⟩ | with_reducible exact ⟨k6_p_0, k6_p_1, k6_p_2, k6_p_3, k6_q_0, k6_q_1, k6_q_2, k6_q_3⟩ | with_reducible exact ⟨k5_p_0, k5_p_1, k5_p_2, k5_p_3, k5_q_0, k5_q_1, k5_q_2, k5_q_3⟩ | with_reducible exact ⟨k4_p_0, k4_p_1, k4_p_2, k4_p_3, k4_q_0, k4_q_1, k4_q_2, k4_q_3⟩ | with_reducible exact ⟨k3_p_0, k3_p_1, k3_p_2, k3_p_3, k3_q_0, k3_q_1, k3_q_2, k3_q_3⟩ | with_reducible exact ⟨k2_p_0, k2_p_1, k2_p_2, k2_p_3, k2_q_0, k2_q_1, k2_q_2, k2_q_3⟩ | (refine ⟨?_, ?_, ?_, ?_, ?_, ?_, ?_, ?_⟩ <;> go_simp))
  clear hK K hHeld
  have hHeld := hHeld2; clear hHeld2
  try simp only [Act.put, List.setIfInBounds_toArray, List.set_cons_zero, List.set_cons_succ]
  refine wpAnyH_ready (rs := [3]) (by kernel_rfl) (by simp) ?_
  refine AllReadyH.cons (o := { dst := some 21, op := Op.call { callee := Callee.value (Operand.func 11), args := #[Operand.tmp 20], argTypes := #[3] }, type := 9, pos := "law.go:92", after := #[{ on := 2, ground := Ground.data }, { on := 1, ground := Ground.chain }], guard := none }) rfl (fun K hK => ?_) AllReadyH.nil
  go_simp
  (go_at_call 11; go_loud ((with_reducible refine (HI2.out _ (hT.below (show Below w.heap.size w _ from (by (repeat' first | with_reducible assumption | with_reducible refine below_drewN ?_ _ | with_reducible refine Below.drew ?_ | with_reducible refine belAl2 ?_ _))))).mono ?_); rintro e w4 ⟨rfl, hc4⟩; have k4_p_0 : w4.cell? ⟨w.heap.size, 0, none⟩ = some (.bool s) := bcs hc4 (by first | with_reducible assumption | go_simp); have k4_p_1 : w4.cell? ⟨w.heap.size, 1, none⟩ = some (.slice a l.length c) := bcs hc4 (by first | with_reducible assumption | go_simp); have k4_p_2 : w4.cell? ⟨w.heap.size, 2, none⟩ = some (.bool t) := bcs hc4 (by first | with_reducible assumption | go_simp); have k4_p_3 : w4.cell? ⟨w.heap.size, 3, none⟩ = some (.slice b k.length d) := bcs hc4 (by first | with_reducible assumption | go_simp); have k4_q_0 : w4.cell? ⟨(w.heap.size + 1), 0, none⟩ = some (.bool s2) := bcs hc4 (by first | with_reducible assumption | go_simp); have k4_q_1 : w4.cell? ⟨(w.heap.size + 1), 1, none⟩ = some (.slice a2 l2.length c2) := bcs hc4 (by first | with_reducible assumption | go_simp); have k4_q_2 : w4.cell? ⟨(w.heap.size + 1), 2, none⟩ = some (.bool t2) := bcs hc4 (by first | with_reducible assumption | go_simp); have k4_q_3 : w4.cell? ⟨(w.heap.size + 1), 3, none⟩ = some (.slice b2 m2.length d2) := bcs hc4 (by first | with_reducible assumption | go_simp); have x4_p : ¬ w.heap.size = w4.heap.size := qne k4_p_0; have y4_p : ¬ w4.heap.size = w.heap.size := fun h => qne k4_p_0 h.symm; have q4_p : w.heap.size < w4.heap.size := qlt k4_p_0; have x4_q : ¬ (w.heap.size + 1) = w4.heap.size := qne k4_q_0; have y4_q : ¬ w4.heap.size = (w.heap.size + 1) := fun h => qne k4_q_0 h.symm; have q4_q : (w.heap.size + 1) < w4.heap.size := qlt k4_q_0; have hbw4 : Below w.heap.size w w4 := bel_step (show Below w.heap.size w _ from (by (repeat' first | with_reducible assumption | with_reducible refine below_drewN ?_ _ | with_reducible refine Below.drew ?_ | with_reducible refine belAl2 ?_ _))) hc4))
  refine hK.out _ _ ?_ (fun hHeld2 => ?_)
  · (try dsimp only); (first | with_reducible exact ⟨k8_p_0, k8_p_1, k8_p_2, k8_p_3, k8_q_0, k8_q_1, k8_q_2, k8_q_3⟩ | with_reducible exact ⟨k7_p_0, k7_p_1, k7_p_2, k7_p_3, k7_q_0, k7_q_1, k7_q_2, k7_q_3⟩ | with_reducible exact ⟨k6_p_0, k6_p_1, k6_p_2, k6_p_3, k6_q_0, k6_q_1, k6_q_2, k6_q_3⟩ | with_reducible exact ⟨k5_p_0, k5_p_1, k5_p_2, k5_p_3, k5_q_0, k5_q_1, k5_q_2, k5_q_3⟩ | with_reducible exact ⟨k4_p_0, k4_p_1, k4_p_2, k4_p_3, k4_q_0, k4_q_1, k4_q_2, k4_q_3⟩ | with_reducible exact ⟨k3_p_0, k3_p_1, k3_p_2, k3_p_3, k3_q_0, k3_q_1, k3_q_2, k3_q_3⟩ | with_reducible exact ⟨k2_p_0, k2_p_1, k2_p_2, k2_p_3, k2_q_0, k2_q_1, k2_q_2, k2_q_3⟩ | (refine ⟨?_, ?_, ?_, ?_, ?_, ?_, ?_, ?_⟩ <;> go_simp))
  clear hK K hHeld
  have hHeld := hHeld2; clear hHeld2
  try simp only [Act.put, List.setIfInBounds_toArray, List.set_cons_zero, List.set_cons_succ]
  refine wpAnyH_take (i := 4) (oi := { dst := some 22, op := Op.binOp BinOp.eql 9 (Operand.tmp 19) (Operand.tmp 21) 9, type := 4, pos := "law.go:92", after := #[{ on := 1, ground := Ground.data }, { on := 3, ground := Ground.data }], guard := none }) (v := ?_) rfl (by kernel_rfl) (by kernel_rfl) (by kernel_rfl) (fun _ _ _ h => h) (Or.inl ⟨by rfl, ?_⟩) hHeld ?_
  rotate_left
  · (intro w hSw; (try dsimp only at hSw); go_simp; try with_reducible rfl)
  try simp only [Act.put, List.setIfInBounds_toArray, List.set_cons_zero, List.set_cons_succ]
  refine wpAnyH_take (i := 8) (oi := { dst := some 26, op := Op.binOp BinOp.eql 4 (Operand.tmp 22) (Operand.tmp 25) 4, type := 4, pos := "law.go:92", after := #[{ on := 4, ground := Ground.data }, { on := 7, ground := Ground.data }], guard := none }) (v := ?_) rfl (by kernel_rfl) (by kernel_rfl) (by kernel_rfl) (fun _ _ _ h => h) (Or.inl ⟨by rfl, ?_⟩) hHeld ?_
  rotate_left
  · (intro w hSw; (try dsimp only at hSw); go_simp; try with_reducible rfl)
  try simp only [Act.put, List.setIfInBounds_toArray, List.set_cons_zero, List.set_cons_succ]
  refine wpAnyH_take (i := 9) (oi := { dst := some 27, op := Op.move (Operand.tmp 26), type := 4, pos := "law.go:92", after := #[{ on := 8, ground := Ground.data }, { on := 3, ground := Ground.chain }], guard := none }) (v := ?_) rfl (by kernel_rfl) (by kernel_rfl) (by kernel_rfl) (fun _ _ _ h => h) (Or.inl ⟨by rfl, ?_⟩) hHeld ?_
  rotate_left
  · (intro w hSw; (try dsimp only at hSw); go_simp; try with_reducible rfl)
  try simp only [Act.put, List.setIfInBounds_toArray, List.set_cons_zero, List.set_cons_succ]
  refine wpAnyH_take (i := 10) (oi := { dst := some 28, op := Op.load 33 (Operand.tmp 6), type := 33, pos := "law.go:92", after := #[{ on := 9, ground := Ground.guard }], guard := some (9, true) }) (v := ?_) rfl (by kernel_rfl) (by kernel_rfl) (by kernel_rfl) (fun _ _ _ h => h) (Or.inl ⟨by rfl, ?_⟩) hHeld ?_
  rotate_left
  · (intro w hSw; (try dsimp only at hSw); go_simp; try with_reducible rfl)
  try simp only [Act.put, List.setIfInBounds_toArray, List.set_cons_zero, List.set_cons_succ]
  refine wpAnyH_take (i := 12) (oi := { dst := some 30, op := Op.load 33 (Operand.tmp 7), type := 33, pos := "law.go:92", after := #[{ on := 9, ground := Ground.guard }], guard := some (9, true) }) (v := ?_) rfl (by kernel_rfl) (by kernel_rfl) (by kernel_rfl) (fun _ _ _ h => h) (Or.inl ⟨by rfl, ?_⟩) hHeld ?_
  rotate_left
  · (intro w hSw; (try dsimp only at hSw); go_simp; try with_reducible rfl)
  try simp only [Act.put, List.setIfInBounds_toArray, List.set_cons_zero, List.set_cons_succ]
  refine wpAnyH_take (i := 15) (oi := { dst := some 33, op := Op.load 33 (Operand.tmp 6), type := 33, pos := "law.go:92", after := #[{ on := 9, ground := Ground.guard }], guard := some (9, true) }) (v := ?_) rfl (by kernel_rfl) (by kernel_rfl) (by kernel_rfl) (fun _ _ _ h => h) (Or.inl ⟨by rfl, ?_⟩) hHeld ?_
  rotate_left
  · (intro w hSw; (try dsimp only at hSw); go_simp; try with_reducible rfl)
  try simp only [Act.put, List.setIfInBounds_toArray, List.set_cons_zero, List.set_cons_succ]
  refine wpAnyH_take (i := 16) (oi := { dst := some 34, op := Op.load 33 (Operand.tmp 7), type := 33, pos := "law.go:92", after := #[{ on := 9, ground := Ground.guard }], guard := some (9, true) }) (v := ?_) rfl (by kernel_rfl) (by kernel_rfl) (by kernel_rfl) (fun _ _ _ h => h) (Or.inl ⟨by rfl, ?_⟩) hHeld ?_
  rotate_left
  · (intro w hSw; (try dsimp only at hSw); go_simp; try with_reducible rfl)
  try simp only [Act.put, List.setIfInBounds_toArray, List.set_cons_zero, List.set_cons_succ]
  refine wpAnyH_ready (rs := [11]) (by kernel_rfl) (by simp) ?_
  refine AllReadyH.cons (o := { dst := some 29, op := Op.call { callee := Callee.value (Operand.func 16), args := #[Operand.tmp 28], argTypes := #[33] }, type := 9, pos := "law.go:92", after := #[{ on := 10, ground := Ground.data }, { on := 9, ground := Ground.chain }, { on := 9, ground := Ground.guard }], guard := some (9, true) }) rfl (fun K hK => ?_) AllReadyH.nil
  go_simp
  (go_at_call 16; go_loud ((with_reducible refine (HR1.out _ (hr.below (show Below w.heap.size w _ from (by (repeat' first | with_reducible assumption | with_reducible refine below_drewN ?_ _ | with_reducible refine Below.drew ?_ | with_reducible refine belAl2 ?_ _)))) (hs.below (show Below w.heap.size w _ from (by (repeat' first | with_reducible assumption | with_reducible refine below_drewN ?_ _ | with_reducible refine Below.drew ?_ | with_reducible refine belAl2 ?_ _)))) (hT.below (show Below w.heap.size w _ from (by (repeat' first | with_reducible assumption | with_reducible refine below_drewN ?_ _ | with_reducible refine Below.drew ?_ | with_reducible refine belAl2 ?_ _))))).mono ?_); rintro e w5 ⟨rfl, hc5⟩; have k5_p_0 : w5.cell? ⟨w.heap.size, 0, none⟩ = some (.bool s) := bcs hc5 (by first | with_reducible assumption | go_simp); have k5_p_1 : w5.cell? ⟨w.heap.size, 1, none⟩ = some (.slice a l.length c) := bcs hc5 (by first | with_reducible assumption | go_simp); have k5_p_2 : w5.cell? ⟨w.heap.size, 2, none⟩ = some (.bool t) := bcs hc5 (by first | with_reducible assumption | go_simp); have k5_p_3 : w5.cell? ⟨w.heap.size, 3, none⟩ = some (.slice b k.length d) := bcs hc5 (by first | with_reducible assumption | go_simp); have k5_q_0 : w5.cell? ⟨(w.heap.size + 1), 0, none⟩ = some (.bool s2) := bcs hc5 (by first | with_reducible assumption | go_simp); have k5_q_1 : w5.cell? ⟨(w.heap.size + 1), 1, none⟩ = some (.slice a2 l2.length c2) := bcs hc5 (by first | with_reducible assumption | go_simp); have k5_q_2 : w5.cell? ⟨(w.heap.size + 1), 2, none⟩ = some (.bool t2) := bcs hc5 (by first | with_reducible assumption | go_simp); have k5_q_3 : w5.cell? ⟨(w.heap.size + 1), 3, none⟩ = some (.slice b2 m2.length d2) := bcs hc5 (by first | with_reducible assumption | go_simp); have x5_p : ¬ w.heap.size = w5.heap.size := qne k5_p_0; have y5_p : ¬ w5.heap.size = w.heap.size := fun h => qne k5_p_0 h.symm; have q5_p : w.heap.size < w5.heap.size := qlt k5_p_0; have x5_q : ¬ (w.heap.size + 1) = w5.heap.size := qne k5_q_0; have y5_q : ¬ w5.heap.size = (w.heap.size + 1) := fun h => qne k5_q_0 h.symm; have q5_q : (w.heap.size + 1) < w5.heap.size := qlt k5_q_0; have hbw5 : Below w.heap.size w w5 := bel_step (show Below w.heap.size w _ from (by (repeat' first | with_reducible assumption | with_reducible refine below_drewN ?_ _ | with_reducible refine Below.drew ?_ | with_reducible refine belAl2 ?_ _))) hc5))
  refine hK.out _ _ ?_ (fun hHeld2 => ?_)
  · (try dsimp only); (first | with_reducible exact ⟨k8_p_0, k8_p_1, k8_p_2, k8_p_3, k8_q_0, k8_q_1, k8_q_2, k8_q_3⟩ | with_reducible exact ⟨k7_p_0, k7_p_1, k7_p_2, k7_p_3, k7_q_0, k7_q_1, k7_q_2, k7_q_3⟩ | with_reducible exact ⟨k6_p_0, k6_p_1, k6_p_2, k6_p_3, k6_q_0, k6_q_1, k6_q_2, k6_q_3⟩ | with_reducible exact ⟨k5_p_0, k5_p_1, k5_p_2, k5_p_3, k5_q_0, k5_q_1, k5_q_2, k5_q_3⟩ | with_reducible exact ⟨k4_p_0, k4_p_1, k4_p_2, k4_p_3, k4_q_0, k4_q_1, k4_q_2, k4_q_3⟩ | with_reducible exact ⟨k3_p_0, k3_p_1, k3_p_2, k3_p_3, k3_q_0, k3_q_1, k3_q_2, k3_q_3⟩ | with_reducible exact ⟨k2_p_0, k2_p_1, k2_p_2, k2_p_3, k2_q_0, k2_q_1, k2_q_2, k2_q_3⟩ | (refine ⟨?_, ?_, ?_, ?_, ?_, ?_, ?_, ?_⟩ <;> go_simp))
  clear hK K hHeld
  have hHeld := hHeld2; clear hHeld2
  try simp only [Act.put, List.setIfInBounds_toArray, List.set_cons_zero, List.set_cons_succ]
  refine wpAnyH_ready (rs := [13]) (by kernel_rfl) (by simp) ?_
  refine AllReadyH.cons (o := { dst := some 31, op := Op.call { callee := Callee.value (Operand.func 16), args := #[Operand.tmp 30], argTypes := #[33] }, type := 9, pos := "law.go:92", after := #[{ on := 12, ground := Ground.data }, { on := 11, ground := Ground.chain }, { on := 9, ground := Ground.guard }], guard := some (9, true) }) rfl (fun K hK => ?_) AllReadyH.nil
  go_simp
  (go_at_call 16; go_loud ((with_reducible refine (HR2.out _ (hr2.below (show Below w.heap.size w _ from (by (repeat' first | with_reducible assumption | with_reducible refine below_drewN ?_ _ | with_reducible refine Below.drew ?_ | with_reducible refine belAl2 ?_ _)))) (hs2.below (show Below w.heap.size w _ from (by (repeat' first | with_reducible assumption | with_reducible refine below_drewN ?_ _ | with_reducible refine Below.drew ?_ | with_reducible refine belAl2 ?_ _)))) (hT.below (show Below w.heap.size w _ from (by (repeat' first | with_reducible assumption | with_reducible refine below_drewN ?_ _ | with_reducible refine Below.drew ?_ | with_reducible refine belAl2 ?_ _))))).mono ?_); rintro e w6 ⟨rfl, hc6⟩; have k6_p_0 : w6.cell? ⟨w.heap.size, 0, none⟩ = some (.bool s) := bcs hc6 (by first | with_reducible assumption | go_simp); have k6_p_1 : w6.cell? ⟨w.heap.size, 1, none⟩ = some (.slice a l.length c) := bcs hc6 (by first | with_reducible assumption | go_simp); have k6_p_2 : w6.cell? ⟨w.heap.size, 2, none⟩ = some (.bool t) := bcs hc6 (by first | with_reducible assumption | go_simp); have k6_p_3 : w6.cell? ⟨w.heap.size, 3, none⟩ = some (.slice b k.length d) := bcs hc6 (by first | with_reducible assumption | go_simp); have k6_q_0 : w6.cell? ⟨(w.heap.size + 1), 0, none⟩ = some (.bool s2) := bcs hc6 (by first | with_reducible assumption | go_simp); have k6_q_1 : w6.cell? ⟨(w.heap.size + 1), 1, none⟩ = some (.slice a2 l2.length c2) := bcs hc6 (by first | with_reducible assumption | go_simp); have k6_q_2 : w6.cell? ⟨(w.heap.size + 1), 2, none⟩ = some (.bool t2) := bcs hc6 (by first | with_reducible assumption | go_simp); have k6_q_3 : w6.cell? ⟨(w.heap.size + 1), 3, none⟩ = some (.slice b2 m2.length d2) := bcs hc6 (by first | with_reducible assumption | go_simp); have x6_p : ¬ w.heap.size = w6.heap.size := qne k6_p_0; have y6_p : ¬ w6.heap.size = w.heap.size := fun h => qne k6_p_0 h.symm; have q6_p : w.heap.size < w6.heap.size := qlt k6_p_0; have x6_q : ¬ (w.heap.size + 1) = w6.heap.size := qne k6_q_0; have y6_q : ¬ w6.heap.size = (w.heap.size + 1) := fun h => qne k6_q_0 h.symm; have q6_q : (w.heap.size + 1) < w6.heap.size := qlt k6_q_0; have hbw6 : Below w.heap.size w w6 := bel_step (show Below w.heap.size w _ from (by (repeat' first | with_reducible assumption | with_reducible refine below_drewN ?_ _ | with_reducible refine Below.drew ?_ | with_reducible refine belAl2 ?_ _))) hc6))
  refine hK.out _ _ ?_ (fun hHeld2 => ?_)
  · (try dsimp only); (first | with_reducible exact ⟨k8_p_0, k8_p_1, k8_p_2, k8_p_3, k8_q_0, k8_q_1, k8_q_2, k8_q_3⟩ | with_reducible exact ⟨k7_p_0, k7_p_1, k7_p_2, k7_p_3, k7_q_0, k7_q_1, k7_q_2, k7_q_3⟩ | with_reducible exact ⟨k6_p_0, k6_p_1, k6_p_2, k6_p_3, k6_q_0, k6_q_1, k6_q_2, k6_q_3⟩ | with_reducible exact ⟨k5_p_0, k5_p_1, k5_p_2, k5_p_3, k5_q_0, k5_q_1, k5_q_2, k5_q_3⟩ | with_reducible exact ⟨k4_p_0, k4_p_1, k4_p_2, k4_p_3, k4_q_0, k4_q_1, k4_q_2, k4_q_3⟩ | with_reducible exact ⟨k3_p_0, k3_p_1, k3_p_2, k3_p_3, k3_q_0, k3_q_1, k3_q_2, k3_q_3⟩ | with_reducible exact ⟨k2_p_0, k2_p_1, k2_p_2, k2_p_3, k2_q_0, k2_q_1, k2_q_2, k2_q_3⟩ | (refine ⟨?_, ?_, ?_, ?_, ?_, ?_, ?_, ?_⟩ <;> go_simp))
  clear hK K hHeld
  have hHeld := hHeld2; clear hHeld2
  try simp only [Act.put, List.setIfInBounds_toArray, List.set_cons_zero, List.set_cons_succ]
  refine wpAnyH_take (i := 14) (oi := { dst := some 32, op := Op.binOp BinOp.eql 9 (Operand.tmp 29) (Operand.tmp 31) 9, type := 4, pos := "law.go:92", after := #[{ on := 11, ground := Ground.data }, { on := 13, ground := Ground.data }, { on := 9, ground := Ground.guard }], guard := some (9, true) }) (v := ?_) rfl (by kernel_rfl) (by kernel_rfl) (by kernel_rfl) (fun _ _ _ h => h) (Or.inl ⟨by rfl, ?_⟩) hHeld ?_
  rotate_left
  · (intro w hSw; (try dsimp only at hSw); go_simp; try with_reducible rfl)
  try simp only [Act.put, List.setIfInBounds_toArray, List.set_cons_zero, List.set_cons_succ]
  refine wpAnyH_ready (rs := [17]) (by kernel_rfl) (by simp) ?_
  refine AllReadyH.cons (o := { dst := some 35, op := Op.call { callee := Callee.value (Operand.func 19), args := #[Operand.tmp 33, Operand.tmp 34], argTypes := #[33, 33] }, type := 3, pos := "law.go:92", after := #[{ on := 15, ground := Ground.data }, { on := 16, ground := Ground.data }, { on := 13, ground := Ground.chain }, { on := 9, ground := Ground.guard }], guard := some (9, true) }) rfl (fun K hK => ?_) AllReadyH.nil
  go_simp
  (go_at_call 19; go_loud ((with_reducible refine (HC.out _ (hr.below (show Below w.heap.size w _ from (by (repeat' first | with_reducible assumption | with_reducible refine below_drewN ?_ _ | with_reducible refine Below.drew ?_ | with_reducible refine belAl2 ?_ _)))) (hs.below (show Below w.heap.size w _ from (by (repeat' first | with_reducible assumption | with_reducible refine below_drewN ?_ _ | with_reducible refine Below.drew ?_ | with_reducible refine belAl2 ?_ _)))) (hr2.below (show Below w.heap.size w _ from (by (repeat' first | with_reducible assumption | with_reducible refine below_drewN ?_ _ | with_reducible refine Below.drew ?_ | with_reducible refine belAl2 ?_ _)))) (hs2.below (show Below w.heap.size w _ from (by (repeat' first | with_reducible assumption | with_reducible refine below_drewN ?_ _ | with_reducible refine Below.drew ?_ | with_reducible refine belAl2 ?_ _))))).mono ?_); rintro e w7 ⟨rfl, hc7⟩; have k7_p_0 : w7.cell? ⟨w.heap.size, 0, none⟩ = some (.bool s) := bcs hc7 (by first | with_reducible assumption | go_simp); have k7_p_1 : w7.cell? ⟨w.heap.size, 1, none⟩ = some (.slice a l.length c) := bcs hc7 (by first | with_reducible assumption | go_simp); have k7_p_2 : w7.cell? ⟨w.heap.size, 2, none⟩ = some (.bool t) := bcs hc7 (by first | with_reducible assumption | go_simp); have k7_p_3 : w7.cell? ⟨w.heap.size, 3, none⟩ = some (.slice b k.length d) := bcs hc7 (by first | with_reducible assumption | go_simp); have k7_q_0 : w7.cell? ⟨(w.heap.size + 1), 0, none⟩ = some (.bool s2) := bcs hc7 (by first | with_reducible assumption | go_simp); have k7_q_1 : w7.cell? ⟨(w.heap.size + 1), 1, none⟩ = some (.slice a2 l2.length c2) := bcs hc7 (by first | with_reducible assumption | go_simp); have k7_q_2 : w7.cell? ⟨(w.heap.size + 1), 2, none⟩ = some (.bool t2) := bcs hc7 (by first | with_reducible assumption | go_simp); have k7_q_3 : w7.cell? ⟨(w.heap.size + 1), 3, none⟩ = some (.slice b2 m2.length d2) := bcs hc7 (by first | with_reducible assumption | go_simp); have x7_p : ¬ w.heap.size = w7.heap.size := qne k7_p_0; have y7_p : ¬ w7.heap.size = w.heap.size := fun h => qne k7_p_0 h.symm; have q7_p : w.heap.size < w7.heap.size := qlt k7_p_0; have x7_q : ¬ (w.heap.size + 1) = w7.heap.size := qne k7_q_0; have y7_q : ¬ w7.heap.size = (w.heap.size + 1) := fun h => qne k7_q_0 h.symm; have q7_q : (w.heap.size + 1) < w7.heap.size := qlt k7_q_0; have hbw7 : Below w.heap.size w w7 := bel_step (show Below w.heap.size w _ from (by (repeat' first | with_reducible assumption | with_reducible refine below_drewN ?_ _ | with_reducible refine Below.drew ?_ | with_reducible refine belAl2 ?_ _))) hc7))
  refine hK.out _ _ ?_ (fun hHeld2 => ?_)
  · (try dsimp only); (first | with_reducible exact ⟨k8_p_0, k8_p_1, k8_p_2, k8_p_3, k8_q_0, k8_q_1, k8_q_2, k8_q_3⟩ | with_reducible exact ⟨k7_p_0, k7_p_1, k7_p_2, k7_p_3, k7_q_0, k7_q_1, k7_q_2, k7_q_3⟩ | with_reducible exact ⟨k6_p_0, k6_p_1, k6_p_2, k6_p_3, k6_q_0, k6_q_1, k6_q_2, k6_q_3⟩ | with_reducible exact ⟨k5_p_0, k5_p_1, k5_p_2, k5_p_3, k5_q_0, k5_q_1, k5_q_2, k5_q_3⟩ | with_reducible exact ⟨k4_p_0, k4_p_1, k4_p_2, k4_p_3, k4_q_0, k4_q_1, k4_q_2, k4_q_3⟩ | with_reducible exact ⟨k3_p_0, k3_p_1, k3_p_2, k3_p_3, k3_q_0, k3_q_1, k3_q_2, k3_q_3⟩ | with_reducible exact ⟨k2_p_0, k2_p_1, k2_p_2, k2_p_3, k2_q_0, k2_q_1, k2_q_2, k2_q_3⟩ | (refine ⟨?_, ?_, ?_, ?_, ?_, ?_, ?_, ?_⟩ <;> go_simp))
  clear hK K hHeld
  have hHeld := hHeld2; clear hHeld2
  try simp only [Act.put, List.setIfInBounds_toArray, List.set_cons_zero, List.set_cons_succ]
  refine wpAnyH_take (i := 18) (oi := { dst := some 36, op := Op.binOp BinOp.eql 3 (Operand.tmp 35) (Operand.const (Value.int IntKind.i64 0)) 3, type := 4, pos := "law.go:92", after := #[{ on := 17, ground := Ground.data }, { on := 9, ground := Ground.guard }], guard := some (9, true) }) (v := ?_) rfl (by kernel_rfl) (by kernel_rfl) (by kernel_rfl) (fun _ _ _ h => h) (Or.inl ⟨by rfl, ?_⟩) hHeld ?_
  rotate_left
  · (intro w hSw; (try dsimp only at hSw); go_simp; try with_reducible rfl)
  try simp only [Act.put, List.setIfInBounds_toArray, List.set_cons_zero, List.set_cons_succ]
  refine wpAnyH_take (i := 19) (oi := { dst := some 37, op := Op.binOp BinOp.eql 4 (Operand.tmp 32) (Operand.tmp 36) 4, type := 4, pos := "law.go:92", after := #[{ on := 14, ground := Ground.data }, { on := 18, ground := Ground.data }, { on := 9, ground := Ground.guard }], guard := some (9, true) }) (v := ?_) rfl (by kernel_rfl) (by kernel_rfl) (by kernel_rfl) (fun _ _ _ h => h) (Or.inl ⟨by rfl, ?_⟩) hHeld ?_
  rotate_left
  · (intro w hSw; (try dsimp only at hSw); go_simp; try with_reducible rfl)
  try simp only [Act.put, List.setIfInBounds_toArray, List.set_cons_zero, List.set_cons_succ]
  refine wpAnyH_take (i := 20) (oi := { dst := some 38, op := Op.pick (Operand.tmp 27) (Operand.tmp 37) (Operand.const (Value.bool false)), type := 4, pos := "law.go:92", after := #[{ on := 9, ground := Ground.data }, { on := 19, ground := Ground.data }], guard := none }) (v := ?_) rfl (by kernel_rfl) (by kernel_rfl) (by kernel_rfl) (fun _ _ _ h => h) (Or.inl ⟨by rfl, ?_⟩) hHeld ?_
  rotate_left
  · (intro w hSw; (try dsimp only at hSw); go_simp; try with_reducible rfl)
  try simp only [Act.put, List.setIfInBounds_toArray, List.set_cons_zero, List.set_cons_succ]
  refine wpAnyH_take (i := 21) (oi := { dst := some 39, op := Op.move (Operand.tmp 38), type := 4, pos := "law.go:92", after := #[{ on := 20, ground := Ground.data }, { on := 17, ground := Ground.chain }], guard := none }) (v := ?_) rfl (by kernel_rfl) (by kernel_rfl) (by kernel_rfl) (fun _ _ _ h => h) (Or.inl ⟨by rfl, ?_⟩) hHeld ?_
  rotate_left
  · (intro w hSw; (try dsimp only at hSw); go_simp; try with_reducible rfl)
  try simp only [Act.put, List.setIfInBounds_toArray, List.set_cons_zero, List.set_cons_succ]
  refine wpAnyH_ready (rs := [22]) (by kernel_rfl) (by simp) ?_
  refine AllReadyH.cons (o := { dst := some 40, op := Op.call { callee := Callee.value (Operand.func 6), args := #[], argTypes := #[] }, type := 4, pos := "law.go:92", after := #[{ on := 21, ground := Ground.chain }, { on := 21, ground := Ground.guard }], guard := some (21, true) }) rfl (fun K hK => ?_) AllReadyH.nil
  go_simp
  (go_at_call 6; go_loud ((with_reducible refine (ex_any _ (hT.below (show Below w.heap.size w _ from (by (repeat' first | with_reducible assumption | with_reducible refine below_drewN ?_ _ | with_reducible refine Below.drew ?_ | with_reducible refine belAl2 ?_ _)))) (hM.below (show Below w.heap.size w _ from (by (repeat' first | with_reducible assumption | with_reducible refine below_drewN ?_ _ | with_reducible refine Below.drew ?_ | with_reducible refine belAl2 ?_ _))))).mono ?_); rintro e w8 ⟨rfl, hc8⟩; have k8_p_0 : w8.cell? ⟨w.heap.size, 0, none⟩ = some (.bool s) := bcs hc8 (by first | with_reducible assumption | go_simp); have k8_p_1 : w8.cell? ⟨w.heap.size, 1, none⟩ = some (.slice a l.length c) := bcs hc8 (by first | with_reducible assumption | go_simp); have k8_p_2 : w8.cell? ⟨w.heap.size, 2, none⟩ = some (.bool t) := bcs hc8 (by first | with_reducible assumption | go_simp); have k8_p_3 : w8.cell? ⟨w.heap.size, 3, none⟩ = some (.slice b k.length d) := bcs hc8 (by first | with_reducible assumption | go_simp); have k8_q_0 : w8.cell? ⟨(w.heap.size + 1), 0, none⟩ = some (.bool s2) := bcs hc8 (by first | with_reducible assumption | go_simp); have k8_q_1 : w8.cell? ⟨(w.heap.size + 1), 1, none⟩ = some (.slice a2 l2.length c2) := bcs hc8 (by first | with_reducible assumption | go_simp); have k8_q_2 : w8.cell? ⟨(w.heap.size + 1), 2, none⟩ = some (.bool t2) := bcs hc8 (by first | with_reducible assumption | go_simp); have k8_q_3 : w8.cell? ⟨(w.heap.size + 1), 3, none⟩ = some (.slice b2 m2.length d2) := bcs hc8 (by first | with_reducible assumption | go_simp); have x8_p : ¬ w.heap.size = w8.heap.size := qne k8_p_0; have y8_p : ¬ w8.heap.size = w.heap.size := fun h => qne k8_p_0 h.symm; have q8_p : w.heap.size < w8.heap.size := qlt k8_p_0; have x8_q : ¬ (w.heap.size + 1) = w8.heap.size := qne k8_q_0; have y8_q : ¬ w8.heap.size = (w.heap.size + 1) := fun h => qne k8_q_0 h.symm; have q8_q : (w.heap.size + 1) < w8.heap.size := qlt k8_q_0; have hbw8 : Below w.heap.size w w8 := bel_step (show Below w.heap.size w _ from (by (repeat' first | with_reducible assumption | with_reducible refine below_drewN ?_ _ | with_reducible refine Below.drew ?_ | with_reducible refine belAl2 ?_ _))) hc8))
  refine hK.out _ _ ?_ (fun hHeld2 => ?_)
  · (try dsimp only); (first | with_reducible exact ⟨k8_p_0, k8_p_1, k8_p_2, k8_p_3, k8_q_0, k8_q_1, k8_q_2, k8_q_3⟩ | with_reducible exact ⟨k7_p_0, k7_p_1, k7_p_2, k7_p_3, k7_q_0, k7_q_1, k7_q_2, k7_q_3⟩ | with_reducible exact ⟨k6_p_0, k6_p_1, k6_p_2, k6_p_3, k6_q_0, k6_q_1, k6_q_2, k6_q_3⟩ | with_reducible exact ⟨k5_p_0, k5_p_1, k5_p_2, k5_p_3, k5_q_0, k5_q_1, k5_q_2, k5_q_3⟩ | with_reducible exact ⟨k4_p_0, k4_p_1, k4_p_2, k4_p_3, k4_q_0, k4_q_1, k4_q_2, k4_q_3⟩ | with_reducible exact ⟨k3_p_0, k3_p_1, k3_p_2, k3_p_3, k3_q_0, k3_q_1, k3_q_2, k3_q_3⟩ | with_reducible exact ⟨k2_p_0, k2_p_1, k2_p_2, k2_p_3, k2_q_0, k2_q_1, k2_q_2, k2_q_3⟩ | (refine ⟨?_, ?_, ?_, ?_, ?_, ?_, ?_, ?_⟩ <;> go_simp))
  clear hK K hHeld
  have hHeld := hHeld2; clear hHeld2
  try simp only [Act.put, List.setIfInBounds_toArray, List.set_cons_zero, List.set_cons_succ]
  refine wpAnyH_take (i := 23) (oi := { dst := some 41, op := Op.pick (Operand.tmp 39) (Operand.tmp 40) (Operand.const (Value.bool false)), type := 4, pos := "law.go:92", after := #[{ on := 21, ground := Ground.data }, { on := 22, ground := Ground.data }], guard := none }) (v := ?_) rfl (by kernel_rfl) (by kernel_rfl) (by kernel_rfl) (fun _ _ _ h => h) (Or.inl ⟨by rfl, ?_⟩) hHeld ?_
  rotate_left
  · (intro w hSw; (try dsimp only at hSw); go_simp; try with_reducible rfl)
  try simp only [Act.put, List.setIfInBounds_toArray, List.set_cons_zero, List.set_cons_succ]
  refine wpAnyH_take (i := 24) (oi := { dst := some 8, op := Op.assign (Operand.tmp 41), type := 4, pos := "law.go:92", after := #[{ on := 23, ground := Ground.data }, { on := 22, ground := Ground.chain }, { on := 0, ground := Ground.phase }, { on := 1, ground := Ground.phase }, { on := 2, ground := Ground.phase }, { on := 3, ground := Ground.phase }, { on := 4, ground := Ground.phase }, { on := 5, ground := Ground.phase }, { on := 6, ground := Ground.phase }, { on := 7, ground := Ground.phase }, { on := 8, ground := Ground.phase }, { on := 9, ground := Ground.phase }, { on := 10, ground := Ground.phase }, { on := 11, ground := Ground.phase }, { on := 12, ground := Ground.phase }, { on := 13, ground := Ground.phase }, { on := 14, ground := Ground.phase }, { on := 15, ground := Ground.phase }, { on := 16, ground := Ground.phase }, { on := 17, ground := Ground.phase }, { on := 18, ground := Ground.phase }, { on := 19, ground := Ground.phase }, { on := 20, ground := Ground.phase }, { on := 21, ground := Ground.phase }, { on := 22, ground := Ground.phase }, { on := 23, ground := Ground.phase }], guard := none }) (v := ?_) rfl (by kernel_rfl) (by kernel_rfl) (by kernel_rfl) (fun _ _ _ h => h) (Or.inl ⟨by rfl, ?_⟩) hHeld ?_
  rotate_left
  · (intro w hSw; (try dsimp only at hSw); go_simp; try with_reducible rfl)
  try simp only [Act.put, List.setIfInBounds_toArray, List.set_cons_zero, List.set_cons_succ]
  refine wpAnyH_done (by kernel_rfl) ?_ _
  go_wp2
  go_ret
  exact ⟨rfl, hbw8⟩
theorem ba_beq (L M : List UInt8) : ((⟨L.toArray⟩ : ByteArray).toList == (⟨M.toArray⟩ : ByteArray).toList) = (L == M) := by
  rw [ByteArray.toList_eq, ByteArray.toList_eq]
theorem beq_iff {a b : Bool} (h : a = true ↔ b = true) : a = b := by cases a <;> cases b <;> simp_all
theorem nij_w (nn mm : Int) (s t s2 t2 : Bool) (a b a2 b2 : Option Addr) (c d c2 d2 : Nat) (l k l2 m2 : List (BitVec 32)) (w : World) (hr : Rw w a l) (hs : Rw w b k) (hr2 : Rw w a2 l2) (hs2 : Rw w b2 m2) (g1 : l.length ≤ c) (g2 : k.length ≤ d) (g3 : l2.length ≤ c2) (g4 : m2.length ≤ d2)
    (l1 : l.length ≤ 9223372036854775807) (l2' : k.length ≤ 9223372036854775807) (l3 : l2.length ≤ 9223372036854775807) (l4 : m2.length ≤ 9223372036854775807)
    (n0 : -9223372036854775808 ≤ nn) (n1 : nn ≤ 9223372036854775807) (m0 : -9223372036854775808 ≤ mm) (m1 : mm ≤ 9223372036854775807) (hT : Tb w) (hM : Mx w) :
    Calls Tryz.prog 5 #[.int .i64 nn, .int .i64 mm, .agg #[.bool s, .slice a l.length c, .bool t, .slice b k.length d], .agg #[.bool s2, .slice a2 l2.length c2, .bool t2, .slice b2 m2.length d2]] w fun e w' => e = .returned (.bool true) ∧ Below w.heap.size w w' := by
  have hA := fun W => small_any s t a b l.length c k.length d W l1 l2'
  have hB := fun W => small_any s2 t2 a2 b2 l2.length c2 m2.length d2 W l3 l4
  by_cases h1 : l.length ≤ 40 ∧ k.length ≤ 40
  · simp only [show (decide (l.length ≤ 40) && decide (k.length ≤ 40)) = true by simp; omega] at hA
    by_cases h2 : l2.length ≤ 40 ∧ m2.length ≤ 40
    · simp only [show (decide (l2.length ≤ 40) && decide (m2.length ≤ 40)) = true by simp; omega] at hB
      have q1 := rnN_len s t l k
      have q2 := rnD_len s t l k
      have q3 := rnN_len s2 t2 l2 m2
      have q4 := rnD_len s2 t2 l2 m2
      refine nij_ok nn mm s t s2 t2 a b a2 b2 c d c2 d2 l k l2 m2 w hr hs hr2 hs2 hA hB _ _ _ _ _ (fun W h => fmti_any nn W n0 n1 h) (fun W h => fmti_any mm W m0 m1 h) (fun W q1 q2 h => fmtr_any s t a b _ c _ d l k W rfl rfl g1 g2 (by omega) (by omega) q1 q2 h) (fun W q1 q2 h => fmtr_any s2 t2 a2 b2 _ c2 _ d2 l2 m2 W rfl rfl g3 g4 (by omega) (by omega) q1 q2 h) (fun W q1 q2 q3 q4 => rtcmp_any s t s2 t2 a b a2 b2 c d c2 d2 l k l2 m2 W (by omega) (by omega) (by omega) (by omega) g1 g2 g3 g4 q1 q2 q3 q4) _ _ ?_ rfl ?_ rfl hT hM
      · rw [ba_beq]
        refine beq_iff ?_
        rw [beq_iff_eq, beq_iff_eq]
        exact ⟨zfmt_inj, fun h => by rw [h]⟩
      · rw [ba_beq]
        refine beq_iff ?_
        rw [beq_iff_eq, beq_iff_eq, cmp_zero]
        exact ⟨fmtR_inj (by omega) (by omega) (by omega) (by omega), fun h => by rw [h.1, h.2]⟩
    · simp only [show (decide (l2.length ≤ 40) && decide (m2.length ≤ 40)) = false by simp; omega] at hB
      exact nij_no2 nn mm s t s2 t2 a b a2 b2 c d c2 d2 l k l2 m2 w hA hB hT hM
  · simp only [show (decide (l.length ≤ 40) && decide (k.length ≤ 40)) = false by simp; omega] at hA
    exact nij_no1 nn mm s t s2 t2 a b a2 b2 c d c2 d2 l k l2 m2 w hA hT hM
end Go.Proofs.YtdkbmpncohhioaaGreatDoor
