
import Derived.Test.YtcofiekfhnfjpaaJA
import Derived.Test.YtcofiekfhnfjpaaUB
namespace Go.Proofs.Ytcofiekfhnfjpaa
open Go.RowKit
set_option linter.unusedVariables false
set_option linter.unusedSimpArgs false
attribute [local go_sem ↓] Go.wp_at_zero Go.wp_at_succ
/-- Normalized: both parts are, the denominator is positive, and they have no common divisor. -/
def rnB (s t : Bool) (l k : List (BitVec 32)) : Bool := isnV s l && (isnV t k && (decide (0 < zv t (valD k)) && (Nat.gcd (valD l) (valD k) == 1)))
theorem isBl_one {v b : Nat} (h : IsBl v b) : ((b : Int) == 1) = (v == 1) := by
  obtain ⟨h1, h2, h3⟩ := h
  rw [Bool.eq_iff_iff, beq_iff_eq, beq_iff_eq]
  constructor
  · intro hb
    have e : b = 1 := by omega
    rw [e] at h1 h2
    have hv : v ≠ 0 := fun e => by have := h2 e; omega
    have : v < 2 := h1
    omega
  · intro hv
    have h4 := h3 (by omega)
    by_cases h5 : 2 ≤ b
    · have h6 := Nat.pow_le_pow_right (show 0 < 2 by omega) (show 1 ≤ b - 1 by omega)
      have h7 : (2 : Nat) ^ 1 = 2 := rfl
      omega
    · omega
set_option maxRecDepth 50000 in
theorem risn_a (s t : Bool) (a b : Option Addr) (n c m d : Nat) (l k : List (BitVec 32)) (w : World) (hn : l.length = n) (hm : k.length = m) (hc : n ≤ c) (hd : m ≤ d) (hl : n ≤ 300000) (hl2 : m ≤ 300000) (hr : Rw w a l) (hs : Rw w b k) (h1 : isnV s l = false) :
    Calls Try.prog 16 #[.agg #[.bool s, .slice a n c, .bool t, .slice b m d]] w fun e w' => e = .returned (.bool (rnB s t l k)) ∧ Below w.heap.size w w' := by
  subst hn hm
  have hres : rnB s t l k = false := by unfold rnB; rw [h1]; rfl
  rw [hres]
  have hN1 : ∀ W, Rw W a l → Calls Try.prog 45 #[.agg #[.bool s, .slice a l.length c]] W fun e w' => e = .returned (.bool (isnV s l)) ∧ Below W.heap.size W w' := fun W h => zisn_any s a _ c l W rfl hc (by omega) h
  have hN2 : ∀ W, Rw W b k → Calls Try.prog 45 #[.agg #[.bool t, .slice b k.length d]] W fun e w' => e = .returned (.bool (isnV t k)) ∧ Below W.heap.size W w' := fun W h => zisn_any t b _ d k W rfl hd (by omega) h
  have hSG : ∀ W, Rw W b k → Calls Try.prog 41 #[.agg #[.bool t, .slice b k.length d]] W fun e w' => e = .returned (.int .i64 (zv t (valD k)).sign) ∧ Below W.heap.size W w' := fun W hW => by
    exact zsign_any t b _ d k W rfl hd (by omega) hW
  rw [h1] at hN1
  have HN1 := Lib.hid hN1
  have HN2 := Lib.hid hN2
  have HSG := Lib.hid hSG
  clear hN1 hN2 hSG h1 hres
  have hb1 := Below.alloc (Below.refl w.heap.size w) (Nat.le_refl _) (.cells #[Value.bool s, Value.slice a l.length c, Value.bool t, Value.slice b k.length d] 26)
  have hz1 := hb1.size
  have hr1 := hr.below hb1
  go_enter Try.func16, Try.ntmps16
  go_wp2_with (first
    | (go_at_call 45; go_loud (first
        | ((with_reducible refine (HN2.out _ hs2).mono ?_); rintro e w3 ⟨rfl, hc3⟩; have k3_p_0 : w3.cell? ⟨w.heap.size, 0, none⟩ = some (.bool s) := bca hc3; have g3_p_0 : w3.frozen? ⟨w.heap.size, 0, none⟩ = false := bfa hc3 (v := .bool s); have k3_p_1 : w3.cell? ⟨w.heap.size, 1, none⟩ = some (.slice a l.length c) := bca hc3; have g3_p_1 : w3.frozen? ⟨w.heap.size, 1, none⟩ = false := bfa hc3 (v := .slice a l.length c); have k3_p_2 : w3.cell? ⟨w.heap.size, 2, none⟩ = some (.bool t) := bca hc3; have g3_p_2 : w3.frozen? ⟨w.heap.size, 2, none⟩ = false := bfa hc3 (v := .bool t); have k3_p_3 : w3.cell? ⟨w.heap.size, 3, none⟩ = some (.slice b k.length d) := bca hc3; have g3_p_3 : w3.frozen? ⟨w.heap.size, 3, none⟩ = false := bfa hc3 (v := .slice b k.length d); have x3_p : ¬ w.heap.size = w3.heap.size := qne k3_p_0; have y3_p : ¬ w3.heap.size = w.heap.size := fun h => qne k3_p_0 h.symm; have q3_p : w.heap.size < w3.heap.size := qlt k3_p_0; have hbw3 := hbw2.trans (hc3.mono hz2); have hz3 := hbw3.size; have hs3 := hs.below hbw3)
        | ((with_reducible refine (HN1.out _ hr1).mono ?_); rintro e w2 ⟨rfl, hc2⟩; have k2_p_0 : w2.cell? ⟨w.heap.size, 0, none⟩ = some (.bool s) := bca hc2; have g2_p_0 : w2.frozen? ⟨w.heap.size, 0, none⟩ = false := bfa hc2 (v := .bool s); have k2_p_1 : w2.cell? ⟨w.heap.size, 1, none⟩ = some (.slice a l.length c) := bca hc2; have g2_p_1 : w2.frozen? ⟨w.heap.size, 1, none⟩ = false := bfa hc2 (v := .slice a l.length c); have k2_p_2 : w2.cell? ⟨w.heap.size, 2, none⟩ = some (.bool t) := bca hc2; have g2_p_2 : w2.frozen? ⟨w.heap.size, 2, none⟩ = false := bfa hc2 (v := .bool t); have k2_p_3 : w2.cell? ⟨w.heap.size, 3, none⟩ = some (.slice b k.length d) := bca hc2; have g2_p_3 : w2.frozen? ⟨w.heap.size, 3, none⟩ = false := bfa hc2 (v := .slice b k.length d); have x2_p : ¬ w.heap.size = w2.heap.size := qne k2_p_0; have y2_p : ¬ w2.heap.size = w.heap.size := fun h => qne k2_p_0 h.symm; have q2_p : w.heap.size < w2.heap.size := qlt k2_p_0; have hbw2 := hb1.trans (hc2.mono hz1); have hz2 := hbw2.size; have hs2 := hs.below hbw2)))
    | (go_at_call 41; go_loud ((with_reducible refine (HSG.out _ hs3).mono ?_); rintro e w4 ⟨rfl, hc4⟩; have k4_p_0 : w4.cell? ⟨w.heap.size, 0, none⟩ = some (.bool s) := bca hc4; have g4_p_0 : w4.frozen? ⟨w.heap.size, 0, none⟩ = false := bfa hc4 (v := .bool s); have k4_p_1 : w4.cell? ⟨w.heap.size, 1, none⟩ = some (.slice a l.length c) := bca hc4; have g4_p_1 : w4.frozen? ⟨w.heap.size, 1, none⟩ = false := bfa hc4 (v := .slice a l.length c); have k4_p_2 : w4.cell? ⟨w.heap.size, 2, none⟩ = some (.bool t) := bca hc4; have g4_p_2 : w4.frozen? ⟨w.heap.size, 2, none⟩ = false := bfa hc4 (v := .bool t); have k4_p_3 : w4.cell? ⟨w.heap.size, 3, none⟩ = some (.slice b k.length d) := bca hc4; have g4_p_3 : w4.frozen? ⟨w.heap.size, 3, none⟩ = false := bfa hc4 (v := .slice b k.length d); have x4_p : ¬ w.heap.size = w4.heap.size := qne k4_p_0; have y4_p : ¬ w4.heap.size = w.heap.size := fun h => qne k4_p_0 h.symm; have q4_p : w.heap.size < w4.heap.size := qlt k4_p_0; have hbw4 := hbw3.trans (hc4.mono hz3); have hz4 := hbw4.size; have hr4 := hr.below hbw4; have hs4 := hs.below hbw4)))
  go_ret
  exact ⟨rfl, hbw2⟩
set_option maxRecDepth 50000 in
theorem risn_b (s t : Bool) (a b : Option Addr) (n c m d : Nat) (l k : List (BitVec 32)) (w : World) (hn : l.length = n) (hm : k.length = m) (hc : n ≤ c) (hd : m ≤ d) (hl : n ≤ 300000) (hl2 : m ≤ 300000) (hr : Rw w a l) (hs : Rw w b k) (h1 : isnV s l = true) (h2 : isnV t k = false) :
    Calls Try.prog 16 #[.agg #[.bool s, .slice a n c, .bool t, .slice b m d]] w fun e w' => e = .returned (.bool (rnB s t l k)) ∧ Below w.heap.size w w' := by
  subst hn hm
  have hres : rnB s t l k = false := by unfold rnB; rw [h1, h2]; rfl
  rw [hres]
  have hN1 : ∀ W, Rw W a l → Calls Try.prog 45 #[.agg #[.bool s, .slice a l.length c]] W fun e w' => e = .returned (.bool (isnV s l)) ∧ Below W.heap.size W w' := fun W h => zisn_any s a _ c l W rfl hc (by omega) h
  have hN2 : ∀ W, Rw W b k → Calls Try.prog 45 #[.agg #[.bool t, .slice b k.length d]] W fun e w' => e = .returned (.bool (isnV t k)) ∧ Below W.heap.size W w' := fun W h => zisn_any t b _ d k W rfl hd (by omega) h
  have hSG : ∀ W, Rw W b k → Calls Try.prog 41 #[.agg #[.bool t, .slice b k.length d]] W fun e w' => e = .returned (.int .i64 (zv t (valD k)).sign) ∧ Below W.heap.size W w' := fun W hW => by
    exact zsign_any t b _ d k W rfl hd (by omega) hW
  rw [h1] at hN1
  rw [h2] at hN2
  have HN1 := Lib.hid hN1
  have HN2 := Lib.hid hN2
  have HSG := Lib.hid hSG
  clear hN1 hN2 hSG h1 h2 hres
  have hb1 := Below.alloc (Below.refl w.heap.size w) (Nat.le_refl _) (.cells #[Value.bool s, Value.slice a l.length c, Value.bool t, Value.slice b k.length d] 26)
  have hz1 := hb1.size
  have hr1 := hr.below hb1
  go_enter Try.func16, Try.ntmps16
  go_wp2_with (first
    | (go_at_call 45; go_loud (first
        | ((with_reducible refine (HN2.out _ hs2).mono ?_); rintro e w3 ⟨rfl, hc3⟩; have k3_p_0 : w3.cell? ⟨w.heap.size, 0, none⟩ = some (.bool s) := bca hc3; have g3_p_0 : w3.frozen? ⟨w.heap.size, 0, none⟩ = false := bfa hc3 (v := .bool s); have k3_p_1 : w3.cell? ⟨w.heap.size, 1, none⟩ = some (.slice a l.length c) := bca hc3; have g3_p_1 : w3.frozen? ⟨w.heap.size, 1, none⟩ = false := bfa hc3 (v := .slice a l.length c); have k3_p_2 : w3.cell? ⟨w.heap.size, 2, none⟩ = some (.bool t) := bca hc3; have g3_p_2 : w3.frozen? ⟨w.heap.size, 2, none⟩ = false := bfa hc3 (v := .bool t); have k3_p_3 : w3.cell? ⟨w.heap.size, 3, none⟩ = some (.slice b k.length d) := bca hc3; have g3_p_3 : w3.frozen? ⟨w.heap.size, 3, none⟩ = false := bfa hc3 (v := .slice b k.length d); have x3_p : ¬ w.heap.size = w3.heap.size := qne k3_p_0; have y3_p : ¬ w3.heap.size = w.heap.size := fun h => qne k3_p_0 h.symm; have q3_p : w.heap.size < w3.heap.size := qlt k3_p_0; have hbw3 := hbw2.trans (hc3.mono hz2); have hz3 := hbw3.size; have hs3 := hs.below hbw3)
        | ((with_reducible refine (HN1.out _ hr1).mono ?_); rintro e w2 ⟨rfl, hc2⟩; have k2_p_0 : w2.cell? ⟨w.heap.size, 0, none⟩ = some (.bool s) := bca hc2; have g2_p_0 : w2.frozen? ⟨w.heap.size, 0, none⟩ = false := bfa hc2 (v := .bool s); have k2_p_1 : w2.cell? ⟨w.heap.size, 1, none⟩ = some (.slice a l.length c) := bca hc2; have g2_p_1 : w2.frozen? ⟨w.heap.size, 1, none⟩ = false := bfa hc2 (v := .slice a l.length c); have k2_p_2 : w2.cell? ⟨w.heap.size, 2, none⟩ = some (.bool t) := bca hc2; have g2_p_2 : w2.frozen? ⟨w.heap.size, 2, none⟩ = false := bfa hc2 (v := .bool t); have k2_p_3 : w2.cell? ⟨w.heap.size, 3, none⟩ = some (.slice b k.length d) := bca hc2; have g2_p_3 : w2.frozen? ⟨w.heap.size, 3, none⟩ = false := bfa hc2 (v := .slice b k.length d); have x2_p : ¬ w.heap.size = w2.heap.size := qne k2_p_0; have y2_p : ¬ w2.heap.size = w.heap.size := fun h => qne k2_p_0 h.symm; have q2_p : w.heap.size < w2.heap.size := qlt k2_p_0; have hbw2 := hb1.trans (hc2.mono hz1); have hz2 := hbw2.size; have hs2 := hs.below hbw2)))
    | (go_at_call 41; go_loud ((with_reducible refine (HSG.out _ hs3).mono ?_); rintro e w4 ⟨rfl, hc4⟩; have k4_p_0 : w4.cell? ⟨w.heap.size, 0, none⟩ = some (.bool s) := bca hc4; have g4_p_0 : w4.frozen? ⟨w.heap.size, 0, none⟩ = false := bfa hc4 (v := .bool s); have k4_p_1 : w4.cell? ⟨w.heap.size, 1, none⟩ = some (.slice a l.length c) := bca hc4; have g4_p_1 : w4.frozen? ⟨w.heap.size, 1, none⟩ = false := bfa hc4 (v := .slice a l.length c); have k4_p_2 : w4.cell? ⟨w.heap.size, 2, none⟩ = some (.bool t) := bca hc4; have g4_p_2 : w4.frozen? ⟨w.heap.size, 2, none⟩ = false := bfa hc4 (v := .bool t); have k4_p_3 : w4.cell? ⟨w.heap.size, 3, none⟩ = some (.slice b k.length d) := bca hc4; have g4_p_3 : w4.frozen? ⟨w.heap.size, 3, none⟩ = false := bfa hc4 (v := .slice b k.length d); have x4_p : ¬ w.heap.size = w4.heap.size := qne k4_p_0; have y4_p : ¬ w4.heap.size = w.heap.size := fun h => qne k4_p_0 h.symm; have q4_p : w.heap.size < w4.heap.size := qlt k4_p_0; have hbw4 := hbw3.trans (hc4.mono hz3); have hz4 := hbw4.size; have hr4 := hr.below hbw4; have hs4 := hs.below hbw4)))
  go_ret
  exact ⟨rfl, hbw3⟩
set_option maxRecDepth 50000 in
theorem risn_c (s t : Bool) (a b : Option Addr) (n c m d : Nat) (l k : List (BitVec 32)) (w : World) (hn : l.length = n) (hm : k.length = m) (hc : n ≤ c) (hd : m ≤ d) (hl : n ≤ 300000) (hl2 : m ≤ 300000) (hr : Rw w a l) (hs : Rw w b k) (h1 : isnV s l = true) (h2 : isnV t k = true) (h3 : zv t (valD k) ≤ 0) :
    Calls Try.prog 16 #[.agg #[.bool s, .slice a n c, .bool t, .slice b m d]] w fun e w' => e = .returned (.bool (rnB s t l k)) ∧ Below w.heap.size w w' := by
  subst hn hm
  have hres : rnB s t l k = false := by unfold rnB; rw [h1, h2, decide_eq_false (by omega)]; rfl
  rw [hres]
  have hN1 : ∀ W, Rw W a l → Calls Try.prog 45 #[.agg #[.bool s, .slice a l.length c]] W fun e w' => e = .returned (.bool (isnV s l)) ∧ Below W.heap.size W w' := fun W h => zisn_any s a _ c l W rfl hc (by omega) h
  have hN2 : ∀ W, Rw W b k → Calls Try.prog 45 #[.agg #[.bool t, .slice b k.length d]] W fun e w' => e = .returned (.bool (isnV t k)) ∧ Below W.heap.size W w' := fun W h => zisn_any t b _ d k W rfl hd (by omega) h
  have hSG : ∀ W, Rw W b k → Calls Try.prog 41 #[.agg #[.bool t, .slice b k.length d]] W fun e w' => e = .returned (.int .i64 (zv t (valD k)).sign) ∧ Below W.heap.size W w' := fun W hW => by
    exact zsign_any t b _ d k W rfl hd (by omega) hW
  rw [h1] at hN1
  rw [h2] at hN2
  have hsb := sign_bd (zv t (valD k))
  have hsp : (zv t (valD k)).sign ≤ 0 := by rcases Int.lt_or_eq_of_le h3 with h | h; (rw [Int.sign_eq_neg_one_of_neg h]; omega); (rw [h]; decide)
  obtain ⟨sy, hsy⟩ : ∃ sy, (zv t (valD k)).sign = sy := ⟨_, rfl⟩
  rw [hsy] at hSG hsp hsb
  have d1 : decide (0 < sy) = false := by simp; omega
  have d2 : decide (sy < 1) = true := by simp; omega
  clear hsy
  have HN1 := Lib.hid hN1
  have HN2 := Lib.hid hN2
  have HSG := Lib.hid hSG
  clear hN1 hN2 hSG h1 h2 h3 hres
  have hb1 := Below.alloc (Below.refl w.heap.size w) (Nat.le_refl _) (.cells #[Value.bool s, Value.slice a l.length c, Value.bool t, Value.slice b k.length d] 26)
  have hz1 := hb1.size
  have hr1 := hr.below hb1
  go_enter Try.func16, Try.ntmps16
  go_wp2_with (first
    | (go_at_call 45; go_loud (first
        | ((with_reducible refine (HN2.out _ hs2).mono ?_); rintro e w3 ⟨rfl, hc3⟩; have k3_p_0 : w3.cell? ⟨w.heap.size, 0, none⟩ = some (.bool s) := bca hc3; have g3_p_0 : w3.frozen? ⟨w.heap.size, 0, none⟩ = false := bfa hc3 (v := .bool s); have k3_p_1 : w3.cell? ⟨w.heap.size, 1, none⟩ = some (.slice a l.length c) := bca hc3; have g3_p_1 : w3.frozen? ⟨w.heap.size, 1, none⟩ = false := bfa hc3 (v := .slice a l.length c); have k3_p_2 : w3.cell? ⟨w.heap.size, 2, none⟩ = some (.bool t) := bca hc3; have g3_p_2 : w3.frozen? ⟨w.heap.size, 2, none⟩ = false := bfa hc3 (v := .bool t); have k3_p_3 : w3.cell? ⟨w.heap.size, 3, none⟩ = some (.slice b k.length d) := bca hc3; have g3_p_3 : w3.frozen? ⟨w.heap.size, 3, none⟩ = false := bfa hc3 (v := .slice b k.length d); have x3_p : ¬ w.heap.size = w3.heap.size := qne k3_p_0; have y3_p : ¬ w3.heap.size = w.heap.size := fun h => qne k3_p_0 h.symm; have q3_p : w.heap.size < w3.heap.size := qlt k3_p_0; have hbw3 := hbw2.trans (hc3.mono hz2); have hz3 := hbw3.size; have hs3 := hs.below hbw3)
        | ((with_reducible refine (HN1.out _ hr1).mono ?_); rintro e w2 ⟨rfl, hc2⟩; have k2_p_0 : w2.cell? ⟨w.heap.size, 0, none⟩ = some (.bool s) := bca hc2; have g2_p_0 : w2.frozen? ⟨w.heap.size, 0, none⟩ = false := bfa hc2 (v := .bool s); have k2_p_1 : w2.cell? ⟨w.heap.size, 1, none⟩ = some (.slice a l.length c) := bca hc2; have g2_p_1 : w2.frozen? ⟨w.heap.size, 1, none⟩ = false := bfa hc2 (v := .slice a l.length c); have k2_p_2 : w2.cell? ⟨w.heap.size, 2, none⟩ = some (.bool t) := bca hc2; have g2_p_2 : w2.frozen? ⟨w.heap.size, 2, none⟩ = false := bfa hc2 (v := .bool t); have k2_p_3 : w2.cell? ⟨w.heap.size, 3, none⟩ = some (.slice b k.length d) := bca hc2; have g2_p_3 : w2.frozen? ⟨w.heap.size, 3, none⟩ = false := bfa hc2 (v := .slice b k.length d); have x2_p : ¬ w.heap.size = w2.heap.size := qne k2_p_0; have y2_p : ¬ w2.heap.size = w.heap.size := fun h => qne k2_p_0 h.symm; have q2_p : w.heap.size < w2.heap.size := qlt k2_p_0; have hbw2 := hb1.trans (hc2.mono hz1); have hz2 := hbw2.size; have hs2 := hs.below hbw2)))
    | (go_at_call 41; go_loud ((with_reducible refine (HSG.out _ hs3).mono ?_); rintro e w4 ⟨rfl, hc4⟩; have k4_p_0 : w4.cell? ⟨w.heap.size, 0, none⟩ = some (.bool s) := bca hc4; have g4_p_0 : w4.frozen? ⟨w.heap.size, 0, none⟩ = false := bfa hc4 (v := .bool s); have k4_p_1 : w4.cell? ⟨w.heap.size, 1, none⟩ = some (.slice a l.length c) := bca hc4; have g4_p_1 : w4.frozen? ⟨w.heap.size, 1, none⟩ = false := bfa hc4 (v := .slice a l.length c); have k4_p_2 : w4.cell? ⟨w.heap.size, 2, none⟩ = some (.bool t) := bca hc4; have g4_p_2 : w4.frozen? ⟨w.heap.size, 2, none⟩ = false := bfa hc4 (v := .bool t); have k4_p_3 : w4.cell? ⟨w.heap.size, 3, none⟩ = some (.slice b k.length d) := bca hc4; have g4_p_3 : w4.frozen? ⟨w.heap.size, 3, none⟩ = false := bfa hc4 (v := .slice b k.length d); have x4_p : ¬ w.heap.size = w4.heap.size := qne k4_p_0; have y4_p : ¬ w4.heap.size = w.heap.size := fun h => qne k4_p_0 h.symm; have q4_p : w.heap.size < w4.heap.size := qlt k4_p_0; have hbw4 := hbw3.trans (hc4.mono hz3); have hz4 := hbw4.size; have hr4 := hr.below hbw4; have hs4 := hs.below hbw4)))
  go_ret
  exact ⟨rfl, hbw4⟩
set_option maxRecDepth 50000 in
theorem risn_d (s t : Bool) (a b : Option Addr) (n c m d : Nat) (l k : List (BitVec 32)) (w : World) (hn : l.length = n) (hm : k.length = m) (hc : n ≤ c) (hd : m ≤ d) (hl : n ≤ 300000) (hl2 : m ≤ 300000) (hr : Rw w a l) (hs : Rw w b k) (h1 : isnV s l = true) (h2 : isnV t k = true) (h3 : 0 < zv t (valD k)) :
    Calls Try.prog 16 #[.agg #[.bool s, .slice a n c, .bool t, .slice b m d]] w fun e w' => e = .returned (.bool (rnB s t l k)) ∧ Below w.heap.size w w' := by
  subst hn hm
  have hres : rnB s t l k = (Nat.gcd (valD l) (valD k) == 1) := by unfold rnB; rw [h1, h2, decide_eq_true h3]; rfl
  rw [hres]
  have hN1 : ∀ W, Rw W a l → Calls Try.prog 45 #[.agg #[.bool s, .slice a l.length c]] W fun e w' => e = .returned (.bool (isnV s l)) ∧ Below W.heap.size W w' := fun W h => zisn_any s a _ c l W rfl hc (by omega) h
  have hN2 : ∀ W, Rw W b k → Calls Try.prog 45 #[.agg #[.bool t, .slice b k.length d]] W fun e w' => e = .returned (.bool (isnV t k)) ∧ Below W.heap.size W w' := fun W h => zisn_any t b _ d k W rfl hd (by omega) h
  have hSG : ∀ W, Rw W b k → Calls Try.prog 41 #[.agg #[.bool t, .slice b k.length d]] W fun e w' => e = .returned (.int .i64 (zv t (valD k)).sign) ∧ Below W.heap.size W w' := fun W hW => by
    exact zsign_any t b _ d k W rfl hd (by omega) hW
  rw [h1] at hN1
  rw [h2] at hN2
  have hsb := sign_bd (zv t (valD k))
  have hsp : (zv t (valD k)).sign = 1 := Int.sign_eq_one_of_pos h3
  rw [hsp] at hSG
  have hG : ∀ W, Rw W a l → Rw W b k → Calls Try.prog 47 #[.slice a l.length c, .slice b k.length d] W (FrR W (canon (Nat.gcd (valD l) (valD k)))) := fun W h1 h2 => ngcd_any a b _ c _ d l k W rfl rfl hc hd (by omega) (by omega) h1 h2
  have hkp : 0 < valD k := by have : zv t (valD k) ≠ 0 := (by omega); rw [Ne, zv_eq_zero] at this; omega
  have hgl : (canon (Nat.gcd (valD l) (valD k))).length ≤ 1000000 := Nat.le_trans (canon_le_of (Nat.gcd_le_right _ hkp)) (by omega)
  obtain ⟨g, hg⟩ : ∃ g, Nat.gcd (valD l) (valD k) = g := ⟨_, rfl⟩
  rw [hg] at hG hgl ⊢
  have hBL : ∀ W v vc, Rw W v (canon g) → (canon g).length ≤ vc → Calls Try.prog 46 #[.slice v (canon g).length vc] W fun e w' => ∃ b : Nat, e = .returned (.int .i64 b) ∧ ((b : Int) == 1) = (g == 1) ∧ W = w' := fun W v vc h1 h2 => (nbl_any v _ vc (canon g) W rfl h2 hgl h1).mono fun e w' ⟨b, e1, e2, e3⟩ => ⟨b, e1, by have := isBl_one e2; rw [valD_canon] at this; exact this, e3.symm⟩
  have HN1 := Lib.hid hN1
  have HN2 := Lib.hid hN2
  have HSG := Lib.hid hSG
  have HG := Lib.hid hG
  have HBL := Lib.hid hBL
  clear hN1 hN2 hSG h1 h2 h3 hres hG hg hkp hgl hBL
  have hb1 := Below.alloc (Below.refl w.heap.size w) (Nat.le_refl _) (.cells #[Value.bool s, Value.slice a l.length c, Value.bool t, Value.slice b k.length d] 26)
  have hz1 := hb1.size
  have hr1 := hr.below hb1
  go_enter Try.func16, Try.ntmps16
  go_wp2_with (first
    | (go_at_call 45; go_loud (first
        | ((with_reducible refine (HN2.out _ hs2).mono ?_); rintro e w3 ⟨rfl, hc3⟩; have k3_p_0 : w3.cell? ⟨w.heap.size, 0, none⟩ = some (.bool s) := bca hc3; have g3_p_0 : w3.frozen? ⟨w.heap.size, 0, none⟩ = false := bfa hc3 (v := .bool s); have k3_p_1 : w3.cell? ⟨w.heap.size, 1, none⟩ = some (.slice a l.length c) := bca hc3; have g3_p_1 : w3.frozen? ⟨w.heap.size, 1, none⟩ = false := bfa hc3 (v := .slice a l.length c); have k3_p_2 : w3.cell? ⟨w.heap.size, 2, none⟩ = some (.bool t) := bca hc3; have g3_p_2 : w3.frozen? ⟨w.heap.size, 2, none⟩ = false := bfa hc3 (v := .bool t); have k3_p_3 : w3.cell? ⟨w.heap.size, 3, none⟩ = some (.slice b k.length d) := bca hc3; have g3_p_3 : w3.frozen? ⟨w.heap.size, 3, none⟩ = false := bfa hc3 (v := .slice b k.length d); have x3_p : ¬ w.heap.size = w3.heap.size := qne k3_p_0; have y3_p : ¬ w3.heap.size = w.heap.size := fun h => qne k3_p_0 h.symm; have q3_p : w.heap.size < w3.heap.size := qlt k3_p_0; have hbw3 := hbw2.trans (hc3.mono hz2); have hz3 := hbw3.size; have hs3 := hs.below hbw3)
        | ((with_reducible refine (HN1.out _ hr1).mono ?_); rintro e w2 ⟨rfl, hc2⟩; have k2_p_0 : w2.cell? ⟨w.heap.size, 0, none⟩ = some (.bool s) := bca hc2; have g2_p_0 : w2.frozen? ⟨w.heap.size, 0, none⟩ = false := bfa hc2 (v := .bool s); have k2_p_1 : w2.cell? ⟨w.heap.size, 1, none⟩ = some (.slice a l.length c) := bca hc2; have g2_p_1 : w2.frozen? ⟨w.heap.size, 1, none⟩ = false := bfa hc2 (v := .slice a l.length c); have k2_p_2 : w2.cell? ⟨w.heap.size, 2, none⟩ = some (.bool t) := bca hc2; have g2_p_2 : w2.frozen? ⟨w.heap.size, 2, none⟩ = false := bfa hc2 (v := .bool t); have k2_p_3 : w2.cell? ⟨w.heap.size, 3, none⟩ = some (.slice b k.length d) := bca hc2; have g2_p_3 : w2.frozen? ⟨w.heap.size, 3, none⟩ = false := bfa hc2 (v := .slice b k.length d); have x2_p : ¬ w.heap.size = w2.heap.size := qne k2_p_0; have y2_p : ¬ w2.heap.size = w.heap.size := fun h => qne k2_p_0 h.symm; have q2_p : w.heap.size < w2.heap.size := qlt k2_p_0; have hbw2 := hb1.trans (hc2.mono hz1); have hz2 := hbw2.size; have hs2 := hs.below hbw2)))
    | (go_at_call 41; go_loud ((with_reducible refine (HSG.out _ hs3).mono ?_); rintro e w4 ⟨rfl, hc4⟩; have k4_p_0 : w4.cell? ⟨w.heap.size, 0, none⟩ = some (.bool s) := bca hc4; have g4_p_0 : w4.frozen? ⟨w.heap.size, 0, none⟩ = false := bfa hc4 (v := .bool s); have k4_p_1 : w4.cell? ⟨w.heap.size, 1, none⟩ = some (.slice a l.length c) := bca hc4; have g4_p_1 : w4.frozen? ⟨w.heap.size, 1, none⟩ = false := bfa hc4 (v := .slice a l.length c); have k4_p_2 : w4.cell? ⟨w.heap.size, 2, none⟩ = some (.bool t) := bca hc4; have g4_p_2 : w4.frozen? ⟨w.heap.size, 2, none⟩ = false := bfa hc4 (v := .bool t); have k4_p_3 : w4.cell? ⟨w.heap.size, 3, none⟩ = some (.slice b k.length d) := bca hc4; have g4_p_3 : w4.frozen? ⟨w.heap.size, 3, none⟩ = false := bfa hc4 (v := .slice b k.length d); have x4_p : ¬ w.heap.size = w4.heap.size := qne k4_p_0; have y4_p : ¬ w4.heap.size = w.heap.size := fun h => qne k4_p_0 h.symm; have q4_p : w.heap.size < w4.heap.size := qlt k4_p_0; have hbw4 := hbw3.trans (hc4.mono hz3); have hz4 := hbw4.size; have hr4 := hr.below hbw4; have hs4 := hs.below hbw4))
    | (go_at_call 47; go_loud ((with_reducible refine (HG.out _ hr4 hs4).mono ?_); rintro e w5 ⟨a5, c5, rfl, hcc5, hg5, hc5⟩; have hbw5 := hbw4.trans (hc5.mono hz4)))
    | (go_at_call 46; go_loud ((with_reducible refine (HBL.out _ _ _ (RwF.rw hg5) hcc5).mono ?_); rintro e w6 ⟨bl, rfl, hbl, rfl⟩)))
  go_ret
  exact ⟨rfl, hbw5⟩
theorem isn_any (s t : Bool) (a b : Option Addr) (n c m d : Nat) (l k : List (BitVec 32)) (w : World) (hn : l.length = n) (hm : k.length = m) (hc : n ≤ c) (hd : m ≤ d) (hl : n ≤ 300000) (hl2 : m ≤ 300000) (hr : Rw w a l) (hs : Rw w b k) :
    Calls Try.prog 16 #[.agg #[.bool s, .slice a n c, .bool t, .slice b m d]] w fun e w' => e = .returned (.bool (rnB s t l k)) ∧ Below w.heap.size w w' := by
  by_cases h1 : isnV s l = true
  · by_cases h2 : isnV t k = true
    · by_cases h3 : 0 < zv t (valD k)
      · exact risn_d s t a b n c m d l k w hn hm hc hd hl hl2 hr hs h1 h2 h3
      · exact risn_c s t a b n c m d l k w hn hm hc hd hl hl2 hr hs h1 h2 (by omega)
    · exact risn_b s t a b n c m d l k w hn hm hc hd hl hl2 hr hs h1 (by simpa using h2)
  · exact risn_a s t a b n c m d l k w hn hm hc hd hl hl2 hr hs (by simpa using h1)
end Go.Proofs.Ytcofiekfhnfjpaa
