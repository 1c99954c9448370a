
import Derived.Test.YtcofiekfhnfjpaaUA
import Derived.Test.YtcofiekfhnfjpaaU6
import Derived.BigQuiet
import Derived.StillTailTactics
import Derived.Test.YtcofiekfhnfjpaaU7
/- Z5 -/
namespace Go.Proofs.Ytcofiekfhnfjpaa
open Go.RowKit
set_option linter.unusedVariables false
set_option linter.unusedSimpArgs false
attribute [local go_sem ↓] Go.wp_at_zero Go.wp_at_succ
theorem zdec_any (s : Bool) (a : Option Addr) (n c : Nat) (l : List (BitVec 32)) (w : World) (hn : l.length = n) (hc : n ≤ c) (hl : n ≤ 1000000) (hr : Rw w a l) :
    Calls Try.prog 73 #[.agg #[.bool s, .slice a n c]] w fun e w' => ∃ a' c' l', e = .returned (.tuple #[.int .i64 (zv s (valD l)).sign, .slice a' l'.length c']) ∧ l'.length ≤ c' ∧ l'.length ≤ n ∧ valD l' = valD l ∧ Rw w' a' l' ∧ Below w.heap.size w w' := by
  subst hn
  have hb0 := Below.alloc (Below.refl w.heap.size w) (Nat.le_refl _) (.cells #[Value.bool s, Value.slice a l.length c] 24)
  rcases Nat.eq_zero_or_pos (valD l) with h0 | h0
  · have HZ := Lib.hid h0
    clear h0
    go_enter Try.func73, Try.ntmps73
    go_wp2_with (go_at_call 46; (with_reducible refine (nbl_any a _ c l _ rfl hc hl (hr.below hb0)).mono ?_); rintro e w1 ⟨b, rfl, hbl, rfl⟩; have hb00 : b = 0 := hbl.2.1 HZ.out; subst hb00; clear hbl)
    go_ret2
    exact ⟨none, 0, [], by rw [HZ.out, zv_zero]; rfl, Nat.le_refl _, Nat.zero_le _, by rw [HZ.out]; rfl, Rw.nil _ _, hb0⟩
  · have HP := Lib.hid h0
    have hraf := hr.below hb0
    clear h0
    cases s
    · have hsg : Hid ((zv false (valD l)).sign = 1) := by
        have := HP.out
        show _ = _
        rw [← sgV_sign, sgV, if_neg (by omega)]; rfl
      go_enter Try.func73, Try.ntmps73
      go_wp2_with (go_at_call 46; (with_reducible refine (nbl_any a _ c l _ rfl hc hl (hr.below hb0)).mono ?_); rintro e w1 ⟨b, rfl, hbl, rfl⟩; have hb1 : ((b : Int) == 0) = false := by { have := (hbl.2.2 HP.out).1; rw [beq_eq_false_iff_ne]; omega }; have hb2 : (b == 0) = false := by { have := (hbl.2.2 HP.out).1; rw [beq_eq_false_iff_ne]; omega }; clear hbl)
      go_quiet (fail)
      go_wp2
      go_ret2
      exact ⟨a, c, l, by rw [hsg.out]; rfl, hc, Nat.le_refl _, rfl, hraf.drewN _, below_drewN hb0 _⟩
    · have hsg : Hid ((zv true (valD l)).sign = (-1)) := by
        have := HP.out
        show _ = _
        rw [← sgV_sign, sgV, if_neg (by omega)]; rfl
      go_enter Try.func73, Try.ntmps73
      go_wp2_with (go_at_call 46; (with_reducible refine (nbl_any a _ c l _ rfl hc hl (hr.below hb0)).mono ?_); rintro e w1 ⟨b, rfl, hbl, rfl⟩; have hb1 : ((b : Int) == 0) = false := by { have := (hbl.2.2 HP.out).1; rw [beq_eq_false_iff_ne]; omega }; have hb2 : (b == 0) = false := by { have := (hbl.2.2 HP.out).1; rw [beq_eq_false_iff_ne]; omega }; clear hbl)
      go_quiet (fail)
      go_wp2
      go_ret2
      exact ⟨a, c, l, by rw [hsg.out]; rfl, hc, Nat.le_refl _, rfl, hraf.drewN _, below_drewN hb0 _⟩
theorem zsign_any (s : Bool) (a : Option Addr) (n c : Nat) (l : List (BitVec 32)) (w : World) (hn : l.length = n) (hc : n ≤ c) (hl : n ≤ 1000000) (hr : Rw w a l) :
    Calls Try.prog 41 #[.agg #[.bool s, .slice a n c]] w fun e w' => e = .returned (.int .i64 (zv s (valD l)).sign) ∧ Below w.heap.size w w' := by
  subst hn
  have hb0 := Below.alloc (Below.refl w.heap.size w) (Nat.le_refl _) (.cells #[Value.bool s, Value.slice a l.length c] 24)
  go_enter Try.func41, Try.ntmps41
  go_wp2_with (go_at_call 73; (with_reducible refine (zdec_any s a _ c l _ rfl hc hl (hr.below hb0)).mono ?_); rintro e w1 ⟨a1, c1, l1, rfl, h1, h2, h3, hr1, hc1⟩; have hbw := hb0.trans (hc1.mono hb0.size))
  go_ret
  exact ⟨rfl, hbw⟩
theorem zbl_any (s : Bool) (a : Option Addr) (n c : Nat) (l : List (BitVec 32)) (w : World) (hn : l.length = n) (hc : n ≤ c) (hl : n ≤ 1000000) (hr : Rw w a l) :
    Calls Try.prog 52 #[.agg #[.bool s, .slice a n c]] w fun e w' => ∃ b : Nat, e = .returned (.int .i64 b) ∧ IsBl (valD l) b ∧ Below w.heap.size w w' := by
  subst hn
  have hb0 := Below.alloc (Below.refl w.heap.size w) (Nat.le_refl _) (.cells #[Value.bool s, Value.slice a l.length c] 24)
  go_enter Try.func52, Try.ntmps52
  go_wp2_with (go_at_call 46; (with_reducible refine (nbl_any a _ c l _ rfl hc hl (hr.below hb0)).mono ?_); rintro e w1 ⟨b, rfl, hbl, rfl⟩; skip)
  go_ret
  exact ⟨b, rfl, hbl, hb0⟩
/-- What IsNormalized answers. -/
def isnV (s : Bool) (l : List (BitVec 32)) : Bool := decide (trimD l = l) && !(s && decide (l.length = 0))
theorem zisn_any (s : Bool) (a : Option Addr) (n c : Nat) (l : List (BitVec 32)) (w : World) (hn : l.length = n) (hc : n ≤ c) (hl : n ≤ 1000000) (hr : Rw w a l) :
    Calls Try.prog 45 #[.agg #[.bool s, .slice a n c]] w fun e w' => e = .returned (.bool (isnV s l)) ∧ Below w.heap.size w w' := by
  subst hn
  have hb0 := Below.alloc (Below.refl w.heap.size w) (Nat.le_refl _) (.cells #[Value.bool s, Value.slice a l.length c] 24)
  obtain ⟨N, hN⟩ : ∃ N, decide (trimD l = l) = N := ⟨_, rfl⟩
  obtain ⟨Z, hZ⟩ : ∃ Z, decide (l.length = 0) = Z := ⟨_, rfl⟩
  have hz1 : ((l.length : Int) == 0) = Z := by
    rw [← hZ, Bool.eq_iff_iff, beq_iff_eq, decide_eq_true_iff]; omega
  have hz2 : (l.length == 0) = Z := by
    rw [← hZ, Bool.eq_iff_iff, beq_iff_eq, decide_eq_true_iff]
  have HV : Hid (isnV s l = (N && !(s && Z))) := by show _ = _; unfold isnV; rw [hN, hZ]
  have HN := Lib.hid hN
  clear hN hZ
  cases N <;> cases s <;> cases Z
  · go_enter Try.func45, Try.ntmps45
    go_wp2_with (go_at_call 78; (with_reducible refine (nisnorm_any a _ c l _ rfl (by omega) (hr.below hb0)).mono ?_); rintro e w1 ⟨rfl, rfl⟩; rw [HN.out])
    go_ret
    exact ⟨by rw [HV.out]; rfl, hb0⟩
  · go_enter Try.func45, Try.ntmps45
    go_wp2_with (go_at_call 78; (with_reducible refine (nisnorm_any a _ c l _ rfl (by omega) (hr.below hb0)).mono ?_); rintro e w1 ⟨rfl, rfl⟩; rw [HN.out])
    go_ret
    exact ⟨by rw [HV.out]; rfl, hb0⟩
  · go_enter Try.func45, Try.ntmps45
    go_wp2_with (go_at_call 78; (with_reducible refine (nisnorm_any a _ c l _ rfl (by omega) (hr.below hb0)).mono ?_); rintro e w1 ⟨rfl, rfl⟩; rw [HN.out])
    go_ret
    exact ⟨by rw [HV.out]; rfl, hb0⟩
  · go_enter Try.func45, Try.ntmps45
    go_wp2_with (go_at_call 78; (with_reducible refine (nisnorm_any a _ c l _ rfl (by omega) (hr.below hb0)).mono ?_); rintro e w1 ⟨rfl, rfl⟩; rw [HN.out])
    go_ret
    exact ⟨by rw [HV.out]; rfl, hb0⟩
  · go_enter Try.func45, Try.ntmps45
    go_wp2_with (go_at_call 78; (with_reducible refine (nisnorm_any a _ c l _ rfl (by omega) (hr.below hb0)).mono ?_); rintro e w1 ⟨rfl, rfl⟩; rw [HN.out])
    go_ret
    exact ⟨by rw [HV.out]; rfl, hb0⟩
  · go_enter Try.func45, Try.ntmps45
    go_wp2_with (go_at_call 78; (with_reducible refine (nisnorm_any a _ c l _ rfl (by omega) (hr.below hb0)).mono ?_); rintro e w1 ⟨rfl, rfl⟩; rw [HN.out])
    go_ret
    exact ⟨by rw [HV.out]; rfl, hb0⟩
  · go_enter Try.func45, Try.ntmps45
    go_wp2_with (go_at_call 78; (with_reducible refine (nisnorm_any a _ c l _ rfl (by omega) (hr.below hb0)).mono ?_); rintro e w1 ⟨rfl, rfl⟩; rw [HN.out])
    go_ret
    exact ⟨by rw [HV.out]; rfl, hb0⟩
  · go_enter Try.func45, Try.ntmps45
    go_wp2_with (go_at_call 78; (with_reducible refine (nisnorm_any a _ c l _ rfl (by omega) (hr.below hb0)).mono ?_); rintro e w1 ⟨rfl, rfl⟩; rw [HN.out])
    go_ret
    exact ⟨by rw [HV.out]; rfl, hb0⟩
theorem sign_ite (z : Int) : z.sign = if z < 0 then -1 else if z = 0 then 0 else 1 := by
  split
  · rename_i h; exact Int.sign_eq_neg_one_of_neg h
  · split
    · rename_i h; rw [h]; rfl
    · exact Int.sign_eq_one_of_pos (by omega)
theorem zcmp_lt {x y : Int} (h : x.sign < y.sign) : (x - y).sign = -1 := by
  simp only [sign_ite] at *; repeat' split at h
  all_goals first | omega | (rw [if_pos (by omega)])
theorem zcmp_gt {x y : Int} (h : y.sign < x.sign) : (x - y).sign = 1 := by
  simp only [sign_ite] at *; repeat' split at h
  all_goals first | omega | (rw [if_neg (by omega), if_neg (by omega)])
theorem zcmp_eq {x y : Int} (h : x.sign = y.sign) : x.sign * cmpN x.natAbs y.natAbs = (x - y).sign := by
  simp only [sign_ite, cmpN] at *
  repeat' split
  all_goals first | omega | rfl | (repeat' split at h) <;> omega
theorem cmpN_abs (x y : Nat) : cmpN x y = -1 ∨ cmpN x y = 0 ∨ cmpN x y = 1 := by
  unfold cmpN; repeat' split
  all_goals omega
theorem sign_abs (x : Int) : x.sign = -1 ∨ x.sign = 0 ∨ x.sign = 1 := by
  rw [sign_ite]; repeat' split
  all_goals omega
set_option maxRecDepth 50000 in
theorem zcmp_any (s t : Bool) (a b : Option Addr) (n c m d : Nat) (l k : List (BitVec 32)) (w : World) (hn : l.length = n) (hm : k.length = m) (hc : n ≤ c) (hd : m ≤ d) (hl : n ≤ 400000) (hl2 : m ≤ 400000) (hr : Rw w a l) (hs : Rw w b k) :
    Calls Try.prog 70 #[.agg #[.bool s, .slice a n c], .agg #[.bool t, .slice b m d]] w fun e w' => e = .returned (.int .i64 (zv s (valD l) - zv t (valD k)).sign) ∧ Below w.heap.size w w' := by
  subst hn hm
  have hb1 := Below.alloc (Below.refl w.heap.size w) (Nat.le_refl _) (.cells #[Value.bool s, Value.slice a l.length c] 24)
  have hb2 := Below.alloc hb1 (by simp) (.cells #[Value.bool t, Value.slice b k.length d] 24)
  have hz2 := hb2.size
  obtain ⟨x, hx⟩ : ∃ x, zv s (valD l) = x := ⟨_, rfl⟩
  obtain ⟨y, hy⟩ : ∃ y, zv t (valD k) = y := ⟨_, rfl⟩
  have Hx := Lib.hid hx
  have Hy := Lib.hid hy
  have Hxa : Hid (valD l = x.natAbs) := by show _ = _; rw [← hx, zv_abs]
  have Hya : Hid (valD k = y.natAbs) := by show _ = _; rw [← hy, zv_abs]
  rw [hx, hy]
  clear hx hy
  obtain ⟨sx, hsx⟩ : ∃ v, x.sign = v := ⟨_, rfl⟩
  obtain ⟨sy, hsy⟩ : ∃ v, y.sign = v := ⟨_, rfl⟩
  have Hsx := Lib.hid hsx
  have Hsy := Lib.hid hsy
  have hcase : (decide (sx < sy) = true ∧ Hid ((x - y).sign = -1)) ∨ (decide (sx < sy) = false ∧ decide (sy < sx) = true ∧ Hid ((x - y).sign = 1)) ∨ (sx = sy ∧ Hid (sx * cmpN x.natAbs y.natAbs = (x - y).sign)) := by
    rw [← hsx, ← hsy]
    rcases Int.lt_trichotomy x.sign y.sign with h | h | h
    · exact .inl ⟨by simpa using h, zcmp_lt h⟩
    · exact .inr (.inr ⟨h, zcmp_eq h⟩)
    · exact .inr (.inl ⟨by simp; omega, by simpa using h, zcmp_gt h⟩)
  have hab := sign_abs x
  rw [hsx] at hab
  clear hsx hsy
  obtain ⟨r, hr0⟩ : ∃ r, cmpN x.natAbs y.natAbs = r := ⟨_, rfl⟩
  have hrb := cmpN_abs x.natAbs y.natAbs
  rw [hr0] at hrb hcase
  have Hr := Lib.hid hr0
  clear hr0
  rcases hcase with ⟨h1, hv⟩ | ⟨h1, h2, hv⟩ | ⟨rfl, hv⟩
  · go_enter Try.func70, Try.ntmps70
    go_wp2_with (first | (go_at_call 73; (with_reducible refine (zdec_any s a _ c l _ rfl hc (by omega) (hr.below hb2)).mono ?_); rintro e w1 ⟨a1, c1, l1, rfl, i1, j1, v1, hr1, hc1⟩; have hv1 := Lib.hid v1; clear v1; have k1_q_0 : w1.cell? ⟨(w.heap.size + 1), 0, none⟩ = some (.bool t) := bca hc1; have g1_q_0 : w1.frozen? ⟨(w.heap.size + 1), 0, none⟩ = false := bfa hc1 (v := .bool t); have k1_q_1 : w1.cell? ⟨(w.heap.size + 1), 1, none⟩ = some (.slice b k.length d) := bca hc1; have g1_q_1 : w1.frozen? ⟨(w.heap.size + 1), 1, none⟩ = false := bfa hc1 (v := .slice b k.length d); have x1_q : ¬ (w.heap.size + 1) = w1.heap.size := qne k1_q_0; have y1_q : ¬ w1.heap.size = (w.heap.size + 1) := fun h => qne k1_q_0 h.symm; have q1_q : (w.heap.size + 1) < w1.heap.size := qlt k1_q_0; have hbw1 := hb2.trans (hc1.mono hz2); have hz1 := hbw1.size; clear hc1; rw [Hx.out, Hsx.out]) | (go_at_call 73; (with_reducible refine (zdec_any t b _ d k _ rfl hd (by omega) (hs.below hbw1)).mono ?_); rintro e w2 ⟨a2, c2, l2, rfl, i2, j2, v2, hr2, hc2⟩; have hv2 := Lib.hid v2; clear v2; have hr12 := hr1.below hc2; have hbw2 := hbw1.trans (hc2.mono hz1); have hz2' := hbw2.size; clear hc2; rw [Hy.out, Hsy.out]))
    go_ret
    exact ⟨by rw [hv.out]; rfl, hbw2⟩
  · go_enter Try.func70, Try.ntmps70
    go_wp2_with (first | (go_at_call 73; (with_reducible refine (zdec_any s a _ c l _ rfl hc (by omega) (hr.below hb2)).mono ?_); rintro e w1 ⟨a1, c1, l1, rfl, i1, j1, v1, hr1, hc1⟩; have hv1 := Lib.hid v1; clear v1; have k1_q_0 : w1.cell? ⟨(w.heap.size + 1), 0, none⟩ = some (.bool t) := bca hc1; have g1_q_0 : w1.frozen? ⟨(w.heap.size + 1), 0, none⟩ = false := bfa hc1 (v := .bool t); have k1_q_1 : w1.cell? ⟨(w.heap.size + 1), 1, none⟩ = some (.slice b k.length d) := bca hc1; have g1_q_1 : w1.frozen? ⟨(w.heap.size + 1), 1, none⟩ = false := bfa hc1 (v := .slice b k.length d); have x1_q : ¬ (w.heap.size + 1) = w1.heap.size := qne k1_q_0; have y1_q : ¬ w1.heap.size = (w.heap.size + 1) := fun h => qne k1_q_0 h.symm; have q1_q : (w.heap.size + 1) < w1.heap.size := qlt k1_q_0; have hbw1 := hb2.trans (hc1.mono hz2); have hz1 := hbw1.size; clear hc1; rw [Hx.out, Hsx.out]) | (go_at_call 73; (with_reducible refine (zdec_any t b _ d k _ rfl hd (by omega) (hs.below hbw1)).mono ?_); rintro e w2 ⟨a2, c2, l2, rfl, i2, j2, v2, hr2, hc2⟩; have hv2 := Lib.hid v2; clear v2; have hr12 := hr1.below hc2; have hbw2 := hbw1.trans (hc2.mono hz1); have hz2' := hbw2.size; clear hc2; rw [Hy.out, Hsy.out]))
    go_ret
    exact ⟨by rw [hv.out]; rfl, hbw2⟩
  · have h1 : decide (sx < sx) = false := by simp
    have hw : IntKind.i64.wrap (sx * r) = sx * r := by
      rw [IntKind.wrap_i64]; rcases hab with h | h | h <;> rcases hrb with h' | h' | h' <;> subst h h' <;> rfl
    clear hab hrb
    go_enter Try.func70, Try.ntmps70
    go_wp2_with (first | (go_at_call 73; (with_reducible refine (zdec_any s a _ c l _ rfl hc (by omega) (hr.below hb2)).mono ?_); rintro e w1 ⟨a1, c1, l1, rfl, i1, j1, v1, hr1, hc1⟩; have hv1 := Lib.hid v1; clear v1; have k1_q_0 : w1.cell? ⟨(w.heap.size + 1), 0, none⟩ = some (.bool t) := bca hc1; have g1_q_0 : w1.frozen? ⟨(w.heap.size + 1), 0, none⟩ = false := bfa hc1 (v := .bool t); have k1_q_1 : w1.cell? ⟨(w.heap.size + 1), 1, none⟩ = some (.slice b k.length d) := bca hc1; have g1_q_1 : w1.frozen? ⟨(w.heap.size + 1), 1, none⟩ = false := bfa hc1 (v := .slice b k.length d); have x1_q : ¬ (w.heap.size + 1) = w1.heap.size := qne k1_q_0; have y1_q : ¬ w1.heap.size = (w.heap.size + 1) := fun h => qne k1_q_0 h.symm; have q1_q : (w.heap.size + 1) < w1.heap.size := qlt k1_q_0; have hbw1 := hb2.trans (hc1.mono hz2); have hz1 := hbw1.size; clear hc1; rw [Hx.out, Hsx.out]) | (go_at_call 73; (with_reducible refine (zdec_any t b _ d k _ rfl hd (by omega) (hs.below hbw1)).mono ?_); rintro e w2 ⟨a2, c2, l2, rfl, i2, j2, v2, hr2, hc2⟩; have hv2 := Lib.hid v2; clear v2; have hr12 := hr1.below hc2; have hbw2 := hbw1.trans (hc2.mono hz1); have hz2' := hbw2.size; clear hc2; rw [Hy.out, Hsy.out]) | (go_at_call 91; (with_reducible refine (ncmp_any a1 a2 _ c1 _ c2 l1 l2 _ rfl rfl i1 i2 (by omega) (by omega) hr12 hr2).mono ?_); rintro e w3 ⟨rfl, hw3⟩; have hb3 := drew_below hw3; have hbw3 := hbw2.trans (hb3.mono hz2'); clear hw3 hb3; rw [hv1.out, hv2.out, Hxa.out, Hya.out, Hr.out]))
    go_ret
    exact ⟨by rw [← hv.out]; rfl, hbw3⟩
end Go.Proofs.Ytcofiekfhnfjpaa

/- Z6 -/
namespace Go.Proofs.Ytcofiekfhnfjpaa
open Go.RowKit
set_option linter.unusedVariables false
set_option linter.unusedSimpArgs false
attribute [local go_sem ↓] Go.wp_at_zero Go.wp_at_succ
/- floor division of integers, by their magnitudes -/
theorem opp_iff {x y : Int} : x.sign * y.sign < 0 ↔ (x < 0 ∧ 0 < y) ∨ (0 < x ∧ y < 0) := by
  rcases Int.lt_trichotomy x 0 with h | h | h <;> rcases Int.lt_trichotomy y 0 with h' | h' | h'
  · rw [Int.sign_eq_neg_one_of_neg h, Int.sign_eq_neg_one_of_neg h']; omega
  · subst h'; simp
  · rw [Int.sign_eq_neg_one_of_neg h, Int.sign_eq_one_of_pos h']; omega
  · subst h; simp
  · subst h; simp
  · subst h; simp
  · rw [Int.sign_eq_one_of_pos h, Int.sign_eq_neg_one_of_neg h']; omega
  · subst h'; simp
  · rw [Int.sign_eq_one_of_pos h, Int.sign_eq_one_of_pos h']; omega
theorem fdm_same {x y : Int} (hy : y ≠ 0) (h : ¬ x.sign * y.sign < 0) : x.fdiv y = zv false (x.natAbs / y.natAbs) ∧ x.fmod y = zv (decide (y < 0)) (x.natAbs % y.natAbs) := by
  have e := Nat.div_add_mod x.natAbs y.natAbs
  have hlt := Nat.mod_lt x.natAbs (show 0 < y.natAbs by omega)
  rw [opp_iff] at h
  generalize x.natAbs / y.natAbs = Q at *
  generalize x.natAbs % y.natAbs = M at *
  obtain ⟨Y, hY⟩ : ∃ Y, y.natAbs = Y := ⟨_, rfl⟩
  obtain ⟨X, hX⟩ : ∃ X, x.natAbs = X := ⟨_, rfl⟩
  rw [hY] at e hlt
  rw [hX] at e
  have e2 : (Y : Int) * Q + M = X := by rw [← e]; simp
  rcases Int.lt_or_gt_of_ne hy with h1 | h1
  · rw [show decide (y < 0) = true by simpa using h1]
    have e3 : y = -(Y : Int) := by omega
    refine (Int.fdiv_fmod_unique' h1).2 ⟨?_, ?_, ?_⟩
    · simp only [zv, if_true, Bool.false_eq_true, if_false]
      rw [e3, Int.neg_mul]; omega
    · simp only [zv, if_true]; omega
    · simp only [zv, if_true]; omega
  · rw [show decide (y < 0) = false from decide_eq_false_iff_not.2 (by omega)]
    have e3 : y = (Y : Int) := by omega
    refine (Int.fdiv_fmod_unique h1).2 ⟨?_, ?_, ?_⟩
    · simp only [zv, Bool.false_eq_true, if_false]
      rw [e3]; omega
    · simp only [zv, Bool.false_eq_true, if_false]; omega
    · simp only [zv, Bool.false_eq_true, if_false]; omega
theorem fdm_opp {x y : Int} (h : x.sign * y.sign < 0) (q r : Nat) (hqr : (x.natAbs % y.natAbs = 0 ∧ q = x.natAbs / y.natAbs ∧ r = 0) ∨ (0 < x.natAbs % y.natAbs ∧ q = x.natAbs / y.natAbs + 1 ∧ r = y.natAbs - x.natAbs % y.natAbs)) : x.fdiv y = zv true q ∧ x.fmod y = zv (decide (y < 0)) r := by
  have hy : y ≠ 0 := by rintro rfl; simp at h
  have e := Nat.div_add_mod x.natAbs y.natAbs
  have hlt := Nat.mod_lt x.natAbs (show 0 < y.natAbs by omega)
  rw [opp_iff] at h
  generalize x.natAbs / y.natAbs = Q at *
  generalize x.natAbs % y.natAbs = M at *
  have e4 : y.natAbs * q = x.natAbs + r := by
    rcases hqr with ⟨h1, rfl, rfl⟩ | ⟨h1, rfl, rfl⟩
    · omega
    · rw [Nat.mul_add]; omega
  have hr : r < y.natAbs := by omega
  clear e hqr hlt
  obtain ⟨Y, hY⟩ : ∃ Y, y.natAbs = Y := ⟨_, rfl⟩
  obtain ⟨X, hX⟩ : ∃ X, x.natAbs = X := ⟨_, rfl⟩
  rw [hY] at e4 hr
  rw [hX] at e4
  have e2 : (Y : Int) * q = X + r := by rw [← Int.natCast_mul, e4]; simp
  rcases Int.lt_or_gt_of_ne hy with h1 | h1
  · rw [show decide (y < 0) = true by simpa using h1]
    have e3 : y = -(Y : Int) := by omega
    refine (Int.fdiv_fmod_unique' h1).2 ⟨?_, ?_, ?_⟩
    · simp only [zv, if_true]
      rw [e3, Int.neg_mul, Int.mul_neg, e2]; omega
    · simp only [zv, if_true]; omega
    · simp only [zv, if_true]; omega
  · rw [show decide (y < 0) = false from decide_eq_false_iff_not.2 (by omega)]
    have e3 : y = (Y : Int) := by omega
    refine (Int.fdiv_fmod_unique h1).2 ⟨?_, ?_, ?_⟩
    · simp only [zv, if_true, Bool.false_eq_true, if_false]
      rw [e3, Int.mul_neg, e2]; omega
    · simp only [zv, Bool.false_eq_true, if_false]; omega
    · simp only [zv, Bool.false_eq_true, if_false]; omega
/-- The nearest integer, ties away from zero. -/
def drZ (x y : Int) : Int := zv (decide (x.sign * y.sign < 0)) ((x.natAbs + x.natAbs + y.natAbs) / (y.natAbs + y.natAbs))
theorem quo_num2 {X C q r : Nat} (hC : 0 < C) (hX : C * q + r = X) (hr : r < C) : (X + X + C) / (C + C) = if C ≤ r * 2 then q + 1 else q := by
  have e : X + X + C = (C + C) * q + (2 * r + C) := by rw [← hX, Nat.add_mul]; omega
  rw [e, Nat.mul_add_div (by omega)]
  split
  · rw [show (2 * r + C) / (C + C) = 1 from ?_]
    rw [Nat.div_eq_iff (by omega)]
    omega
  · rw [show (2 * r + C) / (C + C) = 0 from Nat.div_eq_of_lt (by omega)]
    rfl
theorem sign_prod (s t : Bool) (K L : Nat) : decide ((zv s K).sign * (zv t L).sign < 0) = ((s != t) && decide (0 < K) && decide (0 < L)) := by
  rw [Bool.eq_iff_iff, decide_eq_true_iff, opp_iff]
  cases s <;> cases t <;> simp [zv] <;> omega
theorem sign_prod_abs (x y : Int) : x.sign * y.sign = -1 ∨ x.sign * y.sign = 0 ∨ x.sign * y.sign = 1 := by
  rcases sign_abs x with h | h | h <;> rcases sign_abs y with h' | h' | h' <;> rw [h, h'] <;> simp
/-- Quotient and remainder are answered, each in a row of its own. -/
def DmZ (w : World) (q r : Int) (e : Ending) (w' : World) : Prop := ∃ a1 c1 a2 c2, e = .returned (.tuple #[.agg #[.bool (decide (q < 0)), .slice a1 (canon q.natAbs).length c1], .agg #[.bool (decide (r < 0)), .slice a2 (canon r.natAbs).length c2], .int .i64 0]) ∧
  w'.ownsRow w.heap.size 49 1 (.slice a1 (canon q.natAbs).length c1) (canon q.natAbs).length (bv32 (canon q.natAbs)) ∧ w'.ownsRow w.heap.size 49 1 (.slice a2 (canon r.natAbs).length c2) (canon r.natAbs).length (bv32 (canon r.natAbs)) ∧ Below w.heap.size w w'
theorem fit_abs {l : List (BitVec 32)} {n : Nat} (h : l.length ≤ n) : (canon (valD l)).length ≤ n := by rw [canon_val]; exact Nat.le_trans (trim_len_le l) h
theorem canon_mono {x y n : Nat} (h : x ≤ y) (hy : (canon y).length ≤ n) : (canon x).length ≤ n := by rw [canon_len_le] at hy ⊢; omega
theorem canon_succ {x n : Nat} (hy : (canon x).length ≤ n) : (canon (x + 1)).length ≤ n + 1 := by
  rw [canon_len_le] at hy ⊢
  rw [pw_succ]
  have : 1 ≤ pw n := Nat.one_le_iff_ne_zero.2 (by have := pw_mono (Nat.zero_le n); rw [pw_zero] at this; omega)
  omega
theorem val_one : valD [1#32] = 1 := by simp [valD_cons, valD_nil]
set_option maxRecDepth 50000 in
theorem zdm_zero (s t : Bool) (a b : Option Addr) (n c m d : Nat) (l k : List (BitVec 32)) (w : World) (hn : l.length = n) (hm : k.length = m) (hc : n ≤ c) (hd : m ≤ d) (hl : n ≤ 400000) (hl2 : m ≤ 400000) (hr : Rw w a l) (hs : Rw w b k) (hz : valD k = 0) :
    Calls Try.prog 56 #[.agg #[.bool s, .slice a n c], .agg #[.bool t, .slice b m d]] w fun e w' => e = .returned (.tuple #[.agg #[.bool false, .slice none 0 0], .agg #[.bool false, .slice none 0 0], .int .i64 9]) ∧ Below w.heap.size w w' := by
  subst hn hm
  obtain ⟨x, hx⟩ : ∃ x, zv s (valD l) = x := ⟨_, rfl⟩
  obtain ⟨y, hy⟩ : ∃ y, zv t (valD k) = y := ⟨_, rfl⟩
  have Hx := Lib.hid hx
  have Hy := Lib.hid hy
  have Hxa : Hid (valD l = x.natAbs) := by show _ = _; rw [← hx, zv_abs]
  have Hya : Hid (valD k = y.natAbs) := by show _ = _; rw [← hy, zv_abs]
  obtain ⟨sx, hsx⟩ : ∃ v, x.sign = v := ⟨_, rfl⟩
  obtain ⟨sy, hsy⟩ : ∃ v, y.sign = v := ⟨_, rfl⟩
  have Hsx := Lib.hid hsx
  have Hsy := Lib.hid hsy
  have HZ := Lib.hid hz
  clear hx hy hsx hsy hz
  have hb0 := (((Below.alloc (Below.refl w.heap.size w) (Nat.le_refl _) (.cells #[Value.bool s, Value.slice a l.length c] 24)).alloc (by simp) (.cells #[Value.bool t, Value.slice b k.length d] 24)).alloc (by simp; omega) (.cells #[Value.bool false, Value.slice none 0 0] 24)).alloc (by simp; omega) (.cells #[Value.bool false, Value.slice none 0 0] 24)
  have hz0 := hb0.size
  go_enter Try.func56, Try.ntmps56
  go_wp2_with (first | (go_at_call 73; (with_reducible refine (zdec_any s a _ c l _ rfl hc (by omega) (hr.below hb0)).mono ?_); rintro e w1 ⟨a1, c1, l1, rfl, i1, j1, v1, hr1, hc1⟩; have hv1 := Lib.hid v1; clear v1; have k1_q_0 : w1.cell? ⟨(w.heap.size + 1), 0, none⟩ = some (.bool t) := bca hc1; have g1_q_0 : w1.frozen? ⟨(w.heap.size + 1), 0, none⟩ = false := bfa hc1 (v := .bool t); have k1_q_1 : w1.cell? ⟨(w.heap.size + 1), 1, none⟩ = some (.slice b k.length d) := bca hc1; have g1_q_1 : w1.frozen? ⟨(w.heap.size + 1), 1, none⟩ = false := bfa hc1 (v := .slice b k.length d); have x1_q : ¬ (w.heap.size + 1) = w1.heap.size := qne k1_q_0; have y1_q : ¬ w1.heap.size = (w.heap.size + 1) := fun h => qne k1_q_0 h.symm; have q1_q : (w.heap.size + 1) < w1.heap.size := qlt k1_q_0; have k1_r_0 : w1.cell? ⟨(w.heap.size + 1 + 1), 0, none⟩ = some (.bool false) := bca hc1; have g1_r_0 : w1.frozen? ⟨(w.heap.size + 1 + 1), 0, none⟩ = false := bfa hc1 (v := .bool false); have k1_r_1 : w1.cell? ⟨(w.heap.size + 1 + 1), 1, none⟩ = some (.slice none 0 0) := bca hc1; have g1_r_1 : w1.frozen? ⟨(w.heap.size + 1 + 1), 1, none⟩ = false := bfa hc1 (v := .slice none 0 0); have x1_r : ¬ (w.heap.size + 1 + 1) = w1.heap.size := qne k1_r_0; have y1_r : ¬ w1.heap.size = (w.heap.size + 1 + 1) := fun h => qne k1_r_0 h.symm; have q1_r : (w.heap.size + 1 + 1) < w1.heap.size := qlt k1_r_0; have k1_o_0 : w1.cell? ⟨(w.heap.size + 1 + 1 + 1), 0, none⟩ = some (.bool false) := bca hc1; have g1_o_0 : w1.frozen? ⟨(w.heap.size + 1 + 1 + 1), 0, none⟩ = false := bfa hc1 (v := .bool false); have k1_o_1 : w1.cell? ⟨(w.heap.size + 1 + 1 + 1), 1, none⟩ = some (.slice none 0 0) := bca hc1; have g1_o_1 : w1.frozen? ⟨(w.heap.size + 1 + 1 + 1), 1, none⟩ = false := bfa hc1 (v := .slice none 0 0); have x1_o : ¬ (w.heap.size + 1 + 1 + 1) = w1.heap.size := qne k1_o_0; have y1_o : ¬ w1.heap.size = (w.heap.size + 1 + 1 + 1) := fun h => qne k1_o_0 h.symm; have q1_o : (w.heap.size + 1 + 1 + 1) < w1.heap.size := qlt k1_o_0; have hbw1 := hb0.trans (hc1.mono hz0); have hz1 := hbw1.size; clear hc1; rw [Hx.out, Hsx.out]) | (go_at_call 73; (with_reducible refine (zdec_any t b _ d k _ rfl hd (by omega) (hs.below hbw1)).mono ?_); rintro e w2 ⟨a2, c2, l2, rfl, i2, j2, v2, hr2, hc2⟩; have hv2 := Lib.hid v2; clear v2; have k2_r_0 : w2.cell? ⟨(w.heap.size + 1 + 1), 0, none⟩ = some (.bool false) := bca hc2; have g2_r_0 : w2.frozen? ⟨(w.heap.size + 1 + 1), 0, none⟩ = false := bfa hc2 (v := .bool false); have k2_r_1 : w2.cell? ⟨(w.heap.size + 1 + 1), 1, none⟩ = some (.slice none 0 0) := bca hc2; have g2_r_1 : w2.frozen? ⟨(w.heap.size + 1 + 1), 1, none⟩ = false := bfa hc2 (v := .slice none 0 0); have x2_r : ¬ (w.heap.size + 1 + 1) = w2.heap.size := qne k2_r_0; have y2_r : ¬ w2.heap.size = (w.heap.size + 1 + 1) := fun h => qne k2_r_0 h.symm; have q2_r : (w.heap.size + 1 + 1) < w2.heap.size := qlt k2_r_0; have k2_o_0 : w2.cell? ⟨(w.heap.size + 1 + 1 + 1), 0, none⟩ = some (.bool false) := bca hc2; have g2_o_0 : w2.frozen? ⟨(w.heap.size + 1 + 1 + 1), 0, none⟩ = false := bfa hc2 (v := .bool false); have k2_o_1 : w2.cell? ⟨(w.heap.size + 1 + 1 + 1), 1, none⟩ = some (.slice none 0 0) := bca hc2; have g2_o_1 : w2.frozen? ⟨(w.heap.size + 1 + 1 + 1), 1, none⟩ = false := bfa hc2 (v := .slice none 0 0); have x2_o : ¬ (w.heap.size + 1 + 1 + 1) = w2.heap.size := qne k2_o_0; have y2_o : ¬ w2.heap.size = (w.heap.size + 1 + 1 + 1) := fun h => qne k2_o_0 h.symm; have q2_o : (w.heap.size + 1 + 1 + 1) < w2.heap.size := qlt k2_o_0; have hr12 := hr1.below hc2; have hbw2 := hbw1.trans (hc2.mono hz1); have hz2 := hbw2.size; clear hc2; rw [Hy.out, Hsy.out]) | (go_at_call 75; (with_reducible refine (ndm_zero a1 a2 _ c1 _ c2 l1 l2 _ rfl rfl i1 i2 (by omega) (by omega) hr12 hr2 (by rw [hv2.out]; exact HZ.out)).mono ?_); rintro e w3 ⟨rfl, rfl⟩))
  refine bodyPost_ret (v := .tuple #[.agg #[.bool false, .slice none 0 0], .agg #[.bool false, .slice none 0 0], .int .i64 9]) (by simp [results, Try.results56, go_sem, *]) rfl ?_
  exact ⟨rfl, ((((hbw2).setCell (by simp; omega) _).setCell (by simp; omega) _).setCell (by simp; omega) _).setCell (by simp; omega) _⟩
set_option maxRecDepth 50000 in
theorem zdr_zero (s t : Bool) (a b : Option Addr) (n c m d : Nat) (l k : List (BitVec 32)) (w : World) (hn : l.length = n) (hm : k.length = m) (hc : n ≤ c) (hd : m ≤ d) (hl : n ≤ 400000) (hl2 : m ≤ 400000) (hr : Rw w a l) (hs : Rw w b k) (hz : valD k = 0) :
    Calls Try.prog 58 #[.agg #[.bool s, .slice a n c], .agg #[.bool t, .slice b m d]] w fun e w' => e = .returned (.tuple #[.agg #[.bool false, .slice none 0 0], .int .i64 9]) ∧ Below w.heap.size w w' := by
  subst hn hm
  obtain ⟨x, hx⟩ : ∃ x, zv s (valD l) = x := ⟨_, rfl⟩
  obtain ⟨y, hy⟩ : ∃ y, zv t (valD k) = y := ⟨_, rfl⟩
  have Hx := Lib.hid hx
  have Hy := Lib.hid hy
  have Hxa : Hid (valD l = x.natAbs) := by show _ = _; rw [← hx, zv_abs]
  have Hya : Hid (valD k = y.natAbs) := by show _ = _; rw [← hy, zv_abs]
  obtain ⟨sx, hsx⟩ : ∃ v, x.sign = v := ⟨_, rfl⟩
  obtain ⟨sy, hsy⟩ : ∃ v, y.sign = v := ⟨_, rfl⟩
  have Hsx := Lib.hid hsx
  have Hsy := Lib.hid hsy
  have HZ := Lib.hid hz
  clear hx hy hsx hsy hz
  have hb0 := ((Below.alloc (Below.refl w.heap.size w) (Nat.le_refl _) (.cells #[Value.bool s, Value.slice a l.length c] 24)).alloc (by simp) (.cells #[Value.bool t, Value.slice b k.length d] 24)).alloc (by simp; omega) (.cells #[Value.bool false, Value.slice none 0 0] 24)
  have hz0 := hb0.size
  go_enter Try.func58, Try.ntmps58
  go_wp2_with (first | (go_at_call 73; (with_reducible refine (zdec_any s a _ c l _ rfl hc (by omega) (hr.below hb0)).mono ?_); rintro e w1 ⟨a1, c1, l1, rfl, i1, j1, v1, hr1, hc1⟩; have hv1 := Lib.hid v1; clear v1; have k1_q_0 : w1.cell? ⟨(w.heap.size + 1), 0, none⟩ = some (.bool t) := bca hc1; have g1_q_0 : w1.frozen? ⟨(w.heap.size + 1), 0, none⟩ = false := bfa hc1 (v := .bool t); have k1_q_1 : w1.cell? ⟨(w.heap.size + 1), 1, none⟩ = some (.slice b k.length d) := bca hc1; have g1_q_1 : w1.frozen? ⟨(w.heap.size + 1), 1, none⟩ = false := bfa hc1 (v := .slice b k.length d); have x1_q : ¬ (w.heap.size + 1) = w1.heap.size := qne k1_q_0; have y1_q : ¬ w1.heap.size = (w.heap.size + 1) := fun h => qne k1_q_0 h.symm; have q1_q : (w.heap.size + 1) < w1.heap.size := qlt k1_q_0; have k1_r_0 : w1.cell? ⟨(w.heap.size + 1 + 1), 0, none⟩ = some (.bool false) := bca hc1; have g1_r_0 : w1.frozen? ⟨(w.heap.size + 1 + 1), 0, none⟩ = false := bfa hc1 (v := .bool false); have k1_r_1 : w1.cell? ⟨(w.heap.size + 1 + 1), 1, none⟩ = some (.slice none 0 0) := bca hc1; have g1_r_1 : w1.frozen? ⟨(w.heap.size + 1 + 1), 1, none⟩ = false := bfa hc1 (v := .slice none 0 0); have x1_r : ¬ (w.heap.size + 1 + 1) = w1.heap.size := qne k1_r_0; have y1_r : ¬ w1.heap.size = (w.heap.size + 1 + 1) := fun h => qne k1_r_0 h.symm; have q1_r : (w.heap.size + 1 + 1) < w1.heap.size := qlt k1_r_0; have hbw1 := hb0.trans (hc1.mono hz0); have hz1 := hbw1.size; clear hc1; rw [Hx.out, Hsx.out]) | (go_at_call 73; (with_reducible refine (zdec_any t b _ d k _ rfl hd (by omega) (hs.below hbw1)).mono ?_); rintro e w2 ⟨a2, c2, l2, rfl, i2, j2, v2, hr2, hc2⟩; have hv2 := Lib.hid v2; clear v2; have k2_r_0 : w2.cell? ⟨(w.heap.size + 1 + 1), 0, none⟩ = some (.bool false) := bca hc2; have g2_r_0 : w2.frozen? ⟨(w.heap.size + 1 + 1), 0, none⟩ = false := bfa hc2 (v := .bool false); have k2_r_1 : w2.cell? ⟨(w.heap.size + 1 + 1), 1, none⟩ = some (.slice none 0 0) := bca hc2; have g2_r_1 : w2.frozen? ⟨(w.heap.size + 1 + 1), 1, none⟩ = false := bfa hc2 (v := .slice none 0 0); have x2_r : ¬ (w.heap.size + 1 + 1) = w2.heap.size := qne k2_r_0; have y2_r : ¬ w2.heap.size = (w.heap.size + 1 + 1) := fun h => qne k2_r_0 h.symm; have q2_r : (w.heap.size + 1 + 1) < w2.heap.size := qlt k2_r_0; have hr12 := hr1.below hc2; have hbw2 := hbw1.trans (hc2.mono hz1); have hz2 := hbw2.size; clear hc2; rw [Hy.out, Hsy.out]) | (go_at_call 75; (with_reducible refine (ndm_zero a1 a2 _ c1 _ c2 l1 l2 _ rfl rfl i1 i2 (by omega) (by omega) hr12 hr2 (by rw [hv2.out]; exact HZ.out)).mono ?_); rintro e w3 ⟨rfl, rfl⟩))
  refine bodyPost_ret (v := .tuple #[.agg #[.bool false, .slice none 0 0], .int .i64 9]) (by simp [results, Try.results58, go_sem, *]) rfl ?_
  exact ⟨rfl, ((hbw2).setCell (by simp; omega) _).setCell (by simp; omega) _⟩
end Go.Proofs.Ytcofiekfhnfjpaa

/- Z7 -/
namespace Go.Proofs.Ytcofiekfhnfjpaa
open Go.RowKit
set_option linter.unusedVariables false
set_option linter.unusedSimpArgs false
attribute [local go_sem ↓] Go.wp_at_zero Go.wp_at_succ
set_option maxRecDepth 50000 in
set_option maxHeartbeats 1000000 in
theorem zdm_any (s t : Bool) (a b : Option Addr) (n c m d : Nat) (l k : List (BitVec 32)) (w : World) (hn : l.length = n) (hm : k.length = m) (hc : n ≤ c) (hd : m ≤ d) (hl : n ≤ 400000) (hl2 : m ≤ 400000) (hr : Rw w a l) (hs : Rw w b k) (hpos : 0 < valD k) :
    Calls Try.prog 56 #[.agg #[.bool s, .slice a n c], .agg #[.bool t, .slice b m d]] w (DmZ w ((zv s (valD l)).fdiv (zv t (valD k))) ((zv s (valD l)).fmod (zv t (valD k)))) := by
  subst hn hm
  obtain ⟨x, hx⟩ : ∃ x, zv s (valD l) = x := ⟨_, rfl⟩
  obtain ⟨y, hy⟩ : ∃ y, zv t (valD k) = y := ⟨_, rfl⟩
  have Hx := Lib.hid hx
  have Hy := Lib.hid hy
  have Hxa : Hid (valD l = x.natAbs) := by show _ = _; rw [← hx, zv_abs]
  have Hya : Hid (valD k = y.natAbs) := by show _ = _; rw [← hy, zv_abs]
  obtain ⟨sx, hsx⟩ : ∃ v, x.sign = v := ⟨_, rfl⟩
  obtain ⟨sy, hsy⟩ : ∃ v, y.sign = v := ⟨_, rfl⟩
  have Hsx := Lib.hid hsx
  have Hsy := Lib.hid hsy
  have hyp : 0 < y.natAbs := by rw [← Hya.out]; exact hpos
  have HYP := Lib.hid hyp
  obtain ⟨Q, hQ⟩ : ∃ Q, x.natAbs / y.natAbs = Q := ⟨_, rfl⟩
  obtain ⟨M, hM⟩ : ∃ M, x.natAbs % y.natAbs = M := ⟨_, rfl⟩
  have HQ := Lib.hid hQ
  have HM := Lib.hid hM
  obtain ⟨T, hT⟩ := ex_canon Q
  obtain ⟨U, hU⟩ := ex_canon M
  have VT : Hid (valD T = Q) := by show _ = _; rw [← hT.out, valD_canon]
  have VU : Hid (valD U = M) := by show _ = _; rw [← hU.out, valD_canon]
  have fx : (canon x.natAbs).length ≤ 400000 := by rw [← Hxa.out]; exact fit_abs hl
  have fy : (canon y.natAbs).length ≤ 400000 := by rw [← Hya.out]; exact fit_abs hl2
  have fT : T.length ≤ 400000 := by rw [← hT.out, ← hQ]; exact canon_mono (Nat.div_le_self _ _) fx
  have fU : U.length ≤ 400000 := by rw [← hU.out, ← hM]; exact canon_mono (Nat.mod_le _ _) fx
  have hMY : Hid (M < y.natAbs) := by show _ < _; rw [← hM]; exact Nat.mod_lt _ hyp
  have hw : IntKind.i64.wrap (sx * sy) = sx * sy := by
    have := sign_prod_abs x y
    rw [hsx, hsy] at this
    rw [IntKind.wrap_i64]; rcases this with h | h | h <;> rw [h] <;> rfl
  obtain ⟨σ, hσ⟩ : ∃ σ, decide (sx * sy < 0) = σ := ⟨_, rfl⟩
  obtain ⟨τ, hτ⟩ : ∃ τ, decide (y < 0) = τ := ⟨_, rfl⟩
  have hτ2 : decide (sy < 0) = τ := by
    rw [← hτ, ← hsy, sign_ite, Bool.eq_iff_iff, decide_eq_true_iff, decide_eq_true_iff]
    split
    · omega
    · split <;> omega
  have Hσ : Hid (decide (x.sign * y.sign < 0) = σ) := by show _ = _; rw [hsx, hsy]; exact hσ
  have Hτ := Lib.hid hτ
  have Hmag := Lib.hid (And.intro Hx.out Hy.out)
  rw [hx, hy]
  have hy0 : y ≠ 0 := by omega
  have hb0 := (((Below.alloc (Below.refl w.heap.size w) (Nat.le_refl _) (.cells #[Value.bool s, Value.slice a l.length c] 24)).alloc (by simp) (.cells #[Value.bool t, Value.slice b k.length d] 24)).alloc (by simp; omega) (.cells #[Value.bool false, Value.slice none 0 0] 24)).alloc (by simp; omega) (.cells #[Value.bool false, Value.slice none 0 0] 24)
  have hz0 := hb0.size
  cases hσe : σ
  · have HA : Hid (x.fdiv y = zv false (valD T) ∧ x.fmod y = zv τ (valD U)) := by
      have := fdm_same hy0 (by have := Hσ.out; rw [hσe] at this; simpa using this)
      rw [hQ, hM, hτ] at this
      rw [VT.out, VU.out]; exact this
    rw [hσe] at hσ
    clear hx hy hsx hsy hQ hM hτ hyp hy0 hpos hσe
    go_enter Try.func56, Try.ntmps56
    go_wp2_with (first | (go_at_call 73; (with_reducible refine (zdec_any s a _ c l _ rfl hc (by omega) (hr.below hb0)).mono ?_); rintro e w1 ⟨a1, c1, l1, rfl, i1, j1, v1, hr1, hc1⟩; have hv1 := Lib.hid v1; clear v1; have k1_q_0 : w1.cell? ⟨(w.heap.size + 1), 0, none⟩ = some (.bool t) := bca hc1; have g1_q_0 : w1.frozen? ⟨(w.heap.size + 1), 0, none⟩ = false := bfa hc1 (v := .bool t); have k1_q_1 : w1.cell? ⟨(w.heap.size + 1), 1, none⟩ = some (.slice b k.length d) := bca hc1; have g1_q_1 : w1.frozen? ⟨(w.heap.size + 1), 1, none⟩ = false := bfa hc1 (v := .slice b k.length d); have x1_q : ¬ (w.heap.size + 1) = w1.heap.size := qne k1_q_0; have y1_q : ¬ w1.heap.size = (w.heap.size + 1) := fun h => qne k1_q_0 h.symm; have q1_q : (w.heap.size + 1) < w1.heap.size := qlt k1_q_0; have k1_r_0 : w1.cell? ⟨(w.heap.size + 1 + 1), 0, none⟩ = some (.bool false) := bca hc1; have g1_r_0 : w1.frozen? ⟨(w.heap.size + 1 + 1), 0, none⟩ = false := bfa hc1 (v := .bool false); have k1_r_1 : w1.cell? ⟨(w.heap.size + 1 + 1), 1, none⟩ = some (.slice none 0 0) := bca hc1; have g1_r_1 : w1.frozen? ⟨(w.heap.size + 1 + 1), 1, none⟩ = false := bfa hc1 (v := .slice none 0 0); have x1_r : ¬ (w.heap.size + 1 + 1) = w1.heap.size := qne k1_r_0; have y1_r : ¬ w1.heap.size = (w.heap.size + 1 + 1) := fun h => qne k1_r_0 h.symm; have q1_r : (w.heap.size + 1 + 1) < w1.heap.size := qlt k1_r_0; have k1_o_0 : w1.cell? ⟨(w.heap.size + 1 + 1 + 1), 0, none⟩ = some (.bool false) := bca hc1; have g1_o_0 : w1.frozen? ⟨(w.heap.size + 1 + 1 + 1), 0, none⟩ = false := bfa hc1 (v := .bool false); have k1_o_1 : w1.cell? ⟨(w.heap.size + 1 + 1 + 1), 1, none⟩ = some (.slice none 0 0) := bca hc1; have g1_o_1 : w1.frozen? ⟨(w.heap.size + 1 + 1 + 1), 1, none⟩ = false := bfa hc1 (v := .slice none 0 0); have x1_o : ¬ (w.heap.size + 1 + 1 + 1) = w1.heap.size := qne k1_o_0; have y1_o : ¬ w1.heap.size = (w.heap.size + 1 + 1 + 1) := fun h => qne k1_o_0 h.symm; have q1_o : (w.heap.size + 1 + 1 + 1) < w1.heap.size := qlt k1_o_0; have hbw1 := hb0.trans (hc1.mono hz0); have hz1 := hbw1.size; clear hc1; rw [Hx.out, Hsx.out]) | (go_at_call 73; (with_reducible refine (zdec_any t b _ d k _ rfl hd (by omega) (hs.below hbw1)).mono ?_); rintro e w2 ⟨a2, c2, l2, rfl, i2, j2, v2, hr2, hc2⟩; have hv2 := Lib.hid v2; clear v2; have k2_r_0 : w2.cell? ⟨(w.heap.size + 1 + 1), 0, none⟩ = some (.bool false) := bca hc2; have g2_r_0 : w2.frozen? ⟨(w.heap.size + 1 + 1), 0, none⟩ = false := bfa hc2 (v := .bool false); have k2_r_1 : w2.cell? ⟨(w.heap.size + 1 + 1), 1, none⟩ = some (.slice none 0 0) := bca hc2; have g2_r_1 : w2.frozen? ⟨(w.heap.size + 1 + 1), 1, none⟩ = false := bfa hc2 (v := .slice none 0 0); have x2_r : ¬ (w.heap.size + 1 + 1) = w2.heap.size := qne k2_r_0; have y2_r : ¬ w2.heap.size = (w.heap.size + 1 + 1) := fun h => qne k2_r_0 h.symm; have q2_r : (w.heap.size + 1 + 1) < w2.heap.size := qlt k2_r_0; have k2_o_0 : w2.cell? ⟨(w.heap.size + 1 + 1 + 1), 0, none⟩ = some (.bool false) := bca hc2; have g2_o_0 : w2.frozen? ⟨(w.heap.size + 1 + 1 + 1), 0, none⟩ = false := bfa hc2 (v := .bool false); have k2_o_1 : w2.cell? ⟨(w.heap.size + 1 + 1 + 1), 1, none⟩ = some (.slice none 0 0) := bca hc2; have g2_o_1 : w2.frozen? ⟨(w.heap.size + 1 + 1 + 1), 1, none⟩ = false := bfa hc2 (v := .slice none 0 0); have x2_o : ¬ (w.heap.size + 1 + 1 + 1) = w2.heap.size := qne k2_o_0; have y2_o : ¬ w2.heap.size = (w.heap.size + 1 + 1 + 1) := fun h => qne k2_o_0 h.symm; have q2_o : (w.heap.size + 1 + 1 + 1) < w2.heap.size := qlt k2_o_0; have hr12 := hr1.below hc2; have hbw2 := hbw1.trans (hc2.mono hz1); have hz2 := hbw2.size; clear hc2; rw [Hy.out, Hsy.out]) | (go_at_call 75; (with_reducible refine (ndm_any a1 a2 _ c1 _ c2 l1 l2 _ rfl rfl i1 i2 (by omega) (by omega) hr12 hr2 (by rw [hv2.out, Hya.out]; exact HYP.out)).mono ?_); rintro e w3 ⟨a3, c3, ar, cr, rfl, hca3, hcar, hr3, hrr, hc3⟩; have k3_r_0 : w3.cell? ⟨(w.heap.size + 1 + 1), 0, none⟩ = some (.bool false) := bca hc3; have g3_r_0 : w3.frozen? ⟨(w.heap.size + 1 + 1), 0, none⟩ = false := bfa hc3 (v := .bool false); have k3_r_1 : w3.cell? ⟨(w.heap.size + 1 + 1), 1, none⟩ = some (.slice none 0 0) := bca hc3; have g3_r_1 : w3.frozen? ⟨(w.heap.size + 1 + 1), 1, none⟩ = false := bfa hc3 (v := .slice none 0 0); have x3_r : ¬ (w.heap.size + 1 + 1) = w3.heap.size := qne k3_r_0; have y3_r : ¬ w3.heap.size = (w.heap.size + 1 + 1) := fun h => qne k3_r_0 h.symm; have q3_r : (w.heap.size + 1 + 1) < w3.heap.size := qlt k3_r_0; have k3_o_0 : w3.cell? ⟨(w.heap.size + 1 + 1 + 1), 0, none⟩ = some (.bool false) := bca hc3; have g3_o_0 : w3.frozen? ⟨(w.heap.size + 1 + 1 + 1), 0, none⟩ = false := bfa hc3 (v := .bool false); have k3_o_1 : w3.cell? ⟨(w.heap.size + 1 + 1 + 1), 1, none⟩ = some (.slice none 0 0) := bca hc3; have g3_o_1 : w3.frozen? ⟨(w.heap.size + 1 + 1 + 1), 1, none⟩ = false := bfa hc3 (v := .slice none 0 0); have x3_o : ¬ (w.heap.size + 1 + 1 + 1) = w3.heap.size := qne k3_o_0; have y3_o : ¬ w3.heap.size = (w.heap.size + 1 + 1 + 1) := fun h => qne k3_o_0 h.symm; have q3_o : (w.heap.size + 1 + 1 + 1) < w3.heap.size := qlt k3_o_0; have hr23 := hr2.below hc3; have hr3' := hr3.1; have hrr' := hrr.1; have hbw3 := hbw2.trans (hc3.mono hz2); have hz3 := hbw3.size; clear hc3 hr3 hrr; rw [hv1.out, hv2.out, Hxa.out, Hya.out, HQ.out, hT.out] at hr3' hca3; rw [hv1.out, hv2.out, Hxa.out, Hya.out, HM.out, hU.out] at hrr' hcar; rw [hv1.out, hv2.out, Hxa.out, Hya.out, HQ.out, HM.out, hT.out, hU.out]) | (go_at_call 76; (with_reducible refine (znew_any false a3 _ c3 T _ rfl hca3 (by omega) hr3').mono ?_); rintro e w4 ⟨a4, c4, rfl, hr4, hc4⟩; have k4_r_0 : w4.cell? ⟨(w.heap.size + 1 + 1), 0, none⟩ = some (.bool false) := bca hc4; have g4_r_0 : w4.frozen? ⟨(w.heap.size + 1 + 1), 0, none⟩ = false := bfa hc4 (v := .bool false); have k4_r_1 : w4.cell? ⟨(w.heap.size + 1 + 1), 1, none⟩ = some (.slice none 0 0) := bca hc4; have g4_r_1 : w4.frozen? ⟨(w.heap.size + 1 + 1), 1, none⟩ = false := bfa hc4 (v := .slice none 0 0); have x4_r : ¬ (w.heap.size + 1 + 1) = w4.heap.size := qne k4_r_0; have y4_r : ¬ w4.heap.size = (w.heap.size + 1 + 1) := fun h => qne k4_r_0 h.symm; have q4_r : (w.heap.size + 1 + 1) < w4.heap.size := qlt k4_r_0; have k4_o_0 : w4.cell? ⟨(w.heap.size + 1 + 1 + 1), 0, none⟩ = some (.bool false) := bca hc4; have g4_o_0 : w4.frozen? ⟨(w.heap.size + 1 + 1 + 1), 0, none⟩ = false := bfa hc4 (v := .bool false); have k4_o_1 : w4.cell? ⟨(w.heap.size + 1 + 1 + 1), 1, none⟩ = some (.slice none 0 0) := bca hc4; have g4_o_1 : w4.frozen? ⟨(w.heap.size + 1 + 1 + 1), 1, none⟩ = false := bfa hc4 (v := .slice none 0 0); have x4_o : ¬ (w.heap.size + 1 + 1 + 1) = w4.heap.size := qne k4_o_0; have y4_o : ¬ w4.heap.size = (w.heap.size + 1 + 1 + 1) := fun h => qne k4_o_0 h.symm; have q4_o : (w.heap.size + 1 + 1 + 1) < w4.heap.size := qlt k4_o_0; have hru4 := hrr'.below hc4; have hbw4 := hbw3.trans (hc4.mono hz3); have hz4 := hbw4.size; clear hc4) | (go_at_call 76; (with_reducible refine (znew_any τ ar _ cr U _ rfl hcar (by omega) hru4).mono ?_); rintro e w5 ⟨a5, c5, rfl, hr5, hc5⟩; have k5_r_0 : w5.cell? ⟨(w.heap.size + 1 + 1), 0, none⟩ = some (.bool false) := bca hc5; have g5_r_0 : w5.frozen? ⟨(w.heap.size + 1 + 1), 0, none⟩ = false := bfa hc5 (v := .bool false); have k5_r_1 : w5.cell? ⟨(w.heap.size + 1 + 1), 1, none⟩ = some (.slice none 0 0) := bca hc5; have g5_r_1 : w5.frozen? ⟨(w.heap.size + 1 + 1), 1, none⟩ = false := bfa hc5 (v := .slice none 0 0); have x5_r : ¬ (w.heap.size + 1 + 1) = w5.heap.size := qne k5_r_0; have y5_r : ¬ w5.heap.size = (w.heap.size + 1 + 1) := fun h => qne k5_r_0 h.symm; have q5_r : (w.heap.size + 1 + 1) < w5.heap.size := qlt k5_r_0; have k5_o_0 : w5.cell? ⟨(w.heap.size + 1 + 1 + 1), 0, none⟩ = some (.bool false) := bca hc5; have g5_o_0 : w5.frozen? ⟨(w.heap.size + 1 + 1 + 1), 0, none⟩ = false := bfa hc5 (v := .bool false); have k5_o_1 : w5.cell? ⟨(w.heap.size + 1 + 1 + 1), 1, none⟩ = some (.slice none 0 0) := bca hc5; have g5_o_1 : w5.frozen? ⟨(w.heap.size + 1 + 1 + 1), 1, none⟩ = false := bfa hc5 (v := .slice none 0 0); have x5_o : ¬ (w.heap.size + 1 + 1 + 1) = w5.heap.size := qne k5_o_0; have y5_o : ¬ w5.heap.size = (w.heap.size + 1 + 1 + 1) := fun h => qne k5_o_0 h.symm; have q5_o : (w.heap.size + 1 + 1 + 1) < w5.heap.size := qlt k5_o_0; have hro4 := own_below hr4 hc5; have hbw5 := hbw4.trans (hc5.mono hz4); clear hc5))
    refine bodyPost_ret (v := .tuple #[.agg #[.bool (decide (zv false (valD T) < 0)), .slice a4 (canon (zv false (valD T)).natAbs).length c4], .agg #[.bool (decide (zv τ (valD U) < 0)), .slice a5 (canon (zv τ (valD U)).natAbs).length c5], .int .i64 0]) (by simp [results, Try.results56, go_sem, *]) rfl ?_
    rw [HA.out.1, HA.out.2]
    exact ⟨a4, c4, a5, c5, rfl, own_mono (own_set_other (own_set_other (own_set_other (own_set_other hro4 (by omega) 0 _) (by omega) 1 _) (by omega) 0 _) (by omega) 1 _) hbw3.size, own_mono (own_set_other (own_set_other (own_set_other (own_set_other hr5 (by omega) 0 _) (by omega) 1 _) (by omega) 0 _) (by omega) 1 _) hbw4.size, (((hbw5.setCell (by simp; omega) _).setCell (by simp; omega) _).setCell (by simp; omega) _).setCell (by simp; omega) _⟩
  · have hop : x.sign * y.sign < 0 := by have := Hσ.out; rw [hσe] at this; simpa using this
    rw [hσe] at hσ
    rcases Nat.eq_zero_or_pos M with hm0 | hm0
    · have HA : Hid (x.fdiv y = zv true (valD T) ∧ x.fmod y = zv τ (valD U)) := by
        have := fdm_opp hop Q 0 (.inl ⟨by rw [hM]; exact hm0, hQ.symm, rfl⟩)
        rw [hτ] at this
        rw [VT.out, VU.out, hm0]; exact this
      have hU0 : U.length = 0 := by rw [← hU.out, hm0, canon_zero]; rfl
      have hU1 : decide ((0 : Int) < (U.length : Int)) = false := by rw [decide_eq_false_iff_not]; omega
      have hU2 : decide (0 < U.length) = false := by rw [decide_eq_false_iff_not]; omega
      clear hx hy hsx hsy hQ hM hτ hyp hy0 hpos hσe hop hm0 hU0
      go_enter Try.func56, Try.ntmps56
      go_wp2_with (first | (go_at_call 73; (with_reducible refine (zdec_any s a _ c l _ rfl hc (by omega) (hr.below hb0)).mono ?_); rintro e w1 ⟨a1, c1, l1, rfl, i1, j1, v1, hr1, hc1⟩; have hv1 := Lib.hid v1; clear v1; have k1_q_0 : w1.cell? ⟨(w.heap.size + 1), 0, none⟩ = some (.bool t) := bca hc1; have g1_q_0 : w1.frozen? ⟨(w.heap.size + 1), 0, none⟩ = false := bfa hc1 (v := .bool t); have k1_q_1 : w1.cell? ⟨(w.heap.size + 1), 1, none⟩ = some (.slice b k.length d) := bca hc1; have g1_q_1 : w1.frozen? ⟨(w.heap.size + 1), 1, none⟩ = false := bfa hc1 (v := .slice b k.length d); have x1_q : ¬ (w.heap.size + 1) = w1.heap.size := qne k1_q_0; have y1_q : ¬ w1.heap.size = (w.heap.size + 1) := fun h => qne k1_q_0 h.symm; have q1_q : (w.heap.size + 1) < w1.heap.size := qlt k1_q_0; have k1_r_0 : w1.cell? ⟨(w.heap.size + 1 + 1), 0, none⟩ = some (.bool false) := bca hc1; have g1_r_0 : w1.frozen? ⟨(w.heap.size + 1 + 1), 0, none⟩ = false := bfa hc1 (v := .bool false); have k1_r_1 : w1.cell? ⟨(w.heap.size + 1 + 1), 1, none⟩ = some (.slice none 0 0) := bca hc1; have g1_r_1 : w1.frozen? ⟨(w.heap.size + 1 + 1), 1, none⟩ = false := bfa hc1 (v := .slice none 0 0); have x1_r : ¬ (w.heap.size + 1 + 1) = w1.heap.size := qne k1_r_0; have y1_r : ¬ w1.heap.size = (w.heap.size + 1 + 1) := fun h => qne k1_r_0 h.symm; have q1_r : (w.heap.size + 1 + 1) < w1.heap.size := qlt k1_r_0; have k1_o_0 : w1.cell? ⟨(w.heap.size + 1 + 1 + 1), 0, none⟩ = some (.bool false) := bca hc1; have g1_o_0 : w1.frozen? ⟨(w.heap.size + 1 + 1 + 1), 0, none⟩ = false := bfa hc1 (v := .bool false); have k1_o_1 : w1.cell? ⟨(w.heap.size + 1 + 1 + 1), 1, none⟩ = some (.slice none 0 0) := bca hc1; have g1_o_1 : w1.frozen? ⟨(w.heap.size + 1 + 1 + 1), 1, none⟩ = false := bfa hc1 (v := .slice none 0 0); have x1_o : ¬ (w.heap.size + 1 + 1 + 1) = w1.heap.size := qne k1_o_0; have y1_o : ¬ w1.heap.size = (w.heap.size + 1 + 1 + 1) := fun h => qne k1_o_0 h.symm; have q1_o : (w.heap.size + 1 + 1 + 1) < w1.heap.size := qlt k1_o_0; have hbw1 := hb0.trans (hc1.mono hz0); have hz1 := hbw1.size; clear hc1; rw [Hx.out, Hsx.out]) | (go_at_call 73; (with_reducible refine (zdec_any t b _ d k _ rfl hd (by omega) (hs.below hbw1)).mono ?_); rintro e w2 ⟨a2, c2, l2, rfl, i2, j2, v2, hr2, hc2⟩; have hv2 := Lib.hid v2; clear v2; have k2_r_0 : w2.cell? ⟨(w.heap.size + 1 + 1), 0, none⟩ = some (.bool false) := bca hc2; have g2_r_0 : w2.frozen? ⟨(w.heap.size + 1 + 1), 0, none⟩ = false := bfa hc2 (v := .bool false); have k2_r_1 : w2.cell? ⟨(w.heap.size + 1 + 1), 1, none⟩ = some (.slice none 0 0) := bca hc2; have g2_r_1 : w2.frozen? ⟨(w.heap.size + 1 + 1), 1, none⟩ = false := bfa hc2 (v := .slice none 0 0); have x2_r : ¬ (w.heap.size + 1 + 1) = w2.heap.size := qne k2_r_0; have y2_r : ¬ w2.heap.size = (w.heap.size + 1 + 1) := fun h => qne k2_r_0 h.symm; have q2_r : (w.heap.size + 1 + 1) < w2.heap.size := qlt k2_r_0; have k2_o_0 : w2.cell? ⟨(w.heap.size + 1 + 1 + 1), 0, none⟩ = some (.bool false) := bca hc2; have g2_o_0 : w2.frozen? ⟨(w.heap.size + 1 + 1 + 1), 0, none⟩ = false := bfa hc2 (v := .bool false); have k2_o_1 : w2.cell? ⟨(w.heap.size + 1 + 1 + 1), 1, none⟩ = some (.slice none 0 0) := bca hc2; have g2_o_1 : w2.frozen? ⟨(w.heap.size + 1 + 1 + 1), 1, none⟩ = false := bfa hc2 (v := .slice none 0 0); have x2_o : ¬ (w.heap.size + 1 + 1 + 1) = w2.heap.size := qne k2_o_0; have y2_o : ¬ w2.heap.size = (w.heap.size + 1 + 1 + 1) := fun h => qne k2_o_0 h.symm; have q2_o : (w.heap.size + 1 + 1 + 1) < w2.heap.size := qlt k2_o_0; have hr12 := hr1.below hc2; have hbw2 := hbw1.trans (hc2.mono hz1); have hz2 := hbw2.size; clear hc2; rw [Hy.out, Hsy.out]) | (go_at_call 75; (with_reducible refine (ndm_any a1 a2 _ c1 _ c2 l1 l2 _ rfl rfl i1 i2 (by omega) (by omega) hr12 hr2 (by rw [hv2.out, Hya.out]; exact HYP.out)).mono ?_); rintro e w3 ⟨a3, c3, ar, cr, rfl, hca3, hcar, hr3, hrr, hc3⟩; have k3_r_0 : w3.cell? ⟨(w.heap.size + 1 + 1), 0, none⟩ = some (.bool false) := bca hc3; have g3_r_0 : w3.frozen? ⟨(w.heap.size + 1 + 1), 0, none⟩ = false := bfa hc3 (v := .bool false); have k3_r_1 : w3.cell? ⟨(w.heap.size + 1 + 1), 1, none⟩ = some (.slice none 0 0) := bca hc3; have g3_r_1 : w3.frozen? ⟨(w.heap.size + 1 + 1), 1, none⟩ = false := bfa hc3 (v := .slice none 0 0); have x3_r : ¬ (w.heap.size + 1 + 1) = w3.heap.size := qne k3_r_0; have y3_r : ¬ w3.heap.size = (w.heap.size + 1 + 1) := fun h => qne k3_r_0 h.symm; have q3_r : (w.heap.size + 1 + 1) < w3.heap.size := qlt k3_r_0; have k3_o_0 : w3.cell? ⟨(w.heap.size + 1 + 1 + 1), 0, none⟩ = some (.bool false) := bca hc3; have g3_o_0 : w3.frozen? ⟨(w.heap.size + 1 + 1 + 1), 0, none⟩ = false := bfa hc3 (v := .bool false); have k3_o_1 : w3.cell? ⟨(w.heap.size + 1 + 1 + 1), 1, none⟩ = some (.slice none 0 0) := bca hc3; have g3_o_1 : w3.frozen? ⟨(w.heap.size + 1 + 1 + 1), 1, none⟩ = false := bfa hc3 (v := .slice none 0 0); have x3_o : ¬ (w.heap.size + 1 + 1 + 1) = w3.heap.size := qne k3_o_0; have y3_o : ¬ w3.heap.size = (w.heap.size + 1 + 1 + 1) := fun h => qne k3_o_0 h.symm; have q3_o : (w.heap.size + 1 + 1 + 1) < w3.heap.size := qlt k3_o_0; have hr23 := hr2.below hc3; have hr3' := hr3.1; have hrr' := hrr.1; have hbw3 := hbw2.trans (hc3.mono hz2); have hz3 := hbw3.size; clear hc3 hr3 hrr; rw [hv1.out, hv2.out, Hxa.out, Hya.out, HQ.out, hT.out] at hr3' hca3; rw [hv1.out, hv2.out, Hxa.out, Hya.out, HM.out, hU.out] at hrr' hcar; rw [hv1.out, hv2.out, Hxa.out, Hya.out, HQ.out, HM.out, hT.out, hU.out]) | (go_at_call 76; (with_reducible refine (znew_any true a3 _ c3 T _ rfl hca3 (by omega) hr3').mono ?_); rintro e w4 ⟨a4, c4, rfl, hr4, hc4⟩; have k4_r_0 : w4.cell? ⟨(w.heap.size + 1 + 1), 0, none⟩ = some (.bool false) := bca hc4; have g4_r_0 : w4.frozen? ⟨(w.heap.size + 1 + 1), 0, none⟩ = false := bfa hc4 (v := .bool false); have k4_r_1 : w4.cell? ⟨(w.heap.size + 1 + 1), 1, none⟩ = some (.slice none 0 0) := bca hc4; have g4_r_1 : w4.frozen? ⟨(w.heap.size + 1 + 1), 1, none⟩ = false := bfa hc4 (v := .slice none 0 0); have x4_r : ¬ (w.heap.size + 1 + 1) = w4.heap.size := qne k4_r_0; have y4_r : ¬ w4.heap.size = (w.heap.size + 1 + 1) := fun h => qne k4_r_0 h.symm; have q4_r : (w.heap.size + 1 + 1) < w4.heap.size := qlt k4_r_0; have k4_o_0 : w4.cell? ⟨(w.heap.size + 1 + 1 + 1), 0, none⟩ = some (.bool false) := bca hc4; have g4_o_0 : w4.frozen? ⟨(w.heap.size + 1 + 1 + 1), 0, none⟩ = false := bfa hc4 (v := .bool false); have k4_o_1 : w4.cell? ⟨(w.heap.size + 1 + 1 + 1), 1, none⟩ = some (.slice none 0 0) := bca hc4; have g4_o_1 : w4.frozen? ⟨(w.heap.size + 1 + 1 + 1), 1, none⟩ = false := bfa hc4 (v := .slice none 0 0); have x4_o : ¬ (w.heap.size + 1 + 1 + 1) = w4.heap.size := qne k4_o_0; have y4_o : ¬ w4.heap.size = (w.heap.size + 1 + 1 + 1) := fun h => qne k4_o_0 h.symm; have q4_o : (w.heap.size + 1 + 1 + 1) < w4.heap.size := qlt k4_o_0; have hru4 := hrr'.below hc4; have hbw4 := hbw3.trans (hc4.mono hz3); have hz4 := hbw4.size; clear hc4) | (go_at_call 76; (with_reducible refine (znew_any τ ar _ cr U _ rfl hcar (by omega) hru4).mono ?_); rintro e w5 ⟨a5, c5, rfl, hr5, hc5⟩; have k5_r_0 : w5.cell? ⟨(w.heap.size + 1 + 1), 0, none⟩ = some (.bool false) := bca hc5; have g5_r_0 : w5.frozen? ⟨(w.heap.size + 1 + 1), 0, none⟩ = false := bfa hc5 (v := .bool false); have k5_r_1 : w5.cell? ⟨(w.heap.size + 1 + 1), 1, none⟩ = some (.slice none 0 0) := bca hc5; have g5_r_1 : w5.frozen? ⟨(w.heap.size + 1 + 1), 1, none⟩ = false := bfa hc5 (v := .slice none 0 0); have x5_r : ¬ (w.heap.size + 1 + 1) = w5.heap.size := qne k5_r_0; have y5_r : ¬ w5.heap.size = (w.heap.size + 1 + 1) := fun h => qne k5_r_0 h.symm; have q5_r : (w.heap.size + 1 + 1) < w5.heap.size := qlt k5_r_0; have k5_o_0 : w5.cell? ⟨(w.heap.size + 1 + 1 + 1), 0, none⟩ = some (.bool false) := bca hc5; have g5_o_0 : w5.frozen? ⟨(w.heap.size + 1 + 1 + 1), 0, none⟩ = false := bfa hc5 (v := .bool false); have k5_o_1 : w5.cell? ⟨(w.heap.size + 1 + 1 + 1), 1, none⟩ = some (.slice none 0 0) := bca hc5; have g5_o_1 : w5.frozen? ⟨(w.heap.size + 1 + 1 + 1), 1, none⟩ = false := bfa hc5 (v := .slice none 0 0); have x5_o : ¬ (w.heap.size + 1 + 1 + 1) = w5.heap.size := qne k5_o_0; have y5_o : ¬ w5.heap.size = (w.heap.size + 1 + 1 + 1) := fun h => qne k5_o_0 h.symm; have q5_o : (w.heap.size + 1 + 1 + 1) < w5.heap.size := qlt k5_o_0; have hro4 := own_below hr4 hc5; have hbw5 := hbw4.trans (hc5.mono hz4); clear hc5))
      refine bodyPost_ret (v := .tuple #[.agg #[.bool (decide (zv true (valD T) < 0)), .slice a4 (canon (zv true (valD T)).natAbs).length c4], .agg #[.bool (decide (zv τ (valD U) < 0)), .slice a5 (canon (zv τ (valD U)).natAbs).length c5], .int .i64 0]) (by simp [results, Try.results56, go_sem, *]) rfl ?_
      rw [HA.out.1, HA.out.2]
      exact ⟨a4, c4, a5, c5, rfl, own_mono (own_set_other (own_set_other (own_set_other (own_set_other hro4 (by omega) 0 _) (by omega) 1 _) (by omega) 0 _) (by omega) 1 _) hbw3.size, own_mono (own_set_other (own_set_other (own_set_other (own_set_other hr5 (by omega) 0 _) (by omega) 1 _) (by omega) 0 _) (by omega) 1 _) hbw4.size, (((hbw5.setCell (by simp; omega) _).setCell (by simp; omega) _).setCell (by simp; omega) _).setCell (by simp; omega) _⟩
    · obtain ⟨N, hN⟩ := ex_canon (Q + 1)
      obtain ⟨E, hD⟩ := ex_canon (y.natAbs - M)
      have VN : Hid (valD N = Q + 1) := by show _ = _; rw [← hN.out, valD_canon]
      have VE : Hid (valD E = y.natAbs - M) := by show _ = _; rw [← hD.out, valD_canon]
      have fN : N.length ≤ 400001 := by rw [← hN.out]; exact canon_succ (by rw [hT.out]; exact fT)
      have fE : E.length ≤ 400000 := by rw [← hD.out]; exact canon_mono (Nat.sub_le _ _) fy
      have HA : Hid (x.fdiv y = zv true (valD N) ∧ x.fmod y = zv τ (valD E)) := by
        have := fdm_opp hop (Q + 1) (y.natAbs - M) (.inr ⟨by rw [hM]; exact hm0, by rw [hQ], by rw [hM]⟩)
        rw [hτ] at this
        rw [VN.out, VE.out]; exact this
      have hU0 : 0 < U.length := by rw [← hU.out]; exact canon_len_pos hm0
      have hU1 : decide ((0 : Int) < (U.length : Int)) = true := by rw [decide_eq_true_iff]; omega
      have hU2 : decide (0 < U.length) = true := by rw [decide_eq_true_iff]; omega
      clear hx hy hsx hsy hQ hM hτ hyp hy0 hpos hσe hop hm0
      go_enter Try.func56, Try.ntmps56
      go_wp2_with (first | (go_at_call 73; (with_reducible refine (zdec_any s a _ c l _ rfl hc (by omega) (hr.below hb0)).mono ?_); rintro e w1 ⟨a1, c1, l1, rfl, i1, j1, v1, hr1, hc1⟩; have hv1 := Lib.hid v1; clear v1; have k1_q_0 : w1.cell? ⟨(w.heap.size + 1), 0, none⟩ = some (.bool t) := bca hc1; have g1_q_0 : w1.frozen? ⟨(w.heap.size + 1), 0, none⟩ = false := bfa hc1 (v := .bool t); have k1_q_1 : w1.cell? ⟨(w.heap.size + 1), 1, none⟩ = some (.slice b k.length d) := bca hc1; have g1_q_1 : w1.frozen? ⟨(w.heap.size + 1), 1, none⟩ = false := bfa hc1 (v := .slice b k.length d); have x1_q : ¬ (w.heap.size + 1) = w1.heap.size := qne k1_q_0; have y1_q : ¬ w1.heap.size = (w.heap.size + 1) := fun h => qne k1_q_0 h.symm; have q1_q : (w.heap.size + 1) < w1.heap.size := qlt k1_q_0; have k1_r_0 : w1.cell? ⟨(w.heap.size + 1 + 1), 0, none⟩ = some (.bool false) := bca hc1; have g1_r_0 : w1.frozen? ⟨(w.heap.size + 1 + 1), 0, none⟩ = false := bfa hc1 (v := .bool false); have k1_r_1 : w1.cell? ⟨(w.heap.size + 1 + 1), 1, none⟩ = some (.slice none 0 0) := bca hc1; have g1_r_1 : w1.frozen? ⟨(w.heap.size + 1 + 1), 1, none⟩ = false := bfa hc1 (v := .slice none 0 0); have x1_r : ¬ (w.heap.size + 1 + 1) = w1.heap.size := qne k1_r_0; have y1_r : ¬ w1.heap.size = (w.heap.size + 1 + 1) := fun h => qne k1_r_0 h.symm; have q1_r : (w.heap.size + 1 + 1) < w1.heap.size := qlt k1_r_0; have k1_o_0 : w1.cell? ⟨(w.heap.size + 1 + 1 + 1), 0, none⟩ = some (.bool false) := bca hc1; have g1_o_0 : w1.frozen? ⟨(w.heap.size + 1 + 1 + 1), 0, none⟩ = false := bfa hc1 (v := .bool false); have k1_o_1 : w1.cell? ⟨(w.heap.size + 1 + 1 + 1), 1, none⟩ = some (.slice none 0 0) := bca hc1; have g1_o_1 : w1.frozen? ⟨(w.heap.size + 1 + 1 + 1), 1, none⟩ = false := bfa hc1 (v := .slice none 0 0); have x1_o : ¬ (w.heap.size + 1 + 1 + 1) = w1.heap.size := qne k1_o_0; have y1_o : ¬ w1.heap.size = (w.heap.size + 1 + 1 + 1) := fun h => qne k1_o_0 h.symm; have q1_o : (w.heap.size + 1 + 1 + 1) < w1.heap.size := qlt k1_o_0; have hbw1 := hb0.trans (hc1.mono hz0); have hz1 := hbw1.size; clear hc1; rw [Hx.out, Hsx.out]) | (go_at_call 73; (with_reducible refine (zdec_any t b _ d k _ rfl hd (by omega) (hs.below hbw1)).mono ?_); rintro e w2 ⟨a2, c2, l2, rfl, i2, j2, v2, hr2, hc2⟩; have hv2 := Lib.hid v2; clear v2; have k2_r_0 : w2.cell? ⟨(w.heap.size + 1 + 1), 0, none⟩ = some (.bool false) := bca hc2; have g2_r_0 : w2.frozen? ⟨(w.heap.size + 1 + 1), 0, none⟩ = false := bfa hc2 (v := .bool false); have k2_r_1 : w2.cell? ⟨(w.heap.size + 1 + 1), 1, none⟩ = some (.slice none 0 0) := bca hc2; have g2_r_1 : w2.frozen? ⟨(w.heap.size + 1 + 1), 1, none⟩ = false := bfa hc2 (v := .slice none 0 0); have x2_r : ¬ (w.heap.size + 1 + 1) = w2.heap.size := qne k2_r_0; have y2_r : ¬ w2.heap.size = (w.heap.size + 1 + 1) := fun h => qne k2_r_0 h.symm; have q2_r : (w.heap.size + 1 + 1) < w2.heap.size := qlt k2_r_0; have k2_o_0 : w2.cell? ⟨(w.heap.size + 1 + 1 + 1), 0, none⟩ = some (.bool false) := bca hc2; have g2_o_0 : w2.frozen? ⟨(w.heap.size + 1 + 1 + 1), 0, none⟩ = false := bfa hc2 (v := .bool false); have k2_o_1 : w2.cell? ⟨(w.heap.size + 1 + 1 + 1), 1, none⟩ = some (.slice none 0 0) := bca hc2; have g2_o_1 : w2.frozen? ⟨(w.heap.size + 1 + 1 + 1), 1, none⟩ = false := bfa hc2 (v := .slice none 0 0); have x2_o : ¬ (w.heap.size + 1 + 1 + 1) = w2.heap.size := qne k2_o_0; have y2_o : ¬ w2.heap.size = (w.heap.size + 1 + 1 + 1) := fun h => qne k2_o_0 h.symm; have q2_o : (w.heap.size + 1 + 1 + 1) < w2.heap.size := qlt k2_o_0; have hr12 := hr1.below hc2; have hbw2 := hbw1.trans (hc2.mono hz1); have hz2 := hbw2.size; clear hc2; rw [Hy.out, Hsy.out]) | (go_at_call 75; (with_reducible refine (ndm_any a1 a2 _ c1 _ c2 l1 l2 _ rfl rfl i1 i2 (by omega) (by omega) hr12 hr2 (by rw [hv2.out, Hya.out]; exact HYP.out)).mono ?_); rintro e w3 ⟨a3, c3, ar, cr, rfl, hca3, hcar, hr3, hrr, hc3⟩; have k3_r_0 : w3.cell? ⟨(w.heap.size + 1 + 1), 0, none⟩ = some (.bool false) := bca hc3; have g3_r_0 : w3.frozen? ⟨(w.heap.size + 1 + 1), 0, none⟩ = false := bfa hc3 (v := .bool false); have k3_r_1 : w3.cell? ⟨(w.heap.size + 1 + 1), 1, none⟩ = some (.slice none 0 0) := bca hc3; have g3_r_1 : w3.frozen? ⟨(w.heap.size + 1 + 1), 1, none⟩ = false := bfa hc3 (v := .slice none 0 0); have x3_r : ¬ (w.heap.size + 1 + 1) = w3.heap.size := qne k3_r_0; have y3_r : ¬ w3.heap.size = (w.heap.size + 1 + 1) := fun h => qne k3_r_0 h.symm; have q3_r : (w.heap.size + 1 + 1) < w3.heap.size := qlt k3_r_0; have k3_o_0 : w3.cell? ⟨(w.heap.size + 1 + 1 + 1), 0, none⟩ = some (.bool false) := bca hc3; have g3_o_0 : w3.frozen? ⟨(w.heap.size + 1 + 1 + 1), 0, none⟩ = false := bfa hc3 (v := .bool false); have k3_o_1 : w3.cell? ⟨(w.heap.size + 1 + 1 + 1), 1, none⟩ = some (.slice none 0 0) := bca hc3; have g3_o_1 : w3.frozen? ⟨(w.heap.size + 1 + 1 + 1), 1, none⟩ = false := bfa hc3 (v := .slice none 0 0); have x3_o : ¬ (w.heap.size + 1 + 1 + 1) = w3.heap.size := qne k3_o_0; have y3_o : ¬ w3.heap.size = (w.heap.size + 1 + 1 + 1) := fun h => qne k3_o_0 h.symm; have q3_o : (w.heap.size + 1 + 1 + 1) < w3.heap.size := qlt k3_o_0; have hr23 := hr2.below hc3; have hr3' := hr3.1; have hrr' := hrr.1; have hbw3 := hbw2.trans (hc3.mono hz2); have hz3 := hbw3.size; clear hc3 hr3 hrr; rw [hv1.out, hv2.out, Hxa.out, Hya.out, HQ.out, hT.out] at hr3' hca3; rw [hv1.out, hv2.out, Hxa.out, Hya.out, HM.out, hU.out] at hrr' hcar; rw [hv1.out, hv2.out, Hxa.out, Hya.out, HQ.out, HM.out, hT.out, hU.out]) | (go_at_call 89; have hone := Below.alloc (Below.refl w3.heap.size w3) (Nat.le_refl _) (.cells #[Value.int IntKind.u32 1] 49); (with_reducible refine (nadd_any a3 (some ⟨w3.heap.size, 0, none⟩) _ c3 1 1 T [1#32] (w3.alloc (.cells #[Value.int IntKind.u32 1] 49)) rfl rfl hca3 (by decide) (by omega) (by decide) (hr3'.below hone) (Rw.of_alloc rfl rfl)).mono ?_); rintro e w4 ⟨a4, c4, rfl, hca4, hr4, hc4'⟩; have hc4 := hone.trans (hc4'.mono hone.size); have k4_r_0 : w4.cell? ⟨(w.heap.size + 1 + 1), 0, none⟩ = some (.bool false) := bca hc4; have g4_r_0 : w4.frozen? ⟨(w.heap.size + 1 + 1), 0, none⟩ = false := bfa hc4 (v := .bool false); have k4_r_1 : w4.cell? ⟨(w.heap.size + 1 + 1), 1, none⟩ = some (.slice none 0 0) := bca hc4; have g4_r_1 : w4.frozen? ⟨(w.heap.size + 1 + 1), 1, none⟩ = false := bfa hc4 (v := .slice none 0 0); have x4_r : ¬ (w.heap.size + 1 + 1) = w4.heap.size := qne k4_r_0; have y4_r : ¬ w4.heap.size = (w.heap.size + 1 + 1) := fun h => qne k4_r_0 h.symm; have q4_r : (w.heap.size + 1 + 1) < w4.heap.size := qlt k4_r_0; have k4_o_0 : w4.cell? ⟨(w.heap.size + 1 + 1 + 1), 0, none⟩ = some (.bool false) := bca hc4; have g4_o_0 : w4.frozen? ⟨(w.heap.size + 1 + 1 + 1), 0, none⟩ = false := bfa hc4 (v := .bool false); have k4_o_1 : w4.cell? ⟨(w.heap.size + 1 + 1 + 1), 1, none⟩ = some (.slice none 0 0) := bca hc4; have g4_o_1 : w4.frozen? ⟨(w.heap.size + 1 + 1 + 1), 1, none⟩ = false := bfa hc4 (v := .slice none 0 0); have x4_o : ¬ (w.heap.size + 1 + 1 + 1) = w4.heap.size := qne k4_o_0; have y4_o : ¬ w4.heap.size = (w.heap.size + 1 + 1 + 1) := fun h => qne k4_o_0 h.symm; have q4_o : (w.heap.size + 1 + 1 + 1) < w4.heap.size := qlt k4_o_0; have hr24 := hr23.below hc4; have hrr4 := hrr'.below hc4; have hr4' := hr4.1; have hbw4 := hbw3.trans (hc4.mono hz3); have hz4 := hbw4.size; clear hc4 hc4' hone hr4; rw [VT.out, val_one, hN.out] at hr4' hca4; rw [VT.out, val_one, hN.out]) | (go_at_call 90; (with_reducible refine (nsub_any a2 ar _ c2 _ cr l2 U _ rfl rfl i2 hcar (by omega) (by omega) hr24 hrr4 (by rw [hv2.out, Hya.out, VU.out]; exact Nat.le_of_lt hMY.out)).mono ?_); rintro e w5 ⟨aS, cS, rfl, hcas, hrs, hc5⟩; have k5_r_0 : w5.cell? ⟨(w.heap.size + 1 + 1), 0, none⟩ = some (.bool false) := bca hc5; have g5_r_0 : w5.frozen? ⟨(w.heap.size + 1 + 1), 0, none⟩ = false := bfa hc5 (v := .bool false); have k5_r_1 : w5.cell? ⟨(w.heap.size + 1 + 1), 1, none⟩ = some (.slice none 0 0) := bca hc5; have g5_r_1 : w5.frozen? ⟨(w.heap.size + 1 + 1), 1, none⟩ = false := bfa hc5 (v := .slice none 0 0); have x5_r : ¬ (w.heap.size + 1 + 1) = w5.heap.size := qne k5_r_0; have y5_r : ¬ w5.heap.size = (w.heap.size + 1 + 1) := fun h => qne k5_r_0 h.symm; have q5_r : (w.heap.size + 1 + 1) < w5.heap.size := qlt k5_r_0; have k5_o_0 : w5.cell? ⟨(w.heap.size + 1 + 1 + 1), 0, none⟩ = some (.bool false) := bca hc5; have g5_o_0 : w5.frozen? ⟨(w.heap.size + 1 + 1 + 1), 0, none⟩ = false := bfa hc5 (v := .bool false); have k5_o_1 : w5.cell? ⟨(w.heap.size + 1 + 1 + 1), 1, none⟩ = some (.slice none 0 0) := bca hc5; have g5_o_1 : w5.frozen? ⟨(w.heap.size + 1 + 1 + 1), 1, none⟩ = false := bfa hc5 (v := .slice none 0 0); have x5_o : ¬ (w.heap.size + 1 + 1 + 1) = w5.heap.size := qne k5_o_0; have y5_o : ¬ w5.heap.size = (w.heap.size + 1 + 1 + 1) := fun h => qne k5_o_0 h.symm; have q5_o : (w.heap.size + 1 + 1 + 1) < w5.heap.size := qlt k5_o_0; have hr45 := hr4'.below hc5; have hrs' := hrs.1; have hbw5 := hbw4.trans (hc5.mono hz4); have hz5 := hbw5.size; clear hc5 hrs; rw [hv2.out, Hya.out, VU.out, hD.out] at hrs' hcas; rw [hv2.out, Hya.out, VU.out, hD.out]) | (go_at_call 76; (with_reducible refine (znew_any true a4 _ c4 N _ rfl hca4 (by omega) hr45).mono ?_); rintro e w6 ⟨a6, c6, rfl, hr6, hc6⟩; have k6_r_0 : w6.cell? ⟨(w.heap.size + 1 + 1), 0, none⟩ = some (.bool false) := bca hc6; have g6_r_0 : w6.frozen? ⟨(w.heap.size + 1 + 1), 0, none⟩ = false := bfa hc6 (v := .bool false); have k6_r_1 : w6.cell? ⟨(w.heap.size + 1 + 1), 1, none⟩ = some (.slice none 0 0) := bca hc6; have g6_r_1 : w6.frozen? ⟨(w.heap.size + 1 + 1), 1, none⟩ = false := bfa hc6 (v := .slice none 0 0); have x6_r : ¬ (w.heap.size + 1 + 1) = w6.heap.size := qne k6_r_0; have y6_r : ¬ w6.heap.size = (w.heap.size + 1 + 1) := fun h => qne k6_r_0 h.symm; have q6_r : (w.heap.size + 1 + 1) < w6.heap.size := qlt k6_r_0; have k6_o_0 : w6.cell? ⟨(w.heap.size + 1 + 1 + 1), 0, none⟩ = some (.bool false) := bca hc6; have g6_o_0 : w6.frozen? ⟨(w.heap.size + 1 + 1 + 1), 0, none⟩ = false := bfa hc6 (v := .bool false); have k6_o_1 : w6.cell? ⟨(w.heap.size + 1 + 1 + 1), 1, none⟩ = some (.slice none 0 0) := bca hc6; have g6_o_1 : w6.frozen? ⟨(w.heap.size + 1 + 1 + 1), 1, none⟩ = false := bfa hc6 (v := .slice none 0 0); have x6_o : ¬ (w.heap.size + 1 + 1 + 1) = w6.heap.size := qne k6_o_0; have y6_o : ¬ w6.heap.size = (w.heap.size + 1 + 1 + 1) := fun h => qne k6_o_0 h.symm; have q6_o : (w.heap.size + 1 + 1 + 1) < w6.heap.size := qlt k6_o_0; have hru6 := hrs'.below hc6; have hbw6 := hbw5.trans (hc6.mono hz5); have hz6 := hbw6.size; clear hc6) | (go_at_call 76; (with_reducible refine (znew_any τ aS _ cS E _ rfl hcas (by omega) hru6).mono ?_); rintro e w7 ⟨a7, c7, rfl, hr7, hc7⟩; have k7_r_0 : w7.cell? ⟨(w.heap.size + 1 + 1), 0, none⟩ = some (.bool false) := bca hc7; have g7_r_0 : w7.frozen? ⟨(w.heap.size + 1 + 1), 0, none⟩ = false := bfa hc7 (v := .bool false); have k7_r_1 : w7.cell? ⟨(w.heap.size + 1 + 1), 1, none⟩ = some (.slice none 0 0) := bca hc7; have g7_r_1 : w7.frozen? ⟨(w.heap.size + 1 + 1), 1, none⟩ = false := bfa hc7 (v := .slice none 0 0); have x7_r : ¬ (w.heap.size + 1 + 1) = w7.heap.size := qne k7_r_0; have y7_r : ¬ w7.heap.size = (w.heap.size + 1 + 1) := fun h => qne k7_r_0 h.symm; have q7_r : (w.heap.size + 1 + 1) < w7.heap.size := qlt k7_r_0; have k7_o_0 : w7.cell? ⟨(w.heap.size + 1 + 1 + 1), 0, none⟩ = some (.bool false) := bca hc7; have g7_o_0 : w7.frozen? ⟨(w.heap.size + 1 + 1 + 1), 0, none⟩ = false := bfa hc7 (v := .bool false); have k7_o_1 : w7.cell? ⟨(w.heap.size + 1 + 1 + 1), 1, none⟩ = some (.slice none 0 0) := bca hc7; have g7_o_1 : w7.frozen? ⟨(w.heap.size + 1 + 1 + 1), 1, none⟩ = false := bfa hc7 (v := .slice none 0 0); have x7_o : ¬ (w.heap.size + 1 + 1 + 1) = w7.heap.size := qne k7_o_0; have y7_o : ¬ w7.heap.size = (w.heap.size + 1 + 1 + 1) := fun h => qne k7_o_0 h.symm; have q7_o : (w.heap.size + 1 + 1 + 1) < w7.heap.size := qlt k7_o_0; have hro6 := own_below hr6 hc7; have hbw7 := hbw6.trans (hc7.mono hz6); clear hc7))
      refine bodyPost_ret (v := .tuple #[.agg #[.bool (decide (zv true (valD N) < 0)), .slice a6 (canon (zv true (valD N)).natAbs).length c6], .agg #[.bool (decide (zv τ (valD E) < 0)), .slice a7 (canon (zv τ (valD E)).natAbs).length c7], .int .i64 0]) (by simp [results, Try.results56, go_sem, *]) rfl ?_
      rw [HA.out.1, HA.out.2]
      exact ⟨a6, c6, a7, c7, rfl, own_mono (own_set_other (own_set_other (own_set_other (own_set_other hro6 (by omega) 0 _) (by omega) 1 _) (by omega) 0 _) (by omega) 1 _) hbw5.size, own_mono (own_set_other (own_set_other (own_set_other (own_set_other hr7 (by omega) 0 _) (by omega) 1 _) (by omega) 0 _) (by omega) 1 _) hbw6.size, (((hbw7.setCell (by simp; omega) _).setCell (by simp; omega) _).setCell (by simp; omega) _).setCell (by simp; omega) _⟩
end Go.Proofs.Ytcofiekfhnfjpaa

/- Z8 -/
namespace Go.Proofs.Ytcofiekfhnfjpaa
open Go.RowKit
set_option linter.unusedVariables false
set_option linter.unusedSimpArgs false
attribute [local go_sem ↓] Go.wp_at_zero Go.wp_at_succ
theorem shV_one (M : Nat) : shV M 1 = M * 2 := by simp [shV]
/-- One integer and no error are answered. -/
def DrZ (w : World) (q : Int) (e : Ending) (w' : World) : Prop := ∃ a1 c1, e = .returned (.tuple #[.agg #[.bool (decide (q < 0)), .slice a1 (canon q.natAbs).length c1], .int .i64 0]) ∧
  w'.ownsRow w.heap.size 49 1 (.slice a1 (canon q.natAbs).length c1) (canon q.natAbs).length (bv32 (canon q.natAbs)) ∧ Below w.heap.size w w'
set_option maxRecDepth 50000 in
set_option maxHeartbeats 1000000 in
theorem zdr_any (s t : Bool) (a b : Option Addr) (n c m d : Nat) (l k : List (BitVec 32)) (w : World) (hn : l.length = n) (hm : k.length = m) (hc : n ≤ c) (hd : m ≤ d) (hl : n ≤ 400000) (hl2 : m ≤ 400000) (hr : Rw w a l) (hs : Rw w b k) (hpos : 0 < valD k) :
    Calls Try.prog 58 #[.agg #[.bool s, .slice a n c], .agg #[.bool t, .slice b m d]] w (DrZ w (drZ (zv s (valD l)) (zv t (valD k)))) := by
  subst hn hm
  obtain ⟨x, hx⟩ : ∃ x, zv s (valD l) = x := ⟨_, rfl⟩
  obtain ⟨y, hy⟩ : ∃ y, zv t (valD k) = y := ⟨_, rfl⟩
  have Hx := Lib.hid hx
  have Hy := Lib.hid hy
  have Hxa : Hid (valD l = x.natAbs) := by show _ = _; rw [← hx, zv_abs]
  have Hya : Hid (valD k = y.natAbs) := by show _ = _; rw [← hy, zv_abs]
  obtain ⟨sx, hsx⟩ : ∃ v, x.sign = v := ⟨_, rfl⟩
  obtain ⟨sy, hsy⟩ : ∃ v, y.sign = v := ⟨_, rfl⟩
  have Hsx := Lib.hid hsx
  have Hsy := Lib.hid hsy
  have hyp : 0 < y.natAbs := by rw [← Hya.out]; exact hpos
  have HYP := Lib.hid hyp
  obtain ⟨Q, hQ⟩ : ∃ Q, x.natAbs / y.natAbs = Q := ⟨_, rfl⟩
  obtain ⟨M, hM⟩ : ∃ M, x.natAbs % y.natAbs = M := ⟨_, rfl⟩
  have HQ := Lib.hid hQ
  have HM := Lib.hid hM
  obtain ⟨T, hT⟩ := ex_canon Q
  obtain ⟨U, hU⟩ := ex_canon M
  have VT : Hid (valD T = Q) := by show _ = _; rw [← hT.out, valD_canon]
  have VU : Hid (valD U = M) := by show _ = _; rw [← hU.out, valD_canon]
  have fx : (canon x.natAbs).length ≤ 400000 := by rw [← Hxa.out]; exact fit_abs hl
  have fy : (canon y.natAbs).length ≤ 400000 := by rw [← Hya.out]; exact fit_abs hl2
  have fT : T.length ≤ 400000 := by rw [← hT.out, ← hQ]; exact canon_mono (Nat.div_le_self _ _) fx
  have fU : U.length ≤ 400000 := by rw [← hU.out, ← hM]; exact canon_mono (Nat.mod_le _ _) fx
  have hMY : Hid (M < y.natAbs) := by show _ < _; rw [← hM]; exact Nat.mod_lt _ hyp
  have hw : IntKind.i64.wrap (sx * sy) = sx * sy := by
    have := sign_prod_abs x y
    rw [hsx, hsy] at this
    rw [IntKind.wrap_i64]; rcases this with h | h | h <;> rw [h] <;> rfl
  obtain ⟨σ, hσ⟩ : ∃ σ, decide (sx * sy < 0) = σ := ⟨_, rfl⟩
  obtain ⟨τ, hτ⟩ : ∃ τ, decide (y < 0) = τ := ⟨_, rfl⟩
  have hτ2 : decide (sy < 0) = τ := by
    rw [← hτ, ← hsy, sign_ite, Bool.eq_iff_iff, decide_eq_true_iff, decide_eq_true_iff]
    split
    · omega
    · split <;> omega
  have Hσ : Hid (decide (x.sign * y.sign < 0) = σ) := by show _ = _; rw [hsx, hsy]; exact hσ
  have Hτ := Lib.hid hτ
  have Hmag := Lib.hid (And.intro Hx.out Hy.out)
  rw [hx, hy]
  obtain ⟨V, hV⟩ := ex_canon (M * 2)
  have VV : Hid (valD V = M * 2) := by show _ = _; rw [← hV.out, valD_canon]
  have HSH : Hid (canon (shV (valD U) 1) = V) := by show _ = _; rw [shV_one, VU.out]; exact hV.out
  have fV : V.length ≤ 800000 := by
    rw [← hV.out]
    refine Nat.le_trans ((canon_len_le _ _).2 ?_) (show 400001 ≤ 800000 by omega)
    have h1 := (canon_len_le _ _).1 (show (canon M).length ≤ 400000 by rw [hU.out]; exact fU)
    have h2 : pw (400000 + 1) = pw 400000 * 4294967296 := pw_succ 400000
    show _ < pw (400000 + 1)
    omega
  obtain ⟨rc, hrc⟩ : ∃ v, cmpN (M * 2) y.natAbs = v := ⟨_, rfl⟩
  have HRC := Lib.hid hrc
  have hquo := quo_num2 hyp (Nat.div_add_mod x.natAbs y.natAbs) (Nat.mod_lt _ hyp)
  rw [hM, hQ] at hquo
  obtain ⟨N, hN⟩ := ex_canon (Q + 1)
  have VN : Hid (valD N = Q + 1) := by show _ = _; rw [← hN.out, valD_canon]
  have fN : N.length ≤ 400001 := by rw [← hN.out]; exact canon_succ (by rw [hT.out]; exact fT)
  have hb0 := ((Below.alloc (Below.refl w.heap.size w) (Nat.le_refl _) (.cells #[Value.bool s, Value.slice a l.length c] 24)).alloc (by simp) (.cells #[Value.bool t, Value.slice b k.length d] 24)).alloc (by simp; omega) (.cells #[Value.bool false, Value.slice none 0 0] 24)
  have hz0 := hb0.size
  by_cases h : y.natAbs ≤ M * 2
  · have HA : Hid (drZ x y = zv σ (valD N)) := by
      show _ = _
      rw [drZ, hquo, if_pos h, VN.out, Hσ.out]
    have hge : decide (0 ≤ rc) = true := by
      rw [decide_eq_true_iff, ← hrc]
      obtain ⟨v, h1, h2⟩ := cmpN_ge h
      rw [h1]; simpa using h2
    clear hx hy hsx hsy hQ hM hτ hyp hpos hrc hquo h
    go_enter Try.func58, Try.ntmps58
    go_wp2_with (first | (go_at_call 73; (with_reducible refine (zdec_any s a _ c l _ rfl hc (by omega) (hr.below hb0)).mono ?_); rintro e w1 ⟨a1, c1, l1, rfl, i1, j1, v1, hr1, hc1⟩; have hv1 := Lib.hid v1; clear v1; have k1_q_0 : w1.cell? ⟨(w.heap.size + 1), 0, none⟩ = some (.bool t) := bca hc1; have g1_q_0 : w1.frozen? ⟨(w.heap.size + 1), 0, none⟩ = false := bfa hc1 (v := .bool t); have k1_q_1 : w1.cell? ⟨(w.heap.size + 1), 1, none⟩ = some (.slice b k.length d) := bca hc1; have g1_q_1 : w1.frozen? ⟨(w.heap.size + 1), 1, none⟩ = false := bfa hc1 (v := .slice b k.length d); have x1_q : ¬ (w.heap.size + 1) = w1.heap.size := qne k1_q_0; have y1_q : ¬ w1.heap.size = (w.heap.size + 1) := fun h => qne k1_q_0 h.symm; have q1_q : (w.heap.size + 1) < w1.heap.size := qlt k1_q_0; have k1_r_0 : w1.cell? ⟨(w.heap.size + 1 + 1), 0, none⟩ = some (.bool false) := bca hc1; have g1_r_0 : w1.frozen? ⟨(w.heap.size + 1 + 1), 0, none⟩ = false := bfa hc1 (v := .bool false); have k1_r_1 : w1.cell? ⟨(w.heap.size + 1 + 1), 1, none⟩ = some (.slice none 0 0) := bca hc1; have g1_r_1 : w1.frozen? ⟨(w.heap.size + 1 + 1), 1, none⟩ = false := bfa hc1 (v := .slice none 0 0); have x1_r : ¬ (w.heap.size + 1 + 1) = w1.heap.size := qne k1_r_0; have y1_r : ¬ w1.heap.size = (w.heap.size + 1 + 1) := fun h => qne k1_r_0 h.symm; have q1_r : (w.heap.size + 1 + 1) < w1.heap.size := qlt k1_r_0; have hbw1 := hb0.trans (hc1.mono hz0); have hz1 := hbw1.size; clear hc1; rw [Hx.out, Hsx.out]) | (go_at_call 73; (with_reducible refine (zdec_any t b _ d k _ rfl hd (by omega) (hs.below hbw1)).mono ?_); rintro e w2 ⟨a2, c2, l2, rfl, i2, j2, v2, hr2, hc2⟩; have hv2 := Lib.hid v2; clear v2; have k2_r_0 : w2.cell? ⟨(w.heap.size + 1 + 1), 0, none⟩ = some (.bool false) := bca hc2; have g2_r_0 : w2.frozen? ⟨(w.heap.size + 1 + 1), 0, none⟩ = false := bfa hc2 (v := .bool false); have k2_r_1 : w2.cell? ⟨(w.heap.size + 1 + 1), 1, none⟩ = some (.slice none 0 0) := bca hc2; have g2_r_1 : w2.frozen? ⟨(w.heap.size + 1 + 1), 1, none⟩ = false := bfa hc2 (v := .slice none 0 0); have x2_r : ¬ (w.heap.size + 1 + 1) = w2.heap.size := qne k2_r_0; have y2_r : ¬ w2.heap.size = (w.heap.size + 1 + 1) := fun h => qne k2_r_0 h.symm; have q2_r : (w.heap.size + 1 + 1) < w2.heap.size := qlt k2_r_0; have hr12 := hr1.below hc2; have hbw2 := hbw1.trans (hc2.mono hz1); have hz2 := hbw2.size; clear hc2; rw [Hy.out, Hsy.out]) | (go_at_call 75; (with_reducible refine (ndm_any a1 a2 _ c1 _ c2 l1 l2 _ rfl rfl i1 i2 (by omega) (by omega) hr12 hr2 (by rw [hv2.out, Hya.out]; exact HYP.out)).mono ?_); rintro e w3 ⟨a3, c3, ar, cr, rfl, hca3, hcar, hr3, hrr, hc3⟩; have k3_r_0 : w3.cell? ⟨(w.heap.size + 1 + 1), 0, none⟩ = some (.bool false) := bca hc3; have g3_r_0 : w3.frozen? ⟨(w.heap.size + 1 + 1), 0, none⟩ = false := bfa hc3 (v := .bool false); have k3_r_1 : w3.cell? ⟨(w.heap.size + 1 + 1), 1, none⟩ = some (.slice none 0 0) := bca hc3; have g3_r_1 : w3.frozen? ⟨(w.heap.size + 1 + 1), 1, none⟩ = false := bfa hc3 (v := .slice none 0 0); have x3_r : ¬ (w.heap.size + 1 + 1) = w3.heap.size := qne k3_r_0; have y3_r : ¬ w3.heap.size = (w.heap.size + 1 + 1) := fun h => qne k3_r_0 h.symm; have q3_r : (w.heap.size + 1 + 1) < w3.heap.size := qlt k3_r_0; have hr23 := hr2.below hc3; have hr3' := hr3.1; have hrr' := hrr.1; have hbw3 := hbw2.trans (hc3.mono hz2); have hz3 := hbw3.size; clear hc3 hr3 hrr; rw [hv1.out, hv2.out, Hxa.out, Hya.out, HQ.out, hT.out] at hr3' hca3; rw [hv1.out, hv2.out, Hxa.out, Hya.out, HM.out, hU.out] at hrr' hcar; rw [hv1.out, hv2.out, Hxa.out, Hya.out, HQ.out, HM.out, hT.out, hU.out]) | (go_at_call 92; (with_reducible refine (nshift_any ar _ cr 1 U _ rfl hcar (by omega) hrr' (by decide)).mono ?_); rintro e w4 ⟨a4, c4, rfl, hca4, hr4, hc4⟩; have k4_r_0 : w4.cell? ⟨(w.heap.size + 1 + 1), 0, none⟩ = some (.bool false) := bca hc4; have g4_r_0 : w4.frozen? ⟨(w.heap.size + 1 + 1), 0, none⟩ = false := bfa hc4 (v := .bool false); have k4_r_1 : w4.cell? ⟨(w.heap.size + 1 + 1), 1, none⟩ = some (.slice none 0 0) := bca hc4; have g4_r_1 : w4.frozen? ⟨(w.heap.size + 1 + 1), 1, none⟩ = false := bfa hc4 (v := .slice none 0 0); have x4_r : ¬ (w.heap.size + 1 + 1) = w4.heap.size := qne k4_r_0; have y4_r : ¬ w4.heap.size = (w.heap.size + 1 + 1) := fun h => qne k4_r_0 h.symm; have q4_r : (w.heap.size + 1 + 1) < w4.heap.size := qlt k4_r_0; have hr24 := hr23.below hc4; have hr34 := hr3'.below hc4; have hr4' := hr4.1; have hbw4 := hbw3.trans (hc4.mono hz3); have hz4 := hbw4.size; clear hc4 hr4; rw [HSH.out] at hr4' hca4; rw [HSH.out]) | (go_at_call 91; (with_reducible refine (ncmp_any a4 a2 _ c4 _ c2 V l2 _ rfl rfl hca4 i2 (by omega) (by omega) hr4' hr24).mono ?_); rintro e w5 ⟨rfl, hw5⟩; have hc5 := drew_below hw5; have k5_r_0 : w5.cell? ⟨(w.heap.size + 1 + 1), 0, none⟩ = some (.bool false) := bca hc5; have g5_r_0 : w5.frozen? ⟨(w.heap.size + 1 + 1), 0, none⟩ = false := bfa hc5 (v := .bool false); have k5_r_1 : w5.cell? ⟨(w.heap.size + 1 + 1), 1, none⟩ = some (.slice none 0 0) := bca hc5; have g5_r_1 : w5.frozen? ⟨(w.heap.size + 1 + 1), 1, none⟩ = false := bfa hc5 (v := .slice none 0 0); have x5_r : ¬ (w.heap.size + 1 + 1) = w5.heap.size := qne k5_r_0; have y5_r : ¬ w5.heap.size = (w.heap.size + 1 + 1) := fun h => qne k5_r_0 h.symm; have q5_r : (w.heap.size + 1 + 1) < w5.heap.size := qlt k5_r_0; have hr35 := hr34.below hc5; have hbw5 := hbw4.trans (hc5.mono hz4); have hz5 := hbw5.size; clear hw5 hc5; rw [VV.out, hv2.out, Hya.out, HRC.out]) | (go_at_call 89; have hone := Below.alloc (Below.refl w5.heap.size w5) (Nat.le_refl _) (.cells #[Value.int IntKind.u32 1] 49); (with_reducible refine (nadd_any a3 (some ⟨w5.heap.size, 0, none⟩) _ c3 1 1 T [1#32] (w5.alloc (.cells #[Value.int IntKind.u32 1] 49)) rfl rfl hca3 (by decide) (by omega) (by decide) (hr35.below hone) (Rw.of_alloc rfl rfl)).mono ?_); rintro e w6 ⟨a6, c6, rfl, hca6, hr6, hc6'⟩; have hc6 := hone.trans (hc6'.mono hone.size); have k6_r_0 : w6.cell? ⟨(w.heap.size + 1 + 1), 0, none⟩ = some (.bool false) := bca hc6; have g6_r_0 : w6.frozen? ⟨(w.heap.size + 1 + 1), 0, none⟩ = false := bfa hc6 (v := .bool false); have k6_r_1 : w6.cell? ⟨(w.heap.size + 1 + 1), 1, none⟩ = some (.slice none 0 0) := bca hc6; have g6_r_1 : w6.frozen? ⟨(w.heap.size + 1 + 1), 1, none⟩ = false := bfa hc6 (v := .slice none 0 0); have x6_r : ¬ (w.heap.size + 1 + 1) = w6.heap.size := qne k6_r_0; have y6_r : ¬ w6.heap.size = (w.heap.size + 1 + 1) := fun h => qne k6_r_0 h.symm; have q6_r : (w.heap.size + 1 + 1) < w6.heap.size := qlt k6_r_0;  have hr6' := hr6.1; have hbw6 := hbw5.trans (hc6.mono hz5); have hz6 := hbw6.size; clear hc6 hc6' hone hr6; rw [VT.out, val_one, hN.out] at hr6' hca6; rw [VT.out, val_one, hN.out]) | (go_at_call 76; (with_reducible refine (znew_any σ a6 _ c6 N _ rfl hca6 (by omega) hr6').mono ?_); rintro e w7 ⟨a7, c7, rfl, hr7, hc7⟩; have k7_r_0 : w7.cell? ⟨(w.heap.size + 1 + 1), 0, none⟩ = some (.bool false) := bca hc7; have g7_r_0 : w7.frozen? ⟨(w.heap.size + 1 + 1), 0, none⟩ = false := bfa hc7 (v := .bool false); have k7_r_1 : w7.cell? ⟨(w.heap.size + 1 + 1), 1, none⟩ = some (.slice none 0 0) := bca hc7; have g7_r_1 : w7.frozen? ⟨(w.heap.size + 1 + 1), 1, none⟩ = false := bfa hc7 (v := .slice none 0 0); have x7_r : ¬ (w.heap.size + 1 + 1) = w7.heap.size := qne k7_r_0; have y7_r : ¬ w7.heap.size = (w.heap.size + 1 + 1) := fun h => qne k7_r_0 h.symm; have q7_r : (w.heap.size + 1 + 1) < w7.heap.size := qlt k7_r_0; have hbw7 := hbw6.trans (hc7.mono hz6); clear hc7))
    refine bodyPost_ret (v := .tuple #[.agg #[.bool (decide (zv σ (valD N) < 0)), .slice a7 (canon (zv σ (valD N)).natAbs).length c7], .int .i64 0]) (by simp [results, Try.results58, go_sem, *]) rfl ?_
    rw [HA.out]
    exact ⟨a7, c7, rfl, own_mono (own_set_other (own_set_other hr7 (by omega) 0 _) (by omega) 1 _) hbw6.size, (hbw7.setCell (by simp; omega) _).setCell (by simp; omega) _⟩
  · have HA : Hid (drZ x y = zv σ (valD T)) := by
      show _ = _
      rw [drZ, hquo, if_neg h, VT.out, Hσ.out]
    have hge : decide (0 ≤ rc) = false := by
      rw [decide_eq_false_iff_not, ← hrc, cmpN_lt (by omega)]; omega
    clear hx hy hsx hsy hQ hM hτ hyp hpos hrc hquo h
    go_enter Try.func58, Try.ntmps58
    go_wp2_with (first | (go_at_call 73; (with_reducible refine (zdec_any s a _ c l _ rfl hc (by omega) (hr.below hb0)).mono ?_); rintro e w1 ⟨a1, c1, l1, rfl, i1, j1, v1, hr1, hc1⟩; have hv1 := Lib.hid v1; clear v1; have k1_q_0 : w1.cell? ⟨(w.heap.size + 1), 0, none⟩ = some (.bool t) := bca hc1; have g1_q_0 : w1.frozen? ⟨(w.heap.size + 1), 0, none⟩ = false := bfa hc1 (v := .bool t); have k1_q_1 : w1.cell? ⟨(w.heap.size + 1), 1, none⟩ = some (.slice b k.length d) := bca hc1; have g1_q_1 : w1.frozen? ⟨(w.heap.size + 1), 1, none⟩ = false := bfa hc1 (v := .slice b k.length d); have x1_q : ¬ (w.heap.size + 1) = w1.heap.size := qne k1_q_0; have y1_q : ¬ w1.heap.size = (w.heap.size + 1) := fun h => qne k1_q_0 h.symm; have q1_q : (w.heap.size + 1) < w1.heap.size := qlt k1_q_0; have k1_r_0 : w1.cell? ⟨(w.heap.size + 1 + 1), 0, none⟩ = some (.bool false) := bca hc1; have g1_r_0 : w1.frozen? ⟨(w.heap.size + 1 + 1), 0, none⟩ = false := bfa hc1 (v := .bool false); have k1_r_1 : w1.cell? ⟨(w.heap.size + 1 + 1), 1, none⟩ = some (.slice none 0 0) := bca hc1; have g1_r_1 : w1.frozen? ⟨(w.heap.size + 1 + 1), 1, none⟩ = false := bfa hc1 (v := .slice none 0 0); have x1_r : ¬ (w.heap.size + 1 + 1) = w1.heap.size := qne k1_r_0; have y1_r : ¬ w1.heap.size = (w.heap.size + 1 + 1) := fun h => qne k1_r_0 h.symm; have q1_r : (w.heap.size + 1 + 1) < w1.heap.size := qlt k1_r_0; have hbw1 := hb0.trans (hc1.mono hz0); have hz1 := hbw1.size; clear hc1; rw [Hx.out, Hsx.out]) | (go_at_call 73; (with_reducible refine (zdec_any t b _ d k _ rfl hd (by omega) (hs.below hbw1)).mono ?_); rintro e w2 ⟨a2, c2, l2, rfl, i2, j2, v2, hr2, hc2⟩; have hv2 := Lib.hid v2; clear v2; have k2_r_0 : w2.cell? ⟨(w.heap.size + 1 + 1), 0, none⟩ = some (.bool false) := bca hc2; have g2_r_0 : w2.frozen? ⟨(w.heap.size + 1 + 1), 0, none⟩ = false := bfa hc2 (v := .bool false); have k2_r_1 : w2.cell? ⟨(w.heap.size + 1 + 1), 1, none⟩ = some (.slice none 0 0) := bca hc2; have g2_r_1 : w2.frozen? ⟨(w.heap.size + 1 + 1), 1, none⟩ = false := bfa hc2 (v := .slice none 0 0); have x2_r : ¬ (w.heap.size + 1 + 1) = w2.heap.size := qne k2_r_0; have y2_r : ¬ w2.heap.size = (w.heap.size + 1 + 1) := fun h => qne k2_r_0 h.symm; have q2_r : (w.heap.size + 1 + 1) < w2.heap.size := qlt k2_r_0; have hr12 := hr1.below hc2; have hbw2 := hbw1.trans (hc2.mono hz1); have hz2 := hbw2.size; clear hc2; rw [Hy.out, Hsy.out]) | (go_at_call 75; (with_reducible refine (ndm_any a1 a2 _ c1 _ c2 l1 l2 _ rfl rfl i1 i2 (by omega) (by omega) hr12 hr2 (by rw [hv2.out, Hya.out]; exact HYP.out)).mono ?_); rintro e w3 ⟨a3, c3, ar, cr, rfl, hca3, hcar, hr3, hrr, hc3⟩; have k3_r_0 : w3.cell? ⟨(w.heap.size + 1 + 1), 0, none⟩ = some (.bool false) := bca hc3; have g3_r_0 : w3.frozen? ⟨(w.heap.size + 1 + 1), 0, none⟩ = false := bfa hc3 (v := .bool false); have k3_r_1 : w3.cell? ⟨(w.heap.size + 1 + 1), 1, none⟩ = some (.slice none 0 0) := bca hc3; have g3_r_1 : w3.frozen? ⟨(w.heap.size + 1 + 1), 1, none⟩ = false := bfa hc3 (v := .slice none 0 0); have x3_r : ¬ (w.heap.size + 1 + 1) = w3.heap.size := qne k3_r_0; have y3_r : ¬ w3.heap.size = (w.heap.size + 1 + 1) := fun h => qne k3_r_0 h.symm; have q3_r : (w.heap.size + 1 + 1) < w3.heap.size := qlt k3_r_0; have hr23 := hr2.below hc3; have hr3' := hr3.1; have hrr' := hrr.1; have hbw3 := hbw2.trans (hc3.mono hz2); have hz3 := hbw3.size; clear hc3 hr3 hrr; rw [hv1.out, hv2.out, Hxa.out, Hya.out, HQ.out, hT.out] at hr3' hca3; rw [hv1.out, hv2.out, Hxa.out, Hya.out, HM.out, hU.out] at hrr' hcar; rw [hv1.out, hv2.out, Hxa.out, Hya.out, HQ.out, HM.out, hT.out, hU.out]) | (go_at_call 92; (with_reducible refine (nshift_any ar _ cr 1 U _ rfl hcar (by omega) hrr' (by decide)).mono ?_); rintro e w4 ⟨a4, c4, rfl, hca4, hr4, hc4⟩; have k4_r_0 : w4.cell? ⟨(w.heap.size + 1 + 1), 0, none⟩ = some (.bool false) := bca hc4; have g4_r_0 : w4.frozen? ⟨(w.heap.size + 1 + 1), 0, none⟩ = false := bfa hc4 (v := .bool false); have k4_r_1 : w4.cell? ⟨(w.heap.size + 1 + 1), 1, none⟩ = some (.slice none 0 0) := bca hc4; have g4_r_1 : w4.frozen? ⟨(w.heap.size + 1 + 1), 1, none⟩ = false := bfa hc4 (v := .slice none 0 0); have x4_r : ¬ (w.heap.size + 1 + 1) = w4.heap.size := qne k4_r_0; have y4_r : ¬ w4.heap.size = (w.heap.size + 1 + 1) := fun h => qne k4_r_0 h.symm; have q4_r : (w.heap.size + 1 + 1) < w4.heap.size := qlt k4_r_0; have hr24 := hr23.below hc4; have hr34 := hr3'.below hc4; have hr4' := hr4.1; have hbw4 := hbw3.trans (hc4.mono hz3); have hz4 := hbw4.size; clear hc4 hr4; rw [HSH.out] at hr4' hca4; rw [HSH.out]) | (go_at_call 91; (with_reducible refine (ncmp_any a4 a2 _ c4 _ c2 V l2 _ rfl rfl hca4 i2 (by omega) (by omega) hr4' hr24).mono ?_); rintro e w5 ⟨rfl, hw5⟩; have hc5 := drew_below hw5; have k5_r_0 : w5.cell? ⟨(w.heap.size + 1 + 1), 0, none⟩ = some (.bool false) := bca hc5; have g5_r_0 : w5.frozen? ⟨(w.heap.size + 1 + 1), 0, none⟩ = false := bfa hc5 (v := .bool false); have k5_r_1 : w5.cell? ⟨(w.heap.size + 1 + 1), 1, none⟩ = some (.slice none 0 0) := bca hc5; have g5_r_1 : w5.frozen? ⟨(w.heap.size + 1 + 1), 1, none⟩ = false := bfa hc5 (v := .slice none 0 0); have x5_r : ¬ (w.heap.size + 1 + 1) = w5.heap.size := qne k5_r_0; have y5_r : ¬ w5.heap.size = (w.heap.size + 1 + 1) := fun h => qne k5_r_0 h.symm; have q5_r : (w.heap.size + 1 + 1) < w5.heap.size := qlt k5_r_0; have hr35 := hr34.below hc5; have hbw5 := hbw4.trans (hc5.mono hz4); have hz5 := hbw5.size; clear hw5 hc5; rw [VV.out, hv2.out, Hya.out, HRC.out]) | (go_at_call 76; (with_reducible refine (znew_any σ a3 _ c3 T _ rfl hca3 (by omega) hr35).mono ?_); rintro e w6 ⟨a6, c6, rfl, hr6, hc6⟩; have k6_r_0 : w6.cell? ⟨(w.heap.size + 1 + 1), 0, none⟩ = some (.bool false) := bca hc6; have g6_r_0 : w6.frozen? ⟨(w.heap.size + 1 + 1), 0, none⟩ = false := bfa hc6 (v := .bool false); have k6_r_1 : w6.cell? ⟨(w.heap.size + 1 + 1), 1, none⟩ = some (.slice none 0 0) := bca hc6; have g6_r_1 : w6.frozen? ⟨(w.heap.size + 1 + 1), 1, none⟩ = false := bfa hc6 (v := .slice none 0 0); have x6_r : ¬ (w.heap.size + 1 + 1) = w6.heap.size := qne k6_r_0; have y6_r : ¬ w6.heap.size = (w.heap.size + 1 + 1) := fun h => qne k6_r_0 h.symm; have q6_r : (w.heap.size + 1 + 1) < w6.heap.size := qlt k6_r_0; have hbw6 := hbw5.trans (hc6.mono hz5); clear hc6))
    refine bodyPost_ret (v := .tuple #[.agg #[.bool (decide (zv σ (valD T) < 0)), .slice a6 (canon (zv σ (valD T)).natAbs).length c6], .int .i64 0]) (by simp [results, Try.results58, go_sem, *]) rfl ?_
    rw [HA.out]
    exact ⟨a6, c6, rfl, own_mono (own_set_other (own_set_other hr6 (by omega) 0 _) (by omega) 1 _) hbw5.size, (hbw6.setCell (by simp; omega) _).setCell (by simp; omega) _⟩
end Go.Proofs.Ytcofiekfhnfjpaa

